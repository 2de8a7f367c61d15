/- RecordSamples: for every float32 and every list of float32 the law returns true, and its arguments read as they did before. Conditions: the package-level variables that the row lists hold what the program's text lays (the card ties them to it). -/
import Derived.Test.YtjgofnbfpoephaaGreatDoorM44
import Derived.Test.YtjgofnbfpoephaaGreatDoorM41
import Derived.Test.YtjgofnbfpoephaaGreatDoorM45
namespace Go.Proofs.YtjgofnbfpoephaaGreatDoor
set_option linter.all false
open Go.RowKit Go.ChangeShapes Go.WideShapes Go.ChangeAt Go.Lib
set_option linter.unusedVariables false

set_option maxRecDepth 100000 in
theorem s_lifted (haw : AwakeOk) (os : Os) (started : os.Started) (H : Type) (enc : TypeId × Value → H) :
    ReturnsInHanded {} Tryz.checked os 4 .any (fun w args => (Rows.recordSamplesSpec.pre enc Tryz.prog Tryz.f4 [] false w args ∧ laidMetH Tryz.prog Rows.recordSamplesRow.laid w) ∧ sizedMet enc Tryz.prog Tryz.f4 (OpenSpec.ofChange Rows.recordSamplesSpec) false w args)
      (Rows.recordSamplesSpec.post enc Tryz.prog Tryz.f4 false true false false) := by
  refine returns_and_shaped (C := Tryz.checked) (X := fun w _ => laidMetH Tryz.prog Rows.recordSamplesRow.laid w) (fun _ _ _ hh h => h.of_heap hh) own_knob started (by kernel_rfl) Tryz.func4
    (ChangeSpec.witness_shaped (enc := enc) (C := Tryz.checked) (os := os) (X := fun w _ => laidMetH Tryz.prog Rows.recordSamplesRow.laid w) false (World.laidAll Tryz.prog os Rows.recordSamplesRow.laid) #[.float .f32 0, .slice none 0 0] 8 (World.laidAll_os _ _ _)
      (World.shaped_of_ZipB (by kernel_rfl) (by kernel_rfl)) (by kernel_rfl) (by kernel_rfl) (by kernel_rfl)
      (by rw [MakeChecks.laidMetH_plain _ _ _ (by kernel_rfl)]; exact laidMet_laidAll _ (by kernel_rfl) (by kernel_rfl))) ?_
  intro W base args ds gs before hval0 hW hL hsh
  have hval : ∀ (j : Nat) t v, Tryz.f4.params[j]? = some t → args[j]? = some v → Value.okWide Tryz.prog W .any base t v := hval0
  have hW' := hW
  obtain ⟨p, q, hA0, hV, rfl, _, _⟩ := hW
  have hA : DataW.TrodAll enc Tryz.prog W 0 (fun _ => true) true Tryz.f4.params.toList args.toList ds p := hA0
  obtain ⟨rfl, rfl⟩ := trodVars_none hV
  rw [MakeChecks.laidMetH_plain _ _ _ (by kernel_rfl)] at hL
  have hT := aw_of hL hsh
  rw [Tryz.params4] at hA hval
  obtain ⟨v0, v1, d0, d1, p0, p1, rfl, rfl, rfl, h0, h1⟩ := trodAll_two hA
  obtain ⟨x, rfl⟩ := ok_flt Tryz.underlying37 (hval 0 _ _ rfl rfl)
  obtain ⟨A, c, xs, rfl, hR, hlc, hc, hm⟩ := open_flts Tryz.underlying38 Tryz.underlying37 (by kernel_rfl) (hval 1 _ _ rfl rfl) h1
  refine (recordSamples_ok haw x A c xs W hR hlc hc (by unfold maxLen at hm; omega) hT).mono fun e W' ⟨he, hb⟩ => ?_
  subst he
  refine ⟨_, rfl, law_shut hW' rfl (by kernel_rfl) rfl ?_ hb⟩
  rw [Tryz.params4]
  intro t ht
  have hm : t ∈ [37, 38] := ht
  have hall : ([37, 38].all fun u => Tryz.prog.readableRec u && decide (u < Tryz.prog.types.size)) = true := by kernel_rfl
  simpa using List.all_eq_true.1 hall t hm

theorem s_in : Rows.recordSamplesRow.inPlace = Tryz.prog.inPlace 4 := by kernel_rfl
theorem s_un : Rows.recordSamplesRow.unfollowed = Tryz.prog.unfollowed 4 := by kernel_rfl
theorem s_re : Rows.recordSamplesRow.recurses = Tryz.prog.recurses 4 := by kernel_rfl
theorem s_na : Rows.recordSamplesRow.named = Tryz.prog.varsNamed 4 := by kernel_rfl
set_option maxRecDepth 100000 in
theorem s_closed : joinedFacts Tryz.prog 4 Tryz.f4 Rows.recordSamplesSpec Rows.recordSamplesRow = true := by
  unfold joinedFacts
  rw [← s_in, ← s_un, ← s_re, ← s_na]
  kernel_rfl
theorem s_fn : Tryz.prog.funcNamed "glideslope/glideslopelaw01.RecordSamples" = some 4 := by kernel_rfl
theorem s_inst : Tryz.f4.isInstance Tryz.prog Rows.recordSamplesRow.origin Rows.recordSamplesRow.targs := of_decide_eq_true (by kernel_rfl)
theorem s_wrap : Tryz.f4.isWrapper Tryz.prog Rows.recordSamplesRow.wrapper Rows.recordSamplesRow.mainSum := by
  unfold Func.isWrapper; first | (rw [if_pos (by decide +kernel)]; kernel_rfl) | (rw [if_neg (by decide +kernel)]; exact ⟨rfl, rfl⟩)
theorem s_said : Rows.RecordSamplesSaid :=
  OpenClaim.holds_of_wide (p := Tryz.pinned) 4 Tryz.f4 rfl rfl rfl rfl rfl rfl rfl ⟨rfl, rfl, rfl, rfl, rfl⟩ rfl rfl rfl rfl rfl s_fn Tryz.func4 s_closed s_inst s_wrap
    (fun os started H enc _ => s_lifted awake_ok os started H enc)
theorem s_wf : Rows.recordSamplesRow.wfByText (OpenSpec.ofChange Rows.recordSamplesSpec) = true := by kernel_rfl
theorem s_main : Tryz.pinned.checked.prog.mainIs = some (Rows.recordSamplesCard.stood.harness.1, Rows.recordSamplesCard.stood.harness.2.toList) := by kernel_rfl
theorem s_looks : false = Tryz.prog.looks [] := by kernel_rfl
theorem s_goes : false = Rows.recordSamplesRow.goesBy Tryz.prog := by kernel_rfl
theorem recordSamples_card : Rows.RecordSamplesCardSaid :=
  Claim7.holds_tied_plain_at .later [] [.data, .data, .data, .data, .data, .pinned] true Rows.recordSamplesCard.stood.harness false s_said (fun _ h => by cases h) s_wf (fun _ h => by cases h) recordSamples_row_tie rfl ⟨rfl, rfl⟩ s_main rfl
    (fun f fn hf hfn => by
      obtain rfl : f = 4 := (Option.some.inj (s_fn.symm.trans hf)).symm
      obtain rfl : fn = Tryz.f4 := (Option.some.inj (Tryz.func4.symm.trans hfn)).symm
      exact ⟨s_looks, fun j t ht => by
        rw [Tryz.params4] at ht
        have hm : t ∈ [37, 38] := by simpa using Array.mem_of_getElem? ht
        have hall : ([37, 38].all fun u => !Tryz.prog.wantsStandIn u) = true := by kernel_rfl
        exact (show Tryz.prog.wantsStandIn t = false by simpa using List.all_eq_true.1 hall t hm)⟩)
    s_goes
#print axioms recordSamples_card
end Go.Proofs.YtjgofnbfpoephaaGreatDoor
