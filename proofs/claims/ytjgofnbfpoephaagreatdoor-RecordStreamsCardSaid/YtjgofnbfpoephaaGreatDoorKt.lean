/- RecordStreams: for every list of float32 and every list of bytes the law returns true, and its arguments read as they did before. Conditions: the package-level variables that the row lists hold what the program's text lays (the card ties them to it). -/
import Derived.Test.YtjgofnbfpoephaaGreatDoorM48
import Derived.Test.YtjgofnbfpoephaaGreatDoorM47
import Derived.Test.YtjgofnbfpoephaaGreatDoorM41
import Derived.Test.YtjgofnbfpoephaaGreatDoorM45
namespace Go.Proofs.YtjgofnbfpoephaaGreatDoor
set_option linter.all false
open Go.RowKit Go.ChangeShapes Go.WideShapes Go.ChangeAt Go.Lib
set_option linter.unusedVariables false

set_option maxRecDepth 100000 in
theorem t_lifted (haw : AwakeOk) (os : Os) (started : os.Started) (H : Type) (enc : TypeId × Value → H) :
    ReturnsInHanded {} Tryz.checked os 12 .any (fun w args => (Rows.recordStreamsSpec.pre enc Tryz.prog Tryz.f12 [] false w args ∧ laidMetH Tryz.prog Rows.recordStreamsRow.laid w) ∧ sizedMet enc Tryz.prog Tryz.f12 (OpenSpec.ofChange Rows.recordStreamsSpec) false w args)
      (Rows.recordStreamsSpec.post enc Tryz.prog Tryz.f12 false true false false) := by
  refine returns_and_shaped (C := Tryz.checked) (X := fun w _ => laidMetH Tryz.prog Rows.recordStreamsRow.laid w) (fun _ _ _ hh h => h.of_heap hh) own_knob started (by kernel_rfl) Tryz.func12
    (ChangeSpec.witness_shaped (enc := enc) (C := Tryz.checked) (os := os) (X := fun w _ => laidMetH Tryz.prog Rows.recordStreamsRow.laid w) false (World.laidAll Tryz.prog os Rows.recordStreamsRow.laid) #[.slice none 0 0, .slice none 0 0] 8 (World.laidAll_os _ _ _)
      (World.shaped_of_ZipB (by kernel_rfl) (by kernel_rfl)) (by kernel_rfl) (by kernel_rfl) (by kernel_rfl)
      (by rw [MakeChecks.laidMetH_plain _ _ _ (by kernel_rfl)]; exact laidMet_laidAll _ (by kernel_rfl) (by kernel_rfl))) ?_
  intro W base args ds gs before hval0 hW hL hsh
  have hval : ∀ (j : Nat) t v, Tryz.f12.params[j]? = some t → args[j]? = some v → Value.okWide Tryz.prog W .any base t v := hval0
  have hW' := hW
  obtain ⟨p, q, hA0, hV, rfl, _, _⟩ := hW
  have hA : DataW.TrodAll enc Tryz.prog W 0 (fun _ => true) true Tryz.f12.params.toList args.toList ds p := hA0
  obtain ⟨rfl, rfl⟩ := trodVars_none hV
  rw [MakeChecks.laidMetH_plain _ _ _ (by kernel_rfl)] at hL
  have hT := aw_of hL hsh
  rw [Tryz.params12] at hA hval
  obtain ⟨v0, v1, d0, d1, p0, p1, rfl, rfl, rfl, h0, h1⟩ := trodAll_two hA
  obtain ⟨A, c, xs, rfl, hR, hlc, hca, hm⟩ := open_flts Tryz.underlying38 Tryz.underlying37 (by kernel_rfl) (hval 0 _ _ rfl rfl) h0
  obtain ⟨B, d, bs, rfl, hRB, hdb, hcb, hmb⟩ := open_byts Tryz.underlying59 Tryz.underlying5 (by kernel_rfl) (hval 1 _ _ rfl rfl) h1
  refine (recordStreams_ok haw A B c d xs bs W hR hlc hca (by unfold maxLen at hm; omega) hRB hdb hcb (by unfold maxLen at hmb; omega) hT).mono fun e W' ⟨he, hb⟩ => ?_
  subst he
  refine ⟨_, rfl, law_shut hW' rfl (by kernel_rfl) rfl ?_ hb⟩
  rw [Tryz.params12]
  intro t ht
  have hm : t ∈ [38, 59] := ht
  have hall : ([38, 59].all fun u => Tryz.prog.readableRec u && decide (u < Tryz.prog.types.size)) = true := by kernel_rfl
  simpa using List.all_eq_true.1 hall t hm

theorem t_in : Rows.recordStreamsRow.inPlace = Tryz.prog.inPlace 12 := by kernel_rfl
theorem t_un : Rows.recordStreamsRow.unfollowed = Tryz.prog.unfollowed 12 := by kernel_rfl
theorem t_re : Rows.recordStreamsRow.recurses = Tryz.prog.recurses 12 := by kernel_rfl
theorem t_na : Rows.recordStreamsRow.named = Tryz.prog.varsNamed 12 := by kernel_rfl
set_option maxRecDepth 100000 in
theorem t_closed : joinedFacts Tryz.prog 12 Tryz.f12 Rows.recordStreamsSpec Rows.recordStreamsRow = true := by
  unfold joinedFacts
  rw [← t_in, ← t_un, ← t_re, ← t_na]
  kernel_rfl
theorem t_fn : Tryz.prog.funcNamed "glideslope/glideslopelaw01.RecordStreams" = some 12 := by kernel_rfl
theorem t_inst : Tryz.f12.isInstance Tryz.prog Rows.recordStreamsRow.origin Rows.recordStreamsRow.targs := of_decide_eq_true (by kernel_rfl)
theorem t_wrap : Tryz.f12.isWrapper Tryz.prog Rows.recordStreamsRow.wrapper Rows.recordStreamsRow.mainSum := by
  unfold Func.isWrapper; first | (rw [if_pos (by decide +kernel)]; kernel_rfl) | (rw [if_neg (by decide +kernel)]; exact ⟨rfl, rfl⟩)
theorem t_said : Rows.RecordStreamsSaid :=
  OpenClaim.holds_of_wide (p := Tryz.pinned) 12 Tryz.f12 rfl rfl rfl rfl rfl rfl rfl ⟨rfl, rfl, rfl, rfl, rfl⟩ rfl rfl rfl rfl rfl t_fn Tryz.func12 t_closed t_inst t_wrap
    (fun os started H enc _ => t_lifted awake_ok os started H enc)
theorem t_wf : Rows.recordStreamsRow.wfByText (OpenSpec.ofChange Rows.recordStreamsSpec) = true := by kernel_rfl
theorem t_main : Tryz.pinned.checked.prog.mainIs = some (Rows.recordStreamsCard.stood.harness.1, Rows.recordStreamsCard.stood.harness.2.toList) := by kernel_rfl
theorem t_looks : false = Tryz.prog.looks [] := by kernel_rfl
theorem t_goes : false = Rows.recordStreamsRow.goesBy Tryz.prog := by kernel_rfl
theorem recordStreams_card : Rows.RecordStreamsCardSaid :=
  Claim7.holds_tied_plain_at .later [] [.data, .data, .data, .data, .data, .pinned] true Rows.recordStreamsCard.stood.harness false t_said (fun _ h => by cases h) t_wf (fun _ h => by cases h) recordStreams_row_tie rfl ⟨rfl, rfl⟩ t_main rfl
    (fun f fn hf hfn => by
      obtain rfl : f = 12 := (Option.some.inj (t_fn.symm.trans hf)).symm
      obtain rfl : fn = Tryz.f12 := (Option.some.inj (Tryz.func12.symm.trans hfn)).symm
      exact ⟨t_looks, fun j t ht => by
        rw [Tryz.params12] at ht
        have hm : t ∈ [38, 59] := by simpa using Array.mem_of_getElem? ht
        have hall : ([38, 59].all fun u => !Tryz.prog.wantsStandIn u) = true := by kernel_rfl
        exact (show Tryz.prog.wantsStandIn t = false by simpa using List.all_eq_true.1 hall t hm)⟩)
    t_goes
#print axioms recordStreams_card
end Go.Proofs.YtjgofnbfpoephaaGreatDoor
