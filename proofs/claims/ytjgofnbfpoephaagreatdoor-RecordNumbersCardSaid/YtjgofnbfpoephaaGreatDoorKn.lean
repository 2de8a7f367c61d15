/- RecordNumbers: for every string, every two numbers and every ratio the law returns true, and its arguments read as they did before. Conditions: the package-level variables that the row lists hold what the program's text lays (the card ties them to it). -/
import Derived.Test.YtjgofnbfpoephaaGreatDoorM43
import Derived.Test.YtjgofnbfpoephaaGreatDoorM41
import Derived.Test.YtjgofnbfpoephaaGreatDoorM45
namespace Go.Proofs.YtjgofnbfpoephaaGreatDoor
set_option linter.all false
open Go.RowKit Go.ChangeShapes Go.WideShapes Go.ChangeAt Go.Lib
set_option linter.unusedVariables false

set_option maxRecDepth 100000 in
theorem n_lifted (haw : AwakeOk) (os : Os) (started : os.Started) (H : Type) (enc : TypeId × Value → H) :
    ReturnsInHanded {} Tryz.checked os 3 .any (fun w args => (Rows.recordNumbersSpec.pre enc Tryz.prog Tryz.f3 [] false w args ∧ laidMetH Tryz.prog Rows.recordNumbersRow.laid w) ∧ sizedMet enc Tryz.prog Tryz.f3 (OpenSpec.ofChange Rows.recordNumbersSpec) false w args)
      (Rows.recordNumbersSpec.post enc Tryz.prog Tryz.f3 false true false false) := by
  refine returns_and_shaped (C := Tryz.checked) (X := fun w _ => laidMetH Tryz.prog Rows.recordNumbersRow.laid w) (fun _ _ _ hh h => h.of_heap hh) own_knob started (by kernel_rfl) Tryz.func3
    (ChangeSpec.witness_shaped (enc := enc) (C := Tryz.checked) (os := os) (X := fun w _ => laidMetH Tryz.prog Rows.recordNumbersRow.laid w) false (World.laidAll Tryz.prog os Rows.recordNumbersRow.laid) #[.string ⟨#[]⟩, .agg #[.int .i64 0, .int .i64 0], .agg #[.int .i64 0, .int .i64 0]] 8 (World.laidAll_os _ _ _)
      (World.shaped_of_ZipB (by kernel_rfl) (by kernel_rfl)) (by kernel_rfl) (by kernel_rfl) (by kernel_rfl)
      (by rw [MakeChecks.laidMetH_plain _ _ _ (by kernel_rfl)]; exact laidMet_laidAll _ (by kernel_rfl) (by kernel_rfl))) ?_
  intro W base args ds gs before hval0 hW hL hsh
  have hval : ∀ (j : Nat) t v, Tryz.f3.params[j]? = some t → args[j]? = some v → Value.okWide Tryz.prog W .any base t v := hval0
  have hW' := hW
  obtain ⟨p, q, hA0, hV, rfl, _, _⟩ := hW
  have hA : DataW.TrodAll enc Tryz.prog W 0 (fun _ => true) true Tryz.f3.params.toList args.toList ds p := hA0
  obtain ⟨rfl, rfl⟩ := trodVars_none hV
  rw [MakeChecks.laidMetH_plain _ _ _ (by kernel_rfl)] at hL
  have hT := aw_of hL hsh
  rw [Tryz.params3] at hA hval
  obtain ⟨v0, v1, v2, d0, d1, d2, p0, p1, p2, rfl, rfl, rfl, h0, h1, h2⟩ := trodAll_three hA
  obtain ⟨s, rfl⟩ := ok_str Tryz.underlying9 (hval 0 _ _ rfl rfl)
  obtain ⟨cs1, rfl, hl1, hc1⟩ := ok_agg (ts := [3, 3]) (.inr ⟨_, _, Tryz.underlying22⟩) (by kernel_rfl) (by kernel_rfl) (hval 1 _ _ rfl rfl)
  obtain ⟨cs2, rfl, hl2, hc2⟩ := ok_agg (ts := [3, 3]) (.inl ⟨_, Tryz.underlying24⟩) (by kernel_rfl) (by kernel_rfl) (hval 2 _ _ rfl rfl)
  obtain ⟨x0, x1, rfl⟩ : ∃ a b, cs1 = [a, b] := by match cs1, hl1 with | [a, b], _ => exact ⟨a, b, rfl⟩
  obtain ⟨y0, y1, rfl⟩ : ∃ a b, cs2 = [a, b] := by match cs2, hl2 with | [a, b], _ => exact ⟨a, b, rfl⟩
  obtain ⟨n0, rfl, _⟩ := cell_int Tryz.underlying3 (hc1 0 _ _ rfl rfl)
  obtain ⟨n1, rfl, _⟩ := cell_int Tryz.underlying3 (hc1 1 _ _ rfl rfl)
  obtain ⟨a, rfl, _⟩ := cell_int Tryz.underlying3 (hc2 0 _ _ rfl rfl)
  obtain ⟨b, rfl, _⟩ := cell_int Tryz.underlying3 (hc2 1 _ _ rfl rfl)
  refine (recordNumbers_ok haw s n0 n1 a b W hT).mono fun e W' ⟨he, hb⟩ => ?_
  subst he
  refine ⟨_, rfl, law_shut hW' rfl (by kernel_rfl) rfl ?_ hb⟩
  rw [Tryz.params3]
  intro t ht
  have hm : t ∈ [9, 22, 24] := ht
  have hall : ([9, 22, 24].all fun u => Tryz.prog.readableRec u && decide (u < Tryz.prog.types.size)) = true := by kernel_rfl
  simpa using List.all_eq_true.1 hall t hm

theorem n_in : Rows.recordNumbersRow.inPlace = Tryz.prog.inPlace 3 := by kernel_rfl
theorem n_un : Rows.recordNumbersRow.unfollowed = Tryz.prog.unfollowed 3 := by kernel_rfl
theorem n_re : Rows.recordNumbersRow.recurses = Tryz.prog.recurses 3 := by kernel_rfl
theorem n_na : Rows.recordNumbersRow.named = Tryz.prog.varsNamed 3 := by kernel_rfl
set_option maxRecDepth 100000 in
theorem n_closed : joinedFacts Tryz.prog 3 Tryz.f3 Rows.recordNumbersSpec Rows.recordNumbersRow = true := by
  unfold joinedFacts
  rw [← n_in, ← n_un, ← n_re, ← n_na]
  kernel_rfl
theorem n_fn : Tryz.prog.funcNamed "glideslope/glideslopelaw01.RecordNumbers" = some 3 := by kernel_rfl
theorem n_inst : Tryz.f3.isInstance Tryz.prog Rows.recordNumbersRow.origin Rows.recordNumbersRow.targs := of_decide_eq_true (by kernel_rfl)
theorem n_wrap : Tryz.f3.isWrapper Tryz.prog Rows.recordNumbersRow.wrapper Rows.recordNumbersRow.mainSum := by
  unfold Func.isWrapper; first | (rw [if_pos (by decide +kernel)]; kernel_rfl) | (rw [if_neg (by decide +kernel)]; exact ⟨rfl, rfl⟩)
theorem n_said : Rows.RecordNumbersSaid :=
  OpenClaim.holds_of_wide (p := Tryz.pinned) 3 Tryz.f3 rfl rfl rfl rfl rfl rfl rfl ⟨rfl, rfl, rfl, rfl, rfl⟩ rfl rfl rfl rfl rfl n_fn Tryz.func3 n_closed n_inst n_wrap
    (fun os started H enc _ => n_lifted awake_ok os started H enc)
theorem n_wf : Rows.recordNumbersRow.wfByText (OpenSpec.ofChange Rows.recordNumbersSpec) = true := by kernel_rfl
theorem n_main : Tryz.pinned.checked.prog.mainIs = some (Rows.recordNumbersCard.stood.harness.1, Rows.recordNumbersCard.stood.harness.2.toList) := by kernel_rfl
theorem n_looks : false = Tryz.prog.looks [] := by kernel_rfl
theorem n_goes : false = Rows.recordNumbersRow.goesBy Tryz.prog := by kernel_rfl
theorem recordNumbers_card : Rows.RecordNumbersCardSaid :=
  Claim7.holds_tied_plain_at .later [] [.data, .data, .data, .data, .data, .pinned] true Rows.recordNumbersCard.stood.harness false n_said (fun _ h => by cases h) n_wf (fun _ h => by cases h) recordNumbers_row_tie rfl ⟨rfl, rfl⟩ n_main rfl
    (fun f fn hf hfn => by
      obtain rfl : f = 3 := (Option.some.inj (n_fn.symm.trans hf)).symm
      obtain rfl : fn = Tryz.f3 := (Option.some.inj (Tryz.func3.symm.trans hfn)).symm
      exact ⟨n_looks, fun j t ht => by
        rw [Tryz.params3] at ht
        have hm : t ∈ [9, 22, 24] := by simpa using Array.mem_of_getElem? ht
        have hall : ([9, 22, 24].all fun u => !Tryz.prog.wantsStandIn u) = true := by kernel_rfl
        exact (show Tryz.prog.wantsStandIn t = false by simpa using List.all_eq_true.1 hall t hm)⟩)
    n_goes
#print axioms recordNumbers_card
end Go.Proofs.YtjgofnbfpoephaaGreatDoor
