/- RecordAligns: for every two lists of float32 and every two numbers the law returns true, and its arguments read as they did before. Conditions: the package-level variables that the row lists hold what the program's text lays (the card ties them to it). -/
import Derived.Test.YtdglifjhkjdogaaGreatDoorM30
import Derived.Test.YtdglifjhkjdogaaGreatDoorM33
import Derived.Test.YtdglifjhkjdogaaGreatDoorM36
namespace Go.Proofs.YtdglifjhkjdogaaGreatDoor
set_option linter.all false
open Go.RowKit Go.ChangeShapes Go.WideShapes Go.ChangeAt Go.Lib
set_option linter.unusedVariables false

set_option maxRecDepth 100000 in
theorem l_lifted (haw : AwakeOk) (os : Os) (started : os.Started) (H : Type) (enc : TypeId × Value → H) :
    ReturnsInHanded {} Tryz.checked os 3 .any (fun w args => (Rows.recordAlignsSpec.pre enc Tryz.prog Tryz.f3 [] false w args ∧ laidMetH Tryz.prog Rows.recordAlignsRow.laid w) ∧ sizedMet enc Tryz.prog Tryz.f3 (OpenSpec.ofChange Rows.recordAlignsSpec) false w args)
      (Rows.recordAlignsSpec.post enc Tryz.prog Tryz.f3 false true false false) := by
  refine returns_and_shaped (C := Tryz.checked) (X := fun w _ => laidMetH Tryz.prog Rows.recordAlignsRow.laid w) (fun _ _ _ hh h => h.of_heap hh) own_knob started (by kernel_rfl) Tryz.func3
    (ChangeSpec.witness_shaped (enc := enc) (C := Tryz.checked) (os := os) (X := fun w _ => laidMetH Tryz.prog Rows.recordAlignsRow.laid w) false (World.laidAll Tryz.prog os Rows.recordAlignsRow.laid) #[.slice none 0 0, .slice none 0 0, .agg #[.int .i64 0, .int .i64 0]] 8 (World.laidAll_os _ _ _)
      (World.shaped_of_ZipB (by kernel_rfl) (by kernel_rfl)) (by kernel_rfl) (by kernel_rfl) (by kernel_rfl)
      (by rw [MakeChecks.laidMetH_plain _ _ _ (by kernel_rfl)]; exact laidMet_laidAll _ (by kernel_rfl) (by kernel_rfl))) ?_
  intro W base args ds gs before hval0 hW hL hsh
  have hval : ∀ (j : Nat) t v, Tryz.f3.params[j]? = some t → args[j]? = some v → Value.okWide Tryz.prog W .any base t v := hval0
  have hW' := hW
  obtain ⟨p, q, hA0, hV, rfl, _, _⟩ := hW
  have hA : DataW.TrodAll enc Tryz.prog W 0 (fun _ => true) true Tryz.f3.params.toList args.toList ds p := hA0
  obtain ⟨rfl, rfl⟩ := trodVars_none hV
  rw [MakeChecks.laidMetH_plain _ _ _ (by kernel_rfl)] at hL
  have hT := aw_of hL hsh
  rw [Tryz.params3] at hA hval
  obtain ⟨v0, v1, v2, d0, d1, d2, p0, p1, p2, rfl, rfl, rfl, h0, h1, h2⟩ := trodAll_three hA
  obtain ⟨A, c, xs, rfl, hR, hlc, hca, hm⟩ := open_flts Tryz.underlying22 Tryz.underlying76 (by kernel_rfl) (hval 0 _ _ rfl rfl) h0
  obtain ⟨C, e1, ys, rfl, hR2, hlc2, hca2, hm2⟩ := open_flts Tryz.underlying22 Tryz.underlying76 (by kernel_rfl) (hval 1 _ _ rfl rfl) h1
  obtain ⟨cs1, rfl, hl1, hc1⟩ := ok_agg (ts := [3, 3]) (.inr ⟨_, _, Tryz.underlying23⟩) (by kernel_rfl) (by kernel_rfl) (hval 2 _ _ rfl rfl)
  obtain ⟨x0, x1, rfl⟩ : ∃ a b, cs1 = [a, b] := by match cs1, hl1 with | [a, b], _ => exact ⟨a, b, rfl⟩
  obtain ⟨n0, rfl, _⟩ := cell_int Tryz.underlying3 (hc1 0 _ _ rfl rfl)
  obtain ⟨n1, rfl, _⟩ := cell_int Tryz.underlying3 (hc1 1 _ _ rfl rfl)
  refine (recordAligns_ok haw A C c e1 xs ys n0 n1 W hT hR hR2 (by unfold maxLen at hm; omega) (by unfold maxLen at hm2; omega) hlc hca hlc2 hca2).mono fun e W' ⟨he, hb⟩ => ?_
  subst he
  refine ⟨_, rfl, law_shut hW' rfl (by kernel_rfl) rfl ?_ hb⟩
  rw [Tryz.params3]
  intro t ht
  have hm : t ∈ [22, 22, 23] := ht
  have hall : ([22, 22, 23].all fun u => Tryz.prog.readableRec u && decide (u < Tryz.prog.types.size)) = true := by kernel_rfl
  simpa using List.all_eq_true.1 hall t hm

theorem l_in : Rows.recordAlignsRow.inPlace = Tryz.prog.inPlace 3 := by kernel_rfl
theorem l_un : Rows.recordAlignsRow.unfollowed = Tryz.prog.unfollowed 3 := by kernel_rfl
theorem l_re : Rows.recordAlignsRow.recurses = Tryz.prog.recurses 3 := by kernel_rfl
theorem l_na : Rows.recordAlignsRow.named = Tryz.prog.varsNamed 3 := by kernel_rfl
set_option maxRecDepth 100000 in
theorem l_closed : joinedFacts Tryz.prog 3 Tryz.f3 Rows.recordAlignsSpec Rows.recordAlignsRow = true := by
  unfold joinedFacts
  rw [← l_in, ← l_un, ← l_re, ← l_na]
  kernel_rfl
theorem l_fn : Tryz.prog.funcNamed "glideslope/glideslopelaw01.RecordAligns" = some 3 := by kernel_rfl
theorem l_inst : Tryz.f3.isInstance Tryz.prog Rows.recordAlignsRow.origin Rows.recordAlignsRow.targs := of_decide_eq_true (by kernel_rfl)
theorem l_wrap : Tryz.f3.isWrapper Tryz.prog Rows.recordAlignsRow.wrapper Rows.recordAlignsRow.mainSum := by
  unfold Func.isWrapper; first | (rw [if_pos (by decide +kernel)]; kernel_rfl) | (rw [if_neg (by decide +kernel)]; exact ⟨rfl, rfl⟩)
theorem l_said : Rows.RecordAlignsSaid :=
  OpenClaim.holds_of_wide (p := Tryz.pinned) 3 Tryz.f3 rfl rfl rfl rfl rfl rfl rfl ⟨rfl, rfl, rfl, rfl, rfl⟩ rfl rfl rfl rfl rfl l_fn Tryz.func3 l_closed l_inst l_wrap
    (fun os started H enc _ => l_lifted awake_ok os started H enc)
theorem l_wf : Rows.recordAlignsRow.wfByText (OpenSpec.ofChange Rows.recordAlignsSpec) = true := by kernel_rfl
theorem l_main : Tryz.pinned.checked.prog.mainIs = some (Rows.recordAlignsCard.stood.harness.1, Rows.recordAlignsCard.stood.harness.2.toList) := by kernel_rfl
theorem l_looks : false = Tryz.prog.looks [] := by kernel_rfl
theorem l_goes : false = Rows.recordAlignsRow.goesBy Tryz.prog := by kernel_rfl
theorem recordAligns_card : Rows.RecordAlignsCardSaid :=
  Claim7.holds_tied_plain_at .later [] [.data, .data, .data, .data, .data, .pinned] true Rows.recordAlignsCard.stood.harness false l_said (fun _ h => by cases h) l_wf (fun _ h => by cases h) recordAligns_row_tie rfl ⟨rfl, rfl⟩ l_main rfl
    (fun f fn hf hfn => by
      obtain rfl : f = 3 := (Option.some.inj (l_fn.symm.trans hf)).symm
      obtain rfl : fn = Tryz.f3 := (Option.some.inj (Tryz.func3.symm.trans hfn)).symm
      exact ⟨l_looks, fun j t ht => by
        rw [Tryz.params3] at ht
        have hm : t ∈ [22, 22, 23] := by simpa using Array.mem_of_getElem? ht
        have hall : ([22, 22, 23].all fun u => !Tryz.prog.wantsStandIn u) = true := by kernel_rfl
        exact (show Tryz.prog.wantsStandIn t = false by simpa using List.all_eq_true.1 hall t hm)⟩)
    l_goes
#print axioms recordAligns_card
end Go.Proofs.YtdglifjhkjdogaaGreatDoor
