/- RecordReceives: for every key and every list of bytes the law returns true, and its arguments read as they did before. Conditions: the package-level variables that the row lists hold what the program's text lays (the card ties them to it). -/
import Derived.Test.YtipligklkkiejaaGreatDoorM39
import Derived.Test.YtipligklkkiejaaGreatDoorM33
import Derived.Test.YtipligklkkiejaaGreatDoorM36
namespace Go.Proofs.YtipligklkkiejaaGreatDoor
set_option linter.all false
open Go.RowKit Go.ChangeShapes Go.WideShapes Go.ChangeAt Go.Lib
set_option linter.unusedVariables false

set_option maxRecDepth 100000 in
theorem v_lifted (haw : AwakeOk) (os : Os) (started : os.Started) (H : Type) (enc : TypeId × Value → H) :
    ReturnsInHanded {} Tryz.checked os 4 .any (fun w args => (Rows.recordReceivesSpec.pre enc Tryz.prog Tryz.f4 [] false w args ∧ laidMetH Tryz.prog Rows.recordReceivesRow.laid w) ∧ sizedMet enc Tryz.prog Tryz.f4 (OpenSpec.ofChange Rows.recordReceivesSpec) false w args)
      (Rows.recordReceivesSpec.post enc Tryz.prog Tryz.f4 false true false false) := by
  refine returns_and_shaped (C := Tryz.checked) (X := fun w _ => laidMetH Tryz.prog Rows.recordReceivesRow.laid w) (fun _ _ _ hh h => h.of_heap hh) own_knob started (by kernel_rfl) Tryz.func4
    (ChangeSpec.witness_shaped (enc := enc) (C := Tryz.checked) (os := os) (X := fun w _ => laidMetH Tryz.prog Rows.recordReceivesRow.laid w) false (World.laidAll Tryz.prog os Rows.recordReceivesRow.laid) #[.agg #[.int .u8 0, .int .u8 0, .int .u8 0, .int .u8 0, .int .u8 0, .int .u8 0, .int .u8 0, .int .u8 0], .slice none 0 0] 8 (World.laidAll_os _ _ _)
      (World.shaped_of_ZipB (by kernel_rfl) (by kernel_rfl)) (by kernel_rfl) (by kernel_rfl) (by kernel_rfl)
      (by rw [MakeChecks.laidMetH_plain _ _ _ (by kernel_rfl)]; exact laidMet_laidAll _ (by kernel_rfl) (by kernel_rfl))) ?_
  intro W base args ds gs before hval0 hW hL hsh
  have hval : ∀ (j : Nat) t v, Tryz.f4.params[j]? = some t → args[j]? = some v → Value.okWide Tryz.prog W .any base t v := hval0
  have hW' := hW
  obtain ⟨p, q, hA0, hV, rfl, _, _⟩ := hW
  have hA : DataW.TrodAll enc Tryz.prog W 0 (fun _ => true) true Tryz.f4.params.toList args.toList ds p := hA0
  obtain ⟨rfl, rfl⟩ := trodVars_none hV
  rw [MakeChecks.laidMetH_plain _ _ _ (by kernel_rfl)] at hL
  have hT := aw_of hL hsh
  rw [Tryz.params4] at hA hval
  obtain ⟨v0, v1, d0, d1, p0, p1, rfl, rfl, rfl, h0, h1⟩ := trodAll_two hA
  obtain ⟨cs0, rfl, hl0, hc0⟩ := ok_agg (ts := [5, 5, 5, 5, 5, 5, 5, 5]) (.inr ⟨_, _, Tryz.underlying23⟩) (by kernel_rfl) (by kernel_rfl) (hval 0 _ _ rfl rfl)
  obtain ⟨ks, hks, hkl, hkb⟩ := cells_u8 (cs := cs0) (fun v hv => by
    obtain ⟨j, hj, rfl⟩ := List.mem_iff_getElem.1 hv
    exact cell_int Tryz.underlying5 (hc0 j _ _ (by rw [show ([5, 5, 5, 5, 5, 5, 5, 5] : List TypeId) = List.replicate 8 5 from rfl, List.getElem?_replicate_of_lt (by have h8 : cs0.length = 8 := hl0; omega)]) (List.getElem?_eq_getElem hj)))
  subst hks
  obtain ⟨k0, k1, k2, k3, k4, k5, k6, k7, rfl⟩ : ∃ a b c d e f g h, ks = [a, b, c, d, e, f, g, h] := by
    have hk8 : ks.length = 8 := hkl.trans hl0
    match ks, hk8 with
    | [a, b, c, d, e, f, g, h], _ => exact ⟨a, b, c, d, e, f, g, h, rfl⟩
  have hkeys : ∀ j (h : j < 8), isByte ([k0, k1, k2, k3, k4, k5, k6, k7][j]) := fun j h => hkb _ (List.getElem_mem _)
  obtain ⟨B, d, bs, rfl, hRB, hdb, hcb, hmb⟩ := open_byts Tryz.underlying37 Tryz.underlying5 (by kernel_rfl) (hval 1 _ _ rfl rfl) h1
  refine (recordReceives_ok haw k0 k1 k2 k3 k4 k5 k6 k7 B d bs W hRB hdb hcb (by unfold maxLen at hmb; omega) hkeys hT).mono fun e W' ⟨he, hb⟩ => ?_
  subst he
  refine ⟨_, rfl, law_shut hW' rfl (by kernel_rfl) rfl ?_ hb⟩
  rw [Tryz.params4]
  intro t ht
  have hm : t ∈ [23, 37] := ht
  have hall : ([23, 37].all fun u => Tryz.prog.readableRec u && decide (u < Tryz.prog.types.size)) = true := by kernel_rfl
  simpa using List.all_eq_true.1 hall t hm

theorem v_in : Rows.recordReceivesRow.inPlace = Tryz.prog.inPlace 4 := by kernel_rfl
theorem v_un : Rows.recordReceivesRow.unfollowed = Tryz.prog.unfollowed 4 := by kernel_rfl
theorem v_re : Rows.recordReceivesRow.recurses = Tryz.prog.recurses 4 := by kernel_rfl
theorem v_na : Rows.recordReceivesRow.named = Tryz.prog.varsNamed 4 := by kernel_rfl
set_option maxRecDepth 100000 in
theorem v_closed : joinedFacts Tryz.prog 4 Tryz.f4 Rows.recordReceivesSpec Rows.recordReceivesRow = true := by
  unfold joinedFacts
  rw [← v_in, ← v_un, ← v_re, ← v_na]
  kernel_rfl
theorem v_fn : Tryz.prog.funcNamed "glideslope/glideslopelaw01.RecordReceives" = some 4 := by kernel_rfl
theorem v_inst : Tryz.f4.isInstance Tryz.prog Rows.recordReceivesRow.origin Rows.recordReceivesRow.targs := of_decide_eq_true (by kernel_rfl)
theorem v_wrap : Tryz.f4.isWrapper Tryz.prog Rows.recordReceivesRow.wrapper Rows.recordReceivesRow.mainSum := by
  unfold Func.isWrapper; first | (rw [if_pos (by decide +kernel)]; kernel_rfl) | (rw [if_neg (by decide +kernel)]; exact ⟨rfl, rfl⟩)
theorem v_said : Rows.RecordReceivesSaid :=
  OpenClaim.holds_of_wide (p := Tryz.pinned) 4 Tryz.f4 rfl rfl rfl rfl rfl rfl rfl ⟨rfl, rfl, rfl, rfl, rfl⟩ rfl rfl rfl rfl rfl v_fn Tryz.func4 v_closed v_inst v_wrap
    (fun os started H enc _ => v_lifted awake_ok os started H enc)
theorem v_wf : Rows.recordReceivesRow.wfByText (OpenSpec.ofChange Rows.recordReceivesSpec) = true := by kernel_rfl
theorem v_main : Tryz.pinned.checked.prog.mainIs = some (Rows.recordReceivesCard.stood.harness.1, Rows.recordReceivesCard.stood.harness.2.toList) := by kernel_rfl
theorem v_looks : false = Tryz.prog.looks [] := by kernel_rfl
theorem v_goes : false = Rows.recordReceivesRow.goesBy Tryz.prog := by kernel_rfl
theorem recordReceives_card : Rows.RecordReceivesCardSaid :=
  Claim7.holds_tied_plain_at .later [] [.data, .data, .data, .data, .data, .pinned] true Rows.recordReceivesCard.stood.harness false v_said (fun _ h => by cases h) v_wf (fun _ h => by cases h) recordReceives_row_tie rfl ⟨rfl, rfl⟩ v_main rfl
    (fun f fn hf hfn => by
      obtain rfl : f = 4 := (Option.some.inj (v_fn.symm.trans hf)).symm
      obtain rfl : fn = Tryz.f4 := (Option.some.inj (Tryz.func4.symm.trans hfn)).symm
      exact ⟨v_looks, fun j t ht => by
        rw [Tryz.params4] at ht
        have hm : t ∈ [23, 37] := by simpa using Array.mem_of_getElem? ht
        have hall : ([23, 37].all fun u => !Tryz.prog.wantsStandIn u) = true := by kernel_rfl
        exact (show Tryz.prog.wantsStandIn t = false by simpa using List.all_eq_true.1 hall t hm)⟩)
    v_goes
#print axioms recordReceives_card
end Go.Proofs.YtipligklkkiejaaGreatDoor
