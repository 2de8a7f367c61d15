/- RecordAssembles: for every list of packets and every two numbers the law returns true, and its arguments read as they did before. Conditions: the package-level variables that the row lists hold what the program's text lays (the card ties them to it). -/
import Derived.Test.YtipligklkkiejaaGreatDoorM42
import Derived.Test.YtipligklkkiejaaGreatDoorM43
import Derived.Test.YtipligklkkiejaaGreatDoorM33
import Derived.Test.YtipligklkkiejaaGreatDoorM36
namespace Go.Proofs.YtipligklkkiejaaGreatDoor
set_option linter.all false
open Go.RowKit Go.ChangeShapes Go.WideShapes Go.ChangeAt Go.Lib
set_option linter.unusedVariables false

set_option maxRecDepth 100000 in
theorem a_lifted (haw : AwakeOk) (os : Os) (started : os.Started) (H : Type) (enc : TypeId × Value → H) :
    ReturnsInHanded {} Tryz.checked os 5 .any (fun w args => (Rows.recordAssemblesSpec.pre enc Tryz.prog Tryz.f5 [] false w args ∧ laidMetH Tryz.prog Rows.recordAssemblesRow.laid w) ∧ sizedMet enc Tryz.prog Tryz.f5 (OpenSpec.ofChange Rows.recordAssemblesSpec) false w args)
      (Rows.recordAssemblesSpec.post enc Tryz.prog Tryz.f5 false true false false) := by
  refine returns_and_shaped (C := Tryz.checked) (X := fun w _ => laidMetH Tryz.prog Rows.recordAssemblesRow.laid w) (fun _ _ _ hh h => h.of_heap hh) own_knob started (by kernel_rfl) Tryz.func5
    (ChangeSpec.witness_shaped (enc := enc) (C := Tryz.checked) (os := os) (X := fun w _ => laidMetH Tryz.prog Rows.recordAssemblesRow.laid w) false (World.laidAll Tryz.prog os Rows.recordAssemblesRow.laid) #[.slice none 0 0, .int .i64 0, .int .i64 0] 8 (World.laidAll_os _ _ _)
      (World.shaped_of_ZipB (by kernel_rfl) (by kernel_rfl)) (by kernel_rfl) (by kernel_rfl) (by kernel_rfl)
      (by rw [MakeChecks.laidMetH_plain _ _ _ (by kernel_rfl)]; exact laidMet_laidAll _ (by kernel_rfl) (by kernel_rfl))) ?_
  intro W base args ds gs before hval0 hW hL hsh
  have hval : ∀ (j : Nat) t v, Tryz.f5.params[j]? = some t → args[j]? = some v → Value.okWide Tryz.prog W .any base t v := hval0
  have hW' := hW
  obtain ⟨p, q, hA0, hV, rfl, _, _⟩ := hW
  have hA : DataW.TrodAll enc Tryz.prog W 0 (fun _ => true) true Tryz.f5.params.toList args.toList ds p := hA0
  obtain ⟨rfl, rfl⟩ := trodVars_none hV
  rw [MakeChecks.laidMetH_plain _ _ _ (by kernel_rfl)] at hL
  have hT := aw_of hL hsh
  rw [Tryz.params5] at hA hval
  obtain ⟨v0, v1, v2, d0, d1, d2, p0, p1, p2, rfl, rfl, rfl, h0, h1, h2⟩ := trodAll_three hA
  obtain ⟨A, c, l, rfl, hR, h8, hlc, hca, hm⟩ := open_pks (hval 0 _ _ rfl rfl) h0
  obtain ⟨st, rfl, _⟩ := ok_int Tryz.underlying3 (hval 1 _ _ rfl rfl)
  obtain ⟨n, rfl, _⟩ := ok_int Tryz.underlying3 (hval 2 _ _ rfl rfl)
  refine (recordAssembles_ok haw A c l st n W hT hR h8 hlc hca (by unfold maxLen at hm; omega)).mono fun e W' ⟨he, hb⟩ => ?_
  subst he
  refine ⟨_, rfl, law_shut hW' rfl (by kernel_rfl) rfl ?_ hb⟩
  rw [Tryz.params5]
  intro t ht
  have hm : t ∈ [51, 3, 3] := ht
  have hall : ([51, 3, 3].all fun u => Tryz.prog.readableRec u && decide (u < Tryz.prog.types.size)) = true := by kernel_rfl
  simpa using List.all_eq_true.1 hall t hm

theorem a_in : Rows.recordAssemblesRow.inPlace = Tryz.prog.inPlace 5 := by kernel_rfl
theorem a_un : Rows.recordAssemblesRow.unfollowed = Tryz.prog.unfollowed 5 := by kernel_rfl
theorem a_re : Rows.recordAssemblesRow.recurses = Tryz.prog.recurses 5 := by kernel_rfl
theorem a_na : Rows.recordAssemblesRow.named = Tryz.prog.varsNamed 5 := by kernel_rfl
set_option maxRecDepth 100000 in
theorem a_closed : joinedFacts Tryz.prog 5 Tryz.f5 Rows.recordAssemblesSpec Rows.recordAssemblesRow = true := by
  unfold joinedFacts
  rw [← a_in, ← a_un, ← a_re, ← a_na]
  kernel_rfl
theorem a_fn : Tryz.prog.funcNamed "glideslope/glideslopelaw01.RecordAssembles" = some 5 := by kernel_rfl
theorem a_inst : Tryz.f5.isInstance Tryz.prog Rows.recordAssemblesRow.origin Rows.recordAssemblesRow.targs := of_decide_eq_true (by kernel_rfl)
theorem a_wrap : Tryz.f5.isWrapper Tryz.prog Rows.recordAssemblesRow.wrapper Rows.recordAssemblesRow.mainSum := by
  unfold Func.isWrapper; first | (rw [if_pos (by decide +kernel)]; kernel_rfl) | (rw [if_neg (by decide +kernel)]; exact ⟨rfl, rfl⟩)
theorem a_said : Rows.RecordAssemblesSaid :=
  OpenClaim.holds_of_wide (p := Tryz.pinned) 5 Tryz.f5 rfl rfl rfl rfl rfl rfl rfl ⟨rfl, rfl, rfl, rfl, rfl⟩ rfl rfl rfl rfl rfl a_fn Tryz.func5 a_closed a_inst a_wrap
    (fun os started H enc _ => a_lifted awake_ok os started H enc)
theorem a_wf : Rows.recordAssemblesRow.wfByText (OpenSpec.ofChange Rows.recordAssemblesSpec) = true := by kernel_rfl
theorem a_main : Tryz.pinned.checked.prog.mainIs = some (Rows.recordAssemblesCard.stood.harness.1, Rows.recordAssemblesCard.stood.harness.2.toList) := by kernel_rfl
theorem a_looks : false = Tryz.prog.looks [] := by kernel_rfl
theorem a_goes : false = Rows.recordAssemblesRow.goesBy Tryz.prog := by kernel_rfl
theorem recordAssembles_card : Rows.RecordAssemblesCardSaid :=
  Claim7.holds_tied_plain_at .later [] [.data, .data, .data, .data, .data, .pinned] true Rows.recordAssemblesCard.stood.harness false a_said (fun _ h => by cases h) a_wf (fun _ h => by cases h) recordAssembles_row_tie rfl ⟨rfl, rfl⟩ a_main rfl
    (fun f fn hf hfn => by
      obtain rfl : f = 5 := (Option.some.inj (a_fn.symm.trans hf)).symm
      obtain rfl : fn = Tryz.f5 := (Option.some.inj (Tryz.func5.symm.trans hfn)).symm
      exact ⟨a_looks, fun j t ht => by
        rw [Tryz.params5] at ht
        have hm : t ∈ [51, 3, 3] := by simpa using Array.mem_of_getElem? ht
        have hall : ([51, 3, 3].all fun u => !Tryz.prog.wantsStandIn u) = true := by kernel_rfl
        exact (show Tryz.prog.wantsStandIn t = false by simpa using List.all_eq_true.1 hall t hm)⟩)
    a_goes
#print axioms recordAssembles_card
end Go.Proofs.YtipligklkkiejaaGreatDoor
