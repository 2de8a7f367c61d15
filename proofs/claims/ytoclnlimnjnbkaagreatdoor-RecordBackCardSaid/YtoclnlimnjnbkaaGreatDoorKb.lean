/- RecordBack: for every recording and every string the law returns true, and its arguments read as they did before. Conditions: the package-level variables that the row lists hold what the program's text lays (the card ties them to it). -/
import Derived.Test.YtoclnlimnjnbkaaGreatDoorM32
import Derived.Test.YtoclnlimnjnbkaaGreatDoorM34
import Derived.Test.YtoclnlimnjnbkaaGreatDoorM37
namespace Go.Proofs.YtoclnlimnjnbkaaGreatDoor
set_option linter.all false
open Go.RowKit Go.ChangeShapes Go.WideShapes Go.ChangeAt Go.Lib
set_option maxRecDepth 100000 in
theorem b_lifted (haw : AwakeOk) (os : Os) (started : os.Started) (H : Type) (enc : TypeId × Value → H) :
    ReturnsInHanded {} Tryz.checked os 6 .any (fun w args => (Rows.recordBackSpec.pre enc Tryz.prog Tryz.f6 [] false w args ∧ laidMetH Tryz.prog Rows.recordBackRow.laid w) ∧ sizedMet enc Tryz.prog Tryz.f6 (OpenSpec.ofChange Rows.recordBackSpec) false w args)
      (Rows.recordBackSpec.post enc Tryz.prog Tryz.f6 false true false false) := by
  refine returns_and_shaped (C := Tryz.checked) (X := fun w _ => laidMetH Tryz.prog Rows.recordBackRow.laid w) (fun _ _ _ hh h => h.of_heap hh) own_knob started (by kernel_rfl) Tryz.func6
    (ChangeSpec.witness_shaped (enc := enc) (C := Tryz.checked) (os := os) (X := fun w _ => laidMetH Tryz.prog Rows.recordBackRow.laid w) false (World.laidAll Tryz.prog os Rows.recordBackRow.laid) #[.agg #[.int .i64 0, .int .i64 0, .slice none 0 0, .slice none 0 0], .string ⟨#[]⟩] 8 (World.laidAll_os _ _ _)
      (World.shaped_of_ZipB (by kernel_rfl) (by kernel_rfl)) (by kernel_rfl) (by kernel_rfl) (by kernel_rfl)
      (by rw [MakeChecks.laidMetH_plain _ _ _ (by kernel_rfl)]; exact laidMet_laidAll _ (by kernel_rfl) (by kernel_rfl))) ?_
  intro W base args ds gs before hval0 hW hL hsh
  have hval : ∀ (j : Nat) t v, Tryz.f6.params[j]? = some t → args[j]? = some v → Value.okWide Tryz.prog W .any base t v := hval0
  have hW' := hW
  obtain ⟨p, q, hA0, hV, rfl, _, _⟩ := hW
  have hA : DataW.TrodAll enc Tryz.prog W 0 (fun _ => true) true Tryz.f6.params.toList args.toList ds p := hA0
  obtain ⟨rfl, rfl⟩ := trodVars_none hV
  rw [MakeChecks.laidMetH_plain _ _ _ (by kernel_rfl)] at hL
  have hT := aw_of hL hsh
  rw [Tryz.params6] at hA hval
  obtain ⟨v0, v1, d0, d1, p0, p1, rfl, rfl, rfl, h0, h1⟩ := trodAll_two hA
  obtain ⟨st, sp, A, c, xs, B, d, ms, rfl, hR, hlc, hca, hm, hRB, hmb⟩ := open_rec (hval 0 _ _ rfl rfl) h0
  obtain ⟨s, rfl⟩ := ok_str Tryz.underlying9 (hval 1 _ _ rfl rfl)
  refine (recordBack_ok haw st sp A B c d xs ms s W hT hR hRB hlc hca (by unfold maxLen at hm; omega) (by unfold maxLen at hmb; omega)).mono fun e W' ⟨he, hb⟩ => ?_
  subst he
  refine ⟨_, rfl, law_shut hW' rfl (by kernel_rfl) rfl ?_ hb⟩
  rw [Tryz.params6]
  intro t ht
  have hm : t ∈ [25, 9] := ht
  have hall : ([25, 9].all fun u => Tryz.prog.readableRec u && decide (u < Tryz.prog.types.size)) = true := by kernel_rfl
  simpa using List.all_eq_true.1 hall t hm
theorem b_in : Rows.recordBackRow.inPlace = Tryz.prog.inPlace 6 := by kernel_rfl
theorem b_un : Rows.recordBackRow.unfollowed = Tryz.prog.unfollowed 6 := by kernel_rfl
theorem b_re : Rows.recordBackRow.recurses = Tryz.prog.recurses 6 := by kernel_rfl
theorem b_na : Rows.recordBackRow.named = Tryz.prog.varsNamed 6 := by kernel_rfl
set_option maxRecDepth 100000 in
theorem b_closed : joinedFacts Tryz.prog 6 Tryz.f6 Rows.recordBackSpec Rows.recordBackRow = true := by
  unfold joinedFacts
  rw [← b_in, ← b_un, ← b_re, ← b_na]
  kernel_rfl
theorem b_fn : Tryz.prog.funcNamed "glideslope/glideslopelaw01.RecordBack" = some 6 := by kernel_rfl
theorem b_inst : Tryz.f6.isInstance Tryz.prog Rows.recordBackRow.origin Rows.recordBackRow.targs := of_decide_eq_true (by kernel_rfl)
theorem b_wrap : Tryz.f6.isWrapper Tryz.prog Rows.recordBackRow.wrapper Rows.recordBackRow.mainSum := by
  unfold Func.isWrapper; first | (rw [if_pos (by decide +kernel)]; kernel_rfl) | (rw [if_neg (by decide +kernel)]; exact ⟨rfl, rfl⟩)
theorem b_said : Rows.RecordBackSaid :=
  OpenClaim.holds_of_wide (p := Tryz.pinned) 6 Tryz.f6 rfl rfl rfl rfl rfl rfl rfl ⟨rfl, rfl, rfl, rfl, rfl⟩ rfl rfl rfl rfl rfl b_fn Tryz.func6 b_closed b_inst b_wrap
    (fun os started H enc _ => b_lifted awake_ok os started H enc)
theorem b_wf : Rows.recordBackRow.wfByText (OpenSpec.ofChange Rows.recordBackSpec) = true := by kernel_rfl
theorem b_main : Tryz.pinned.checked.prog.mainIs = some (Rows.recordBackCard.stood.harness.1, Rows.recordBackCard.stood.harness.2.toList) := by kernel_rfl
theorem b_looks : false = Tryz.prog.looks [] := by kernel_rfl
theorem b_goes : false = Rows.recordBackRow.goesBy Tryz.prog := by kernel_rfl
theorem recordBack_card : Rows.RecordBackCardSaid :=
  Claim7.holds_tied_plain_at .later [] [.data, .data, .data, .data, .data, .pinned] true Rows.recordBackCard.stood.harness false b_said (fun _ h => by cases h) b_wf (fun _ h => by cases h) recordBack_row_tie rfl ⟨rfl, rfl⟩ b_main rfl
    (fun f fn hf hfn => by
      obtain rfl : f = 6 := (Option.some.inj (b_fn.symm.trans hf)).symm
      obtain rfl : fn = Tryz.f6 := (Option.some.inj (Tryz.func6.symm.trans hfn)).symm
      exact ⟨b_looks, fun j t ht => by
        rw [Tryz.params6] at ht
        have hm : t ∈ [25, 9] := by simpa using Array.mem_of_getElem? ht
        have hall : ([25, 9].all fun u => !Tryz.prog.wantsStandIn u) = true := by kernel_rfl
        exact (show Tryz.prog.wantsStandIn t = false by simpa using List.all_eq_true.1 hall t hm)⟩)
    b_goes
#print axioms recordBack_card
end Go.Proofs.YtoclnlimnjnbkaaGreatDoor
