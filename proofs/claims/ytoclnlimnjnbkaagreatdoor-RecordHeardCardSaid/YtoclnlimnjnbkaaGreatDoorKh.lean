/- RecordHeard: for every list of lists of bytes, every byte and every list of int8 the law returns true, and its arguments read as they did before. Conditions: the package-level variables that the row lists hold what the program's text lays (the card ties them to it). -/
import Derived.Test.YtoclnlimnjnbkaaGreatDoorM34
import Derived.Test.YtoclnlimnjnbkaaGreatDoorM37
namespace Go.Proofs.YtoclnlimnjnbkaaGreatDoor
set_option linter.all false
open Go.RowKit Go.ChangeShapes Go.WideShapes Go.ChangeAt Go.Lib
set_option maxRecDepth 100000 in
theorem h_lifted (haw : AwakeOk) (os : Os) (started : os.Started) (H : Type) (enc : TypeId × Value → H) :
    ReturnsInHanded {} Tryz.checked os 5 .any (fun w args => (Rows.recordHeardSpec.pre enc Tryz.prog Tryz.f5 [] false w args ∧ laidMetH Tryz.prog Rows.recordHeardRow.laid w) ∧ sizedMet enc Tryz.prog Tryz.f5 (OpenSpec.ofChange Rows.recordHeardSpec) false w args)
      (Rows.recordHeardSpec.post enc Tryz.prog Tryz.f5 false true false false) := by
  refine returns_and_shaped (C := Tryz.checked) (X := fun w _ => laidMetH Tryz.prog Rows.recordHeardRow.laid w) (fun _ _ _ hh h => h.of_heap hh) own_knob started (by kernel_rfl) Tryz.func5
    (ChangeSpec.witness_shaped (enc := enc) (C := Tryz.checked) (os := os) (X := fun w _ => laidMetH Tryz.prog Rows.recordHeardRow.laid w) false (World.laidAll Tryz.prog os Rows.recordHeardRow.laid) #[.slice none 0 0, .int .u8 0, .slice none 0 0] 8 (World.laidAll_os _ _ _)
      (World.shaped_of_ZipB (by kernel_rfl) (by kernel_rfl)) (by kernel_rfl) (by kernel_rfl) (by kernel_rfl)
      (by rw [MakeChecks.laidMetH_plain _ _ _ (by kernel_rfl)]; exact laidMet_laidAll _ (by kernel_rfl) (by kernel_rfl))) ?_
  intro W base args ds gs before hval0 hW hL hsh
  have hval : ∀ (j : Nat) t v, Tryz.f5.params[j]? = some t → args[j]? = some v → Value.okWide Tryz.prog W .any base t v := hval0
  have hW' := hW
  obtain ⟨p, q, hA0, hV, rfl, _, _⟩ := hW
  have hA : DataW.TrodAll enc Tryz.prog W 0 (fun _ => true) true Tryz.f5.params.toList args.toList ds p := hA0
  obtain ⟨rfl, rfl⟩ := trodVars_none hV
  rw [MakeChecks.laidMetH_plain _ _ _ (by kernel_rfl)] at hL
  have hT := aw_of hL hsh
  rw [Tryz.params5] at hA hval
  obtain ⟨v0, v1, v2, d0, d1, d2, p0, p1, p2, rfl, rfl, rfl, h0, h1, h2⟩ := trodAll_three hA
  obtain ⟨A, xc, Xs, rfl, hR, hRR, hm⟩ := open_words (hval 0 _ _ rfl rfl) h0
  obtain ⟨n0, rfl, hn⟩ := ok_int Tryz.underlying5 (hval 1 _ _ rfl rfl)
  obtain ⟨dt, rfl, hdt⟩ := u8_nat2 hn
  obtain ⟨B, bc, bys, rfl, hRB, hby, hmb⟩ := open_i8s Tryz.underlying77 Tryz.underlying81 (by kernel_rfl) (hval 2 _ _ rfl rfl) h2
  have hS : HdS W A Xs B bys W := ⟨hR, hRR, hRB, hT, Below.refl _ _⟩
  refine (recordHeard_ok haw A xc Xs dt B bc bys W hS (by unfold maxLen at hm; omega) (by unfold maxLen at hmb; omega) hdt hby).mono fun e W' ⟨he, hb⟩ => ?_
  subst he
  refine ⟨_, rfl, law_shut hW' rfl (by kernel_rfl) rfl ?_ hb⟩
  rw [Tryz.params5]
  intro t ht
  have hm : t ∈ [76, 5, 77] := ht
  have hall : ([76, 5, 77].all fun u => Tryz.prog.readableRec u && decide (u < Tryz.prog.types.size)) = true := by kernel_rfl
  simpa using List.all_eq_true.1 hall t hm
theorem h_in : Rows.recordHeardRow.inPlace = Tryz.prog.inPlace 5 := by kernel_rfl
theorem h_un : Rows.recordHeardRow.unfollowed = Tryz.prog.unfollowed 5 := by kernel_rfl
theorem h_re : Rows.recordHeardRow.recurses = Tryz.prog.recurses 5 := by kernel_rfl
theorem h_na : Rows.recordHeardRow.named = Tryz.prog.varsNamed 5 := by kernel_rfl
set_option maxRecDepth 100000 in
theorem h_closed : joinedFacts Tryz.prog 5 Tryz.f5 Rows.recordHeardSpec Rows.recordHeardRow = true := by
  unfold joinedFacts
  rw [← h_in, ← h_un, ← h_re, ← h_na]
  kernel_rfl
theorem h_fn : Tryz.prog.funcNamed "glideslope/glideslopelaw01.RecordHeard" = some 5 := by kernel_rfl
theorem h_inst : Tryz.f5.isInstance Tryz.prog Rows.recordHeardRow.origin Rows.recordHeardRow.targs := of_decide_eq_true (by kernel_rfl)
theorem h_wrap : Tryz.f5.isWrapper Tryz.prog Rows.recordHeardRow.wrapper Rows.recordHeardRow.mainSum := by
  unfold Func.isWrapper; first | (rw [if_pos (by decide +kernel)]; kernel_rfl) | (rw [if_neg (by decide +kernel)]; exact ⟨rfl, rfl⟩)
theorem h_said : Rows.RecordHeardSaid :=
  OpenClaim.holds_of_wide (p := Tryz.pinned) 5 Tryz.f5 rfl rfl rfl rfl rfl rfl rfl ⟨rfl, rfl, rfl, rfl, rfl⟩ rfl rfl rfl rfl rfl h_fn Tryz.func5 h_closed h_inst h_wrap
    (fun os started H enc _ => h_lifted awake_ok os started H enc)
theorem h_wf : Rows.recordHeardRow.wfByText (OpenSpec.ofChange Rows.recordHeardSpec) = true := by kernel_rfl
theorem h_main : Tryz.pinned.checked.prog.mainIs = some (Rows.recordHeardCard.stood.harness.1, Rows.recordHeardCard.stood.harness.2.toList) := by kernel_rfl
theorem h_looks : false = Tryz.prog.looks [] := by kernel_rfl
theorem h_goes : false = Rows.recordHeardRow.goesBy Tryz.prog := by kernel_rfl
theorem recordHeard_card : Rows.RecordHeardCardSaid :=
  Claim7.holds_tied_plain_at .later [] [.data, .data, .data, .data, .data, .pinned] true Rows.recordHeardCard.stood.harness false h_said (fun _ h => by cases h) h_wf (fun _ h => by cases h) recordHeard_row_tie rfl ⟨rfl, rfl⟩ h_main rfl
    (fun f fn hf hfn => by
      obtain rfl : f = 5 := (Option.some.inj (h_fn.symm.trans hf)).symm
      obtain rfl : fn = Tryz.f5 := (Option.some.inj (Tryz.func5.symm.trans hfn)).symm
      exact ⟨h_looks, fun j t ht => by
        rw [Tryz.params5] at ht
        have hm : t ∈ [76, 5, 77] := by simpa using Array.mem_of_getElem? ht
        have hall : ([76, 5, 77].all fun u => !Tryz.prog.wantsStandIn u) = true := by kernel_rfl
        exact (show Tryz.prog.wantsStandIn t = false by simpa using List.all_eq_true.1 hall t hm)⟩)
    h_goes
#print axioms recordHeard_card
end Go.Proofs.YtoclnlimnjnbkaaGreatDoor
