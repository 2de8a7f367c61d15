/- RecordRecordings: for every recording and every span the law returns true, and its arguments read as they did before. Conditions: the package-level variables that the row lists hold what the program's text lays (the card ties them to it). -/
import Derived.Test.YtphgfiihccofnaaGreatDoorM34
import Derived.Test.YtphgfiihccofnaaGreatDoorM36
import Derived.Test.YtphgfiihccofnaaGreatDoorM35
import Derived.Test.YtphgfiihccofnaaGreatDoorM39
namespace Go.Proofs.YtphgfiihccofnaaGreatDoor
set_option linter.all false
open Go.RowKit Go.ChangeShapes Go.WideShapes Go.ChangeAt Go.Lib
set_option linter.unusedVariables false

set_option maxRecDepth 100000 in
theorem r_lifted (haw : AwakeOk) (os : Os) (started : os.Started) (H : Type) (enc : TypeId × Value → H) :
    ReturnsInHanded {} Tryz.checked os 3 .any (fun w args => (Rows.recordRecordingsSpec.pre enc Tryz.prog Tryz.f3 [] false w args ∧ laidMetH Tryz.prog Rows.recordRecordingsRow.laid w) ∧ sizedMet enc Tryz.prog Tryz.f3 (OpenSpec.ofChange Rows.recordRecordingsSpec) false w args)
      (Rows.recordRecordingsSpec.post enc Tryz.prog Tryz.f3 false true false false) := by
  refine returns_and_shaped (C := Tryz.checked) (X := fun w _ => laidMetH Tryz.prog Rows.recordRecordingsRow.laid w) (fun _ _ _ hh h => h.of_heap hh) own_knob started (by kernel_rfl) Tryz.func3
    (ChangeSpec.witness_shaped (enc := enc) (C := Tryz.checked) (os := os) (X := fun w _ => laidMetH Tryz.prog Rows.recordRecordingsRow.laid w) false (World.laidAll Tryz.prog os Rows.recordRecordingsRow.laid) #[.agg #[.int .i64 0, .int .i64 0, .slice none 0 0, .slice none 0 0], .agg #[.int .i64 0, .int .i64 0]] 8 (World.laidAll_os _ _ _)
      (World.shaped_of_ZipB (by kernel_rfl) (by kernel_rfl)) (by kernel_rfl) (by kernel_rfl) (by kernel_rfl)
      (by rw [MakeChecks.laidMetH_plain _ _ _ (by kernel_rfl)]; exact laidMet_laidAll _ (by kernel_rfl) (by kernel_rfl))) ?_
  intro W base args ds gs before hval0 hW hL hsh
  have hval : ∀ (j : Nat) t v, Tryz.f3.params[j]? = some t → args[j]? = some v → Value.okWide Tryz.prog W .any base t v := hval0
  have hW' := hW
  obtain ⟨p, q, hA0, hV, rfl, _, _⟩ := hW
  have hA : DataW.TrodAll enc Tryz.prog W 0 (fun _ => true) true Tryz.f3.params.toList args.toList ds p := hA0
  obtain ⟨rfl, rfl⟩ := trodVars_none hV
  rw [MakeChecks.laidMetH_plain _ _ _ (by kernel_rfl)] at hL
  have hT := aw_of hL hsh
  rw [Tryz.params3] at hA hval
  obtain ⟨v0, v1, d0, d1, p0, p1, rfl, rfl, rfl, h0, h1⟩ := trodAll_two hA
  obtain ⟨st, sp, A, c, xs, B, e, ms, rfl, hR, hlc, hca, hm, hRB, hmb⟩ := open_rec (hval 0 _ _ rfl rfl) h0
  obtain ⟨cs1, rfl, hl1, hc1⟩ := ok_agg (ts := [3, 3]) (.inl ⟨_, Tryz.underlying27⟩) (by kernel_rfl) (by kernel_rfl) (hval 1 _ _ rfl rfl)
  obtain ⟨x0, x1, rfl⟩ : ∃ a b, cs1 = [a, b] := by match cs1, hl1 with | [a, b], _ => exact ⟨a, b, rfl⟩
  obtain ⟨f, rfl, _⟩ := cell_int Tryz.underlying3 (hc1 0 _ _ rfl rfl)
  obtain ⟨t, rfl, _⟩ := cell_int Tryz.underlying3 (hc1 1 _ _ rfl rfl)
  refine (recordRecordings_ok haw st sp A B c e xs ms f t W hT hR hRB hlc hca (by unfold maxLen at hm; omega) (by unfold maxLen at hmb; omega)).mono fun e W' ⟨he, hb⟩ => ?_
  subst he
  refine ⟨_, rfl, law_shut hW' rfl (by kernel_rfl) rfl ?_ hb⟩
  rw [Tryz.params3]
  intro t ht
  have hm : t ∈ [25, 27] := ht
  have hall : ([25, 27].all fun u => Tryz.prog.readableRec u && decide (u < Tryz.prog.types.size)) = true := by kernel_rfl
  simpa using List.all_eq_true.1 hall t hm

theorem r_in : Rows.recordRecordingsRow.inPlace = Tryz.prog.inPlace 3 := by kernel_rfl
theorem r_un : Rows.recordRecordingsRow.unfollowed = Tryz.prog.unfollowed 3 := by kernel_rfl
theorem r_re : Rows.recordRecordingsRow.recurses = Tryz.prog.recurses 3 := by kernel_rfl
theorem r_na : Rows.recordRecordingsRow.named = Tryz.prog.varsNamed 3 := by kernel_rfl
set_option maxRecDepth 100000 in
theorem r_closed : joinedFacts Tryz.prog 3 Tryz.f3 Rows.recordRecordingsSpec Rows.recordRecordingsRow = true := by
  unfold joinedFacts
  rw [← r_in, ← r_un, ← r_re, ← r_na]
  kernel_rfl
theorem r_fn : Tryz.prog.funcNamed "glideslope/glideslopelaw01.RecordRecordings" = some 3 := by kernel_rfl
theorem r_inst : Tryz.f3.isInstance Tryz.prog Rows.recordRecordingsRow.origin Rows.recordRecordingsRow.targs := of_decide_eq_true (by kernel_rfl)
theorem r_wrap : Tryz.f3.isWrapper Tryz.prog Rows.recordRecordingsRow.wrapper Rows.recordRecordingsRow.mainSum := by
  unfold Func.isWrapper; first | (rw [if_pos (by decide +kernel)]; kernel_rfl) | (rw [if_neg (by decide +kernel)]; exact ⟨rfl, rfl⟩)
theorem r_said : Rows.RecordRecordingsSaid :=
  OpenClaim.holds_of_wide (p := Tryz.pinned) 3 Tryz.f3 rfl rfl rfl rfl rfl rfl rfl ⟨rfl, rfl, rfl, rfl, rfl⟩ rfl rfl rfl rfl rfl r_fn Tryz.func3 r_closed r_inst r_wrap
    (fun os started H enc _ => r_lifted awake_ok os started H enc)
theorem r_wf : Rows.recordRecordingsRow.wfByText (OpenSpec.ofChange Rows.recordRecordingsSpec) = true := by kernel_rfl
theorem r_main : Tryz.pinned.checked.prog.mainIs = some (Rows.recordRecordingsCard.stood.harness.1, Rows.recordRecordingsCard.stood.harness.2.toList) := by kernel_rfl
theorem r_looks : false = Tryz.prog.looks [] := by kernel_rfl
theorem r_goes : false = Rows.recordRecordingsRow.goesBy Tryz.prog := by kernel_rfl
theorem recordRecordings_card : Rows.RecordRecordingsCardSaid :=
  Claim7.holds_tied_plain_at .later [] [.data, .data, .data, .data, .data, .pinned] true Rows.recordRecordingsCard.stood.harness false r_said (fun _ h => by cases h) r_wf (fun _ h => by cases h) recordRecordings_row_tie rfl ⟨rfl, rfl⟩ r_main rfl
    (fun f fn hf hfn => by
      obtain rfl : f = 3 := (Option.some.inj (r_fn.symm.trans hf)).symm
      obtain rfl : fn = Tryz.f3 := (Option.some.inj (Tryz.func3.symm.trans hfn)).symm
      exact ⟨r_looks, fun j t ht => by
        rw [Tryz.params3] at ht
        have hm : t ∈ [25, 27] := by simpa using Array.mem_of_getElem? ht
        have hall : ([25, 27].all fun u => !Tryz.prog.wantsStandIn u) = true := by kernel_rfl
        exact (show Tryz.prog.wantsStandIn t = false by simpa using List.all_eq_true.1 hall t hm)⟩)
    r_goes
#print axioms recordRecordings_card
end Go.Proofs.YtphgfiihccofnaaGreatDoor
