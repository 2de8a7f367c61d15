/- RecordJoins: for every two recordings the law returns true, and its arguments read as they did before. Conditions: the package-level variables that the row lists hold what the program's text lays (the card ties them to it). -/
import Derived.Test.YtphgfiihccofnaaGreatDoorM44
import Derived.Test.YtphgfiihccofnaaGreatDoorM45
import Derived.Test.YtphgfiihccofnaaGreatDoorM35
import Derived.Test.YtphgfiihccofnaaGreatDoorM39
namespace Go.Proofs.YtphgfiihccofnaaGreatDoor
set_option linter.all false
open Go.RowKit Go.ChangeShapes Go.WideShapes Go.ChangeAt Go.Lib
set_option linter.unusedVariables false

set_option maxRecDepth 100000 in
theorem j_lifted (haw : AwakeOk) (os : Os) (started : os.Started) (H : Type) (enc : TypeId × Value → H) :
    ReturnsInHanded {} Tryz.checked os 4 .any (fun w args => (Rows.recordJoinsSpec.pre enc Tryz.prog Tryz.f4 [] false w args ∧ laidMetH Tryz.prog Rows.recordJoinsRow.laid w) ∧ sizedMet enc Tryz.prog Tryz.f4 (OpenSpec.ofChange Rows.recordJoinsSpec) false w args)
      (Rows.recordJoinsSpec.post enc Tryz.prog Tryz.f4 false true false false) := by
  refine returns_and_shaped (C := Tryz.checked) (X := fun w _ => laidMetH Tryz.prog Rows.recordJoinsRow.laid w) (fun _ _ _ hh h => h.of_heap hh) own_knob started (by kernel_rfl) Tryz.func4
    (ChangeSpec.witness_shaped (enc := enc) (C := Tryz.checked) (os := os) (X := fun w _ => laidMetH Tryz.prog Rows.recordJoinsRow.laid w) false (World.laidAll Tryz.prog os Rows.recordJoinsRow.laid) #[.agg #[.int .i64 0, .int .i64 0, .slice none 0 0, .slice none 0 0], .agg #[.int .i64 0, .int .i64 0, .slice none 0 0, .slice none 0 0]] 8 (World.laidAll_os _ _ _)
      (World.shaped_of_ZipB (by kernel_rfl) (by kernel_rfl)) (by kernel_rfl) (by kernel_rfl) (by kernel_rfl)
      (by rw [MakeChecks.laidMetH_plain _ _ _ (by kernel_rfl)]; exact laidMet_laidAll _ (by kernel_rfl) (by kernel_rfl))) ?_
  intro W base args ds gs before hval0 hW hL hsh
  have hval : ∀ (j : Nat) t v, Tryz.f4.params[j]? = some t → args[j]? = some v → Value.okWide Tryz.prog W .any base t v := hval0
  have hW' := hW
  obtain ⟨p, q, hA0, hV, rfl, _, _⟩ := hW
  have hA : DataW.TrodAll enc Tryz.prog W 0 (fun _ => true) true Tryz.f4.params.toList args.toList ds p := hA0
  obtain ⟨rfl, rfl⟩ := trodVars_none hV
  rw [MakeChecks.laidMetH_plain _ _ _ (by kernel_rfl)] at hL
  have hT := aw_of hL hsh
  rw [Tryz.params4] at hA hval
  obtain ⟨v0, v1, d0, d1, p0, p1, rfl, rfl, rfl, h0, h1⟩ := trodAll_two hA
  obtain ⟨st, sp, A, c, xs, B, d, ms, rfl, hR, hlc, hca, hm, hRB, hmb⟩ := open_rec (hval 0 _ _ rfl rfl) h0
  obtain ⟨st2, sp2, C, e1, ys, D, e2, ns, rfl, hR2, hlc2, hca2, hm2, hRD, hmd⟩ := open_rec (hval 1 _ _ rfl rfl) h1
  have hdb := rec_cap (hval 0 _ _ rfl rfl)
  refine (recordJoins_ok haw st sp A B c d xs ms st2 sp2 C D e1 e2 ys ns W hT hR hRB hR2 hRD (by unfold maxLen at hm; omega) (by unfold maxLen at hmb; omega) (by unfold maxLen at hm2; omega) (by unfold maxLen at hmd; omega) hlc hca hlc2 hca2 hdb).mono fun e W' ⟨he, hb⟩ => ?_
  subst he
  refine ⟨_, rfl, law_shut hW' rfl (by kernel_rfl) rfl ?_ hb⟩
  rw [Tryz.params4]
  intro t ht
  have hm : t ∈ [25, 25] := ht
  have hall : ([25, 25].all fun u => Tryz.prog.readableRec u && decide (u < Tryz.prog.types.size)) = true := by kernel_rfl
  simpa using List.all_eq_true.1 hall t hm

theorem j_in : Rows.recordJoinsRow.inPlace = Tryz.prog.inPlace 4 := by kernel_rfl
theorem j_un : Rows.recordJoinsRow.unfollowed = Tryz.prog.unfollowed 4 := by kernel_rfl
theorem j_re : Rows.recordJoinsRow.recurses = Tryz.prog.recurses 4 := by kernel_rfl
theorem j_na : Rows.recordJoinsRow.named = Tryz.prog.varsNamed 4 := by kernel_rfl
set_option maxRecDepth 100000 in
theorem j_closed : joinedFacts Tryz.prog 4 Tryz.f4 Rows.recordJoinsSpec Rows.recordJoinsRow = true := by
  unfold joinedFacts
  rw [← j_in, ← j_un, ← j_re, ← j_na]
  kernel_rfl
theorem j_fn : Tryz.prog.funcNamed "glideslope/glideslopelaw01.RecordJoins" = some 4 := by kernel_rfl
theorem j_inst : Tryz.f4.isInstance Tryz.prog Rows.recordJoinsRow.origin Rows.recordJoinsRow.targs := of_decide_eq_true (by kernel_rfl)
theorem j_wrap : Tryz.f4.isWrapper Tryz.prog Rows.recordJoinsRow.wrapper Rows.recordJoinsRow.mainSum := by
  unfold Func.isWrapper; first | (rw [if_pos (by decide +kernel)]; kernel_rfl) | (rw [if_neg (by decide +kernel)]; exact ⟨rfl, rfl⟩)
theorem j_said : Rows.RecordJoinsSaid :=
  OpenClaim.holds_of_wide (p := Tryz.pinned) 4 Tryz.f4 rfl rfl rfl rfl rfl rfl rfl ⟨rfl, rfl, rfl, rfl, rfl⟩ rfl rfl rfl rfl rfl j_fn Tryz.func4 j_closed j_inst j_wrap
    (fun os started H enc _ => j_lifted awake_ok os started H enc)
theorem j_wf : Rows.recordJoinsRow.wfByText (OpenSpec.ofChange Rows.recordJoinsSpec) = true := by kernel_rfl
theorem j_main : Tryz.pinned.checked.prog.mainIs = some (Rows.recordJoinsCard.stood.harness.1, Rows.recordJoinsCard.stood.harness.2.toList) := by kernel_rfl
theorem j_looks : false = Tryz.prog.looks [] := by kernel_rfl
theorem j_goes : false = Rows.recordJoinsRow.goesBy Tryz.prog := by kernel_rfl
theorem recordJoins_card : Rows.RecordJoinsCardSaid :=
  Claim7.holds_tied_plain_at .later [] [.data, .data, .data, .data, .data, .pinned] true Rows.recordJoinsCard.stood.harness false j_said (fun _ h => by cases h) j_wf (fun _ h => by cases h) recordJoins_row_tie rfl ⟨rfl, rfl⟩ j_main rfl
    (fun f fn hf hfn => by
      obtain rfl : f = 4 := (Option.some.inj (j_fn.symm.trans hf)).symm
      obtain rfl : fn = Tryz.f4 := (Option.some.inj (Tryz.func4.symm.trans hfn)).symm
      exact ⟨j_looks, fun j t ht => by
        rw [Tryz.params4] at ht
        have hm : t ∈ [25, 25] := by simpa using Array.mem_of_getElem? ht
        have hall : ([25, 25].all fun u => !Tryz.prog.wantsStandIn u) = true := by kernel_rfl
        exact (show Tryz.prog.wantsStandIn t = false by simpa using List.all_eq_true.1 hall t hm)⟩)
    j_goes
#print axioms recordJoins_card
end Go.Proofs.YtphgfiihccofnaaGreatDoor
