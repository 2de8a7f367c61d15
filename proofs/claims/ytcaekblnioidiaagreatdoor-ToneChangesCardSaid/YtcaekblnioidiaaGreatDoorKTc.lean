/- ToneChanges: for every two signals and every change the law returns true, and its arguments read as they did before. Conditions: the package-level variables that the row lists hold what the program's text lays (the card ties them to it). -/
import Derived.Test.YtcaekblnioidiaaGreatDoorM50
import Derived.Test.YtcaekblnioidiaaGreatDoorM46
import Derived.Test.YtcaekblnioidiaaGreatDoorM48
namespace Go.Proofs.YtcaekblnioidiaaGreatDoor
set_option linter.all false
open Go.RowKit Go.ChangeShapes Go.WideShapes Go.ChangeAt Go.Lib
set_option maxRecDepth 100000 in
theorem Tc_lifted (os : Os) (started : os.Started) (H : Type) (enc : TypeId × Value → H) :
 ReturnsInHanded {} Tryz.checked os 4 .any (fun w args => (Rows.toneChangesSpec.pre enc Tryz.prog Tryz.f4 [] false w args ∧ laidMetH Tryz.prog Rows.toneChangesRow.laid w) ∧ sizedMet enc Tryz.prog Tryz.f4 (OpenSpec.ofChange Rows.toneChangesSpec) false w args)
  (Rows.toneChangesSpec.post enc Tryz.prog Tryz.f4 false true false false) := by
 refine returns_and_shaped (C := Tryz.checked) (X := fun w _ => laidMetH Tryz.prog Rows.toneChangesRow.laid w) (fun _ _ _ hh h => h.of_heap hh) own_knob started (by kernel_rfl) Tryz.func4
  (ChangeSpec.witness_shaped (enc := enc) (C := Tryz.checked) (os := os) (X := fun w _ => laidMetH Tryz.prog Rows.toneChangesRow.laid w) false (World.laidAll Tryz.prog os Rows.toneChangesRow.laid) #[.agg #[.int .i64 0, .int .i64 0, .int .i64 0, .int .i64 0, .int .i64 0, .int .i64 0], .agg #[.int .i64 0, .int .i64 0, .int .i64 0, .int .i64 0, .int .i64 0, .int .i64 0], .agg #[.int .i64 0, .int .i64 0, .int .i64 0, .int .i64 0, .int .i64 0]] 8 (World.laidAll_os _ _ _)
    (World.shaped_of_ZipB (by kernel_rfl) (by kernel_rfl)) (by kernel_rfl) (by kernel_rfl) (by kernel_rfl)
    (by rw [MakeChecks.laidMetH_plain _ _ _ (by kernel_rfl)]; exact laidMet_laidAll _ (by kernel_rfl) (by kernel_rfl))) ?_
 intro W base args ds gs before hval0 hW hL hsh
 have hval : ∀ (j : Nat) t v, Tryz.f4.params[j]? = some t → args[j]? = some v → Value.okWide Tryz.prog W .any base t v := hval0
 have hW' := hW
 obtain ⟨p, q, hA0, hV, rfl, _, _⟩ := hW
 have hA : DataW.TrodAll enc Tryz.prog W 0 (fun _ => true) true Tryz.f4.params.toList args.toList ds p := hA0
 obtain ⟨rfl, rfl⟩ := trodVars_none hV
 rw [MakeChecks.laidMetH_plain _ _ _ (by kernel_rfl)] at hL
 have hT := awT_of hL hsh
 rw [Tryz.params4] at hA hval
 obtain ⟨v0, v1, v2, d0, d1, d2, p0, p1, p2, rfl, rfl, rfl, h0, h1, h2⟩ := trodAll_three hA
 obtain ⟨cs0, rfl, hl0, hc0⟩ := ok_agg (ts := [3, 3, 3, 3, 3, 3]) (.inl ⟨_, Tryz.underlying25⟩) (by kernel_rfl) (by kernel_rfl) (hval 0 _ _ rfl rfl)
 obtain ⟨z00, z01, z02, z03, z04, z05, rfl⟩ : ∃ a b c d e f, cs0 = [a, b, c, d, e, f] := by match cs0, hl0 with | [a, b, c, d, e, f], _ => exact ⟨a, b, c, d, e, f, rfl⟩
 obtain ⟨a, rfl, _⟩ := cell_int Tryz.underlying3 (hc0 0 _ _ rfl rfl)
 obtain ⟨b, rfl, _⟩ := cell_int Tryz.underlying3 (hc0 1 _ _ rfl rfl)
 obtain ⟨c, rfl, _⟩ := cell_int Tryz.underlying3 (hc0 2 _ _ rfl rfl)
 obtain ⟨d, rfl, _⟩ := cell_int Tryz.underlying3 (hc0 3 _ _ rfl rfl)
 obtain ⟨x, rfl, _⟩ := cell_int Tryz.underlying3 (hc0 4 _ _ rfl rfl)
 obtain ⟨y, rfl, _⟩ := cell_int Tryz.underlying3 (hc0 5 _ _ rfl rfl)
 obtain ⟨cs1, rfl, hl1, hc1⟩ := ok_agg (ts := [3, 3, 3, 3, 3, 3]) (.inl ⟨_, Tryz.underlying25⟩) (by kernel_rfl) (by kernel_rfl) (hval 1 _ _ rfl rfl)
 obtain ⟨z10, z11, z12, z13, z14, z15, rfl⟩ : ∃ a b c d e f, cs1 = [a, b, c, d, e, f] := by match cs1, hl1 with | [a, b, c, d, e, f], _ => exact ⟨a, b, c, d, e, f, rfl⟩
 obtain ⟨k, rfl, _⟩ := cell_int Tryz.underlying3 (hc1 0 _ _ rfl rfl)
 obtain ⟨l, rfl, _⟩ := cell_int Tryz.underlying3 (hc1 1 _ _ rfl rfl)
 obtain ⟨m, rfl, _⟩ := cell_int Tryz.underlying3 (hc1 2 _ _ rfl rfl)
 obtain ⟨n, rfl, _⟩ := cell_int Tryz.underlying3 (hc1 3 _ _ rfl rfl)
 obtain ⟨u, rfl, _⟩ := cell_int Tryz.underlying3 (hc1 4 _ _ rfl rfl)
 obtain ⟨v, rfl, _⟩ := cell_int Tryz.underlying3 (hc1 5 _ _ rfl rfl)
 obtain ⟨cs2, rfl, hl2, hc2⟩ := ok_agg (ts := [3, 3, 3, 3, 3]) (.inl ⟨_, Tryz.underlying41⟩) (by kernel_rfl) (by kernel_rfl) (hval 2 _ _ rfl rfl)
 obtain ⟨z20, z21, z22, z23, z24, rfl⟩ : ∃ a0 a1 a2 a3 a4, cs2 = [a0, a1, a2, a3, a4] := by match cs2, hl2 with | [a0, a1, a2, a3, a4], _ => exact ⟨a0, a1, a2, a3, a4, rfl⟩
 obtain ⟨tt, rfl, _⟩ := cell_int Tryz.underlying3 (hc2 0 _ _ rfl rfl)
 obtain ⟨f1, rfl, _⟩ := cell_int Tryz.underlying3 (hc2 1 _ _ rfl rfl)
 obtain ⟨f2, rfl, _⟩ := cell_int Tryz.underlying3 (hc2 2 _ _ rfl rfl)
 obtain ⟨f3, rfl, _⟩ := cell_int Tryz.underlying3 (hc2 3 _ _ rfl rfl)
 obtain ⟨f4, rfl, _⟩ := cell_int Tryz.underlying3 (hc2 4 _ _ rfl rfl)
 refine (toneChanges_any AwT (fun _ _ h hb => h.old hb) (fun W hW => awake_ok W hW) (fun _ h => h.1) a b c d x y k l m n u v tt f1 f2 f3 f4 W hT).mono fun e W' ⟨he, hb⟩ => ?_
 subst he
 refine ⟨_, rfl, law_shut hW' rfl (by kernel_rfl) rfl ?_ hb⟩
 rw [Tryz.params4]
 intro t ht
 have hm : t ∈ [25, 25, 41] := ht
 have hall : ([25, 25, 41].all fun u => Tryz.prog.readableRec u && decide (u < Tryz.prog.types.size)) = true := by kernel_rfl
 simpa using List.all_eq_true.1 hall t hm
theorem Tc_in : Rows.toneChangesRow.inPlace = Tryz.prog.inPlace 4 := by kernel_rfl
theorem Tc_un : Rows.toneChangesRow.unfollowed = Tryz.prog.unfollowed 4 := by kernel_rfl
theorem Tc_re : Rows.toneChangesRow.recurses = Tryz.prog.recurses 4 := by kernel_rfl
theorem Tc_na : Rows.toneChangesRow.named = Tryz.prog.varsNamed 4 := by kernel_rfl
set_option maxRecDepth 100000 in
theorem Tc_closed : joinedFacts Tryz.prog 4 Tryz.f4 Rows.toneChangesSpec Rows.toneChangesRow = true := by
 unfold joinedFacts
 rw [← Tc_in, ← Tc_un, ← Tc_re, ← Tc_na]
 kernel_rfl
theorem Tc_fn : Tryz.prog.funcNamed "glideslope/glideslopelaw02.ToneChanges" = some 4 := by kernel_rfl
theorem Tc_inst : Tryz.f4.isInstance Tryz.prog Rows.toneChangesRow.origin Rows.toneChangesRow.targs := of_decide_eq_true (by kernel_rfl)
theorem Tc_wrap : Tryz.f4.isWrapper Tryz.prog Rows.toneChangesRow.wrapper Rows.toneChangesRow.mainSum := by
 unfold Func.isWrapper; first | (rw [if_pos (by decide +kernel)]; kernel_rfl) | (rw [if_neg (by decide +kernel)]; exact ⟨rfl, rfl⟩)
theorem Tc_said : Rows.ToneChangesSaid :=
 OpenClaim.holds_of_wide (p := Tryz.pinned) 4 Tryz.f4 rfl rfl rfl rfl rfl rfl rfl ⟨rfl, rfl, rfl, rfl, rfl⟩ rfl rfl rfl rfl rfl Tc_fn Tryz.func4 Tc_closed Tc_inst Tc_wrap
  (fun os started H enc _ => Tc_lifted os started H enc)
theorem Tc_wf : Rows.toneChangesRow.wfByText (OpenSpec.ofChange Rows.toneChangesSpec) = true := by kernel_rfl
theorem Tc_main : Tryz.pinned.checked.prog.mainIs = some (Rows.toneChangesCard.stood.harness.1, Rows.toneChangesCard.stood.harness.2.toList) := by kernel_rfl
theorem Tc_looks : false = Tryz.prog.looks [] := by kernel_rfl
theorem Tc_goes : false = Rows.toneChangesRow.goesBy Tryz.prog := by kernel_rfl
theorem toneChanges_card : Rows.ToneChangesCardSaid :=
 Claim7.holds_tied_plain_at .later [] [.data, .data, .data, .data, .data, .pinned] true Rows.toneChangesCard.stood.harness false Tc_said (fun _ h => by cases h) Tc_wf (fun _ h => by cases h) toneChanges_row_tie rfl ⟨rfl, rfl⟩ Tc_main rfl
  (fun f fn hf hfn => by
    obtain rfl : f = 4 := (Option.some.inj (Tc_fn.symm.trans hf)).symm
    obtain rfl : fn = Tryz.f4 := (Option.some.inj (Tryz.func4.symm.trans hfn)).symm
    exact ⟨Tc_looks, fun j t ht => by
     rw [Tryz.params4] at ht
     have hm : t ∈ [25, 25, 41] := by simpa using Array.mem_of_getElem? ht
     have hall : ([25, 25, 41].all fun u => !Tryz.prog.wantsStandIn u) = true := by kernel_rfl
     exact (show Tryz.prog.wantsStandIn t = false by simpa using List.all_eq_true.1 hall t hm)⟩)
  Tc_goes
#print axioms toneChanges_card
end Go.Proofs.YtcaekblnioidiaaGreatDoor
