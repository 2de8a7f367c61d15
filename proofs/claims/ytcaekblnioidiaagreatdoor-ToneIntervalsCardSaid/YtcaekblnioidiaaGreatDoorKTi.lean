/- ToneIntervals: for every receiver, every signal and every interval of losses and noise the law returns true, and its arguments read as they did before. Conditions: the package-level variables that the row lists hold what the program's text lays (the card ties them to it). -/
import Derived.Test.YtcaekblnioidiaaGreatDoorUW
import Derived.Test.YtcaekblnioidiaaGreatDoorM46
import Derived.Test.YtcaekblnioidiaaGreatDoorM48
namespace Go.Proofs.YtcaekblnioidiaaGreatDoor
set_option linter.all false
open Go.RowKit Go.ChangeShapes Go.WideShapes Go.ChangeAt Go.Lib
set_option linter.unusedVariables false

set_option maxRecDepth 100000 in
theorem Ti_lifted (os : Os) (started : os.Started) (H : Type) (enc : TypeId × Value → H) :
 ReturnsInHanded {} Tryz.checked os 6 .any (fun w args => (Rows.toneIntervalsSpec.pre enc Tryz.prog Tryz.f6 [] false w args ∧ laidMetH Tryz.prog Rows.toneIntervalsRow.laid w) ∧ sizedMet enc Tryz.prog Tryz.f6 (OpenSpec.ofChange Rows.toneIntervalsSpec) false w args)
  (Rows.toneIntervalsSpec.post enc Tryz.prog Tryz.f6 false true false false) := by
 refine returns_and_shaped (C := Tryz.checked) (X := fun w _ => laidMetH Tryz.prog Rows.toneIntervalsRow.laid w) (fun _ _ _ hh h => h.of_heap hh) own_knob started (by kernel_rfl) Tryz.func6
  (ChangeSpec.witness_shaped (enc := enc) (C := Tryz.checked) (os := os) (X := fun w _ => laidMetH Tryz.prog Rows.toneIntervalsRow.laid w) false (World.laidAll Tryz.prog os Rows.toneIntervalsRow.laid) #[.agg #[.int .i64 0, .int .i64 0, .int .i64 0, .int .i64 0, .int .i64 0], .agg #[.int .i64 0, .int .i64 0, .int .i64 0, .int .i64 0, .int .i64 0, .int .i64 0], .agg #[.int .i64 0, .int .i64 0, .int .i64 0]] 8 (World.laidAll_os _ _ _)
    (World.shaped_of_ZipB (by kernel_rfl) (by kernel_rfl)) (by kernel_rfl) (by kernel_rfl) (by kernel_rfl)
    (by rw [MakeChecks.laidMetH_plain _ _ _ (by kernel_rfl)]; exact laidMet_laidAll _ (by kernel_rfl) (by kernel_rfl))) ?_
 intro W base args ds gs before hval0 hW hL hsh
 have hval : ∀ (j : Nat) t v, Tryz.f6.params[j]? = some t → args[j]? = some v → Value.okWide Tryz.prog W .any base t v := hval0
 have hW' := hW
 obtain ⟨p, q, hA0, hV, rfl, _, _⟩ := hW
 have hA : DataW.TrodAll enc Tryz.prog W 0 (fun _ => true) true Tryz.f6.params.toList args.toList ds p := hA0
 obtain ⟨rfl, rfl⟩ := trodVars_none hV
 rw [MakeChecks.laidMetH_plain _ _ _ (by kernel_rfl)] at hL
 have hT := awT_of hL hsh
 rw [Tryz.params6] at hA hval
 obtain ⟨v0, v1, v2, d0, d1, d2, p0, p1, p2, rfl, rfl, rfl, h0, h1, h2⟩ := trodAll_three hA
 obtain ⟨cs0, rfl, hl0, hc0⟩ := ok_agg (ts := [3, 3, 3, 3, 3]) (.inl ⟨_, Tryz.underlying64⟩) (by kernel_rfl) (by kernel_rfl) (hval 0 _ _ rfl rfl)
 obtain ⟨z00, z01, z02, z03, z04, rfl⟩ : ∃ a0 a1 a2 a3 a4, cs0 = [a0, a1, a2, a3, a4] := by match cs0, hl0 with | [a0, a1, a2, a3, a4], _ => exact ⟨a0, a1, a2, a3, a4, rfl⟩
 obtain ⟨rs, rfl, _⟩ := cell_int Tryz.underlying3 (hc0 0 _ _ rfl rfl)
 obtain ⟨rf, rfl, _⟩ := cell_int Tryz.underlying3 (hc0 1 _ _ rfl rfl)
 obtain ⟨rl, rfl, _⟩ := cell_int Tryz.underlying3 (hc0 2 _ _ rfl rfl)
 obtain ⟨ra, rfl, _⟩ := cell_int Tryz.underlying3 (hc0 3 _ _ rfl rfl)
 obtain ⟨rb, rfl, _⟩ := cell_int Tryz.underlying3 (hc0 4 _ _ rfl rfl)
 obtain ⟨cs1, rfl, hl1, hc1⟩ := ok_agg (ts := [3, 3, 3, 3, 3, 3]) (.inl ⟨_, Tryz.underlying25⟩) (by kernel_rfl) (by kernel_rfl) (hval 1 _ _ rfl rfl)
 obtain ⟨z10, z11, z12, z13, z14, z15, rfl⟩ : ∃ a b c d e f, cs1 = [a, b, c, d, e, f] := by match cs1, hl1 with | [a, b, c, d, e, f], _ => exact ⟨a, b, c, d, e, f, rfl⟩
 obtain ⟨a, rfl, _⟩ := cell_int Tryz.underlying3 (hc1 0 _ _ rfl rfl)
 obtain ⟨b, rfl, _⟩ := cell_int Tryz.underlying3 (hc1 1 _ _ rfl rfl)
 obtain ⟨c, rfl, _⟩ := cell_int Tryz.underlying3 (hc1 2 _ _ rfl rfl)
 obtain ⟨d, rfl, _⟩ := cell_int Tryz.underlying3 (hc1 3 _ _ rfl rfl)
 obtain ⟨x, rfl, _⟩ := cell_int Tryz.underlying3 (hc1 4 _ _ rfl rfl)
 obtain ⟨y, rfl, _⟩ := cell_int Tryz.underlying3 (hc1 5 _ _ rfl rfl)
 obtain ⟨cs2, rfl, hl2, hc2⟩ := ok_agg (ts := [3, 3, 3]) (.inl ⟨_, Tryz.underlying66⟩) (by kernel_rfl) (by kernel_rfl) (hval 2 _ _ rfl rfl)
 obtain ⟨z20, z21, z22, rfl⟩ : ∃ a0 a1 a2, cs2 = [a0, a1, a2] := by match cs2, hl2 with | [a0, a1, a2], _ => exact ⟨a0, a1, a2, rfl⟩
 obtain ⟨lo, rfl, _⟩ := cell_int Tryz.underlying3 (hc2 0 _ _ rfl rfl)
 obtain ⟨hi, rfl, _⟩ := cell_int Tryz.underlying3 (hc2 1 _ _ rfl rfl)
 obtain ⟨t, rfl, _⟩ := cell_int Tryz.underlying3 (hc2 2 _ _ rfl rfl)
 refine (toneIntervals_any rs rf rl ra rb a b c d x y lo hi t W hT).mono fun e W' ⟨he, hb⟩ => ?_
 subst he
 refine ⟨_, rfl, law_shut hW' rfl (by kernel_rfl) rfl ?_ hb⟩
 rw [Tryz.params6]
 intro t ht
 have hm : t ∈ [64, 25, 66] := ht
 have hall : ([64, 25, 66].all fun u => Tryz.prog.readableRec u && decide (u < Tryz.prog.types.size)) = true := by kernel_rfl
 simpa using List.all_eq_true.1 hall t hm

theorem Ti_in : Rows.toneIntervalsRow.inPlace = Tryz.prog.inPlace 6 := by kernel_rfl
theorem Ti_un : Rows.toneIntervalsRow.unfollowed = Tryz.prog.unfollowed 6 := by kernel_rfl
theorem Ti_re : Rows.toneIntervalsRow.recurses = Tryz.prog.recurses 6 := by kernel_rfl
theorem Ti_na : Rows.toneIntervalsRow.named = Tryz.prog.varsNamed 6 := by kernel_rfl
set_option maxRecDepth 100000 in
theorem Ti_closed : joinedFacts Tryz.prog 6 Tryz.f6 Rows.toneIntervalsSpec Rows.toneIntervalsRow = true := by
 unfold joinedFacts
 rw [← Ti_in, ← Ti_un, ← Ti_re, ← Ti_na]
 kernel_rfl
theorem Ti_fn : Tryz.prog.funcNamed "glideslope/glideslopelaw02.ToneIntervals" = some 6 := by kernel_rfl
theorem Ti_inst : Tryz.f6.isInstance Tryz.prog Rows.toneIntervalsRow.origin Rows.toneIntervalsRow.targs := of_decide_eq_true (by kernel_rfl)
theorem Ti_wrap : Tryz.f6.isWrapper Tryz.prog Rows.toneIntervalsRow.wrapper Rows.toneIntervalsRow.mainSum := by
 unfold Func.isWrapper; first | (rw [if_pos (by decide +kernel)]; kernel_rfl) | (rw [if_neg (by decide +kernel)]; exact ⟨rfl, rfl⟩)
theorem Ti_said : Rows.ToneIntervalsSaid :=
 OpenClaim.holds_of_wide (p := Tryz.pinned) 6 Tryz.f6 rfl rfl rfl rfl rfl rfl rfl ⟨rfl, rfl, rfl, rfl, rfl⟩ rfl rfl rfl rfl rfl Ti_fn Tryz.func6 Ti_closed Ti_inst Ti_wrap
  (fun os started H enc _ => Ti_lifted os started H enc)
theorem Ti_wf : Rows.toneIntervalsRow.wfByText (OpenSpec.ofChange Rows.toneIntervalsSpec) = true := by kernel_rfl
theorem Ti_main : Tryz.pinned.checked.prog.mainIs = some (Rows.toneIntervalsCard.stood.harness.1, Rows.toneIntervalsCard.stood.harness.2.toList) := by kernel_rfl
theorem Ti_looks : false = Tryz.prog.looks [] := by kernel_rfl
theorem Ti_goes : false = Rows.toneIntervalsRow.goesBy Tryz.prog := by kernel_rfl
theorem toneIntervals_card : Rows.ToneIntervalsCardSaid :=
 Claim7.holds_tied_plain_at .later [] [.data, .data, .data, .data, .data, .pinned] true Rows.toneIntervalsCard.stood.harness false Ti_said (fun _ h => by cases h) Ti_wf (fun _ h => by cases h) toneIntervals_row_tie rfl ⟨rfl, rfl⟩ Ti_main rfl
  (fun f fn hf hfn => by
    obtain rfl : f = 6 := (Option.some.inj (Ti_fn.symm.trans hf)).symm
    obtain rfl : fn = Tryz.f6 := (Option.some.inj (Tryz.func6.symm.trans hfn)).symm
    exact ⟨Ti_looks, fun j t ht => by
     rw [Tryz.params6] at ht
     have hm : t ∈ [64, 25, 66] := by simpa using Array.mem_of_getElem? ht
     have hall : ([64, 25, 66].all fun u => !Tryz.prog.wantsStandIn u) = true := by kernel_rfl
     exact (show Tryz.prog.wantsStandIn t = false by simpa using List.all_eq_true.1 hall t hm)⟩)
  Ti_goes
#print axioms toneIntervals_card
end Go.Proofs.YtcaekblnioidiaaGreatDoor
