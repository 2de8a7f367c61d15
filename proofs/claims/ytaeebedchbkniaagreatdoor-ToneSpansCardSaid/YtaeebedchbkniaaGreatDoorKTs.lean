/- ToneSpans: for every receiver and every list of signals the law returns true, and its arguments read as they did before. Conditions: the package-level variables that the row lists hold what the program's text lays (the card ties them to it). -/
import Derived.Test.YtaeebedchbkniaaGreatDoorVN
import Derived.Test.YtaeebedchbkniaaGreatDoorVH
import Derived.Test.YtaeebedchbkniaaGreatDoorM46
namespace Go.Proofs.YtaeebedchbkniaaGreatDoor
set_option linter.all false
open Go.RowKit Go.ChangeShapes Go.WideShapes Go.ChangeAt Go.Lib
set_option linter.unusedVariables false

set_option maxRecDepth 100000 in
theorem Ts_lifted (os : Os) (started : os.Started) (H : Type) (enc : TypeId × Value → H) :
 ReturnsInHanded {} Tryz.checked os 4 .any (fun w args => (Rows.toneSpansSpec.pre enc Tryz.prog Tryz.f4 [] false w args ∧ laidMetH Tryz.prog Rows.toneSpansRow.laid w) ∧ sizedMet enc Tryz.prog Tryz.f4 (OpenSpec.ofChange Rows.toneSpansSpec) false w args)
  (Rows.toneSpansSpec.post enc Tryz.prog Tryz.f4 false true false false) := by
 refine returns_and_shaped (C := Tryz.checked) (X := fun w _ => laidMetH Tryz.prog Rows.toneSpansRow.laid w) (fun _ _ _ hh h => h.of_heap hh) own_knob started (by kernel_rfl) Tryz.func4
  (ChangeSpec.witness_shaped (enc := enc) (C := Tryz.checked) (os := os) (X := fun w _ => laidMetH Tryz.prog Rows.toneSpansRow.laid w) false (World.laidAll Tryz.prog os Rows.toneSpansRow.laid) #[.agg #[.int .i64 0, .int .i64 0, .int .i64 0, .int .i64 0, .int .i64 0], .slice none 0 0] 8 (World.laidAll_os _ _ _)
    (World.shaped_of_ZipB (by kernel_rfl) (by kernel_rfl)) (by kernel_rfl) (by kernel_rfl) (by kernel_rfl)
    (by rw [MakeChecks.laidMetH_plain _ _ _ (by kernel_rfl)]; exact laidMet_laidAll _ (by kernel_rfl) (by kernel_rfl))) ?_
 intro W base args ds gs before hval0 hW hL hsh
 have hval : ∀ (j : Nat) t v, Tryz.f4.params[j]? = some t → args[j]? = some v → Value.okWide Tryz.prog W .any base t v := hval0
 have hW' := hW
 obtain ⟨p, q, hA0, hV, rfl, _, _⟩ := hW
 have hA : DataW.TrodAll enc Tryz.prog W 0 (fun _ => true) true Tryz.f4.params.toList args.toList ds p := hA0
 obtain ⟨rfl, rfl⟩ := trodVars_none hV
 rw [MakeChecks.laidMetH_plain _ _ _ (by kernel_rfl)] at hL
 have hT := awT_of hL hsh
 rw [Tryz.params4] at hA hval
 obtain ⟨v0, v1, d0, d1, p0, p1, rfl, rfl, rfl, h0, h1⟩ := trodAll_two hA
 obtain ⟨cs0, rfl, hl0, hc0⟩ := ok_agg (ts := [3, 3, 3, 3, 3]) (.inl ⟨_, Tryz.underlying25⟩) (by kernel_rfl) (by kernel_rfl) (hval 0 _ _ rfl rfl)
 obtain ⟨z00, z01, z02, z03, z04, rfl⟩ : ∃ a0 a1 a2 a3 a4, cs0 = [a0, a1, a2, a3, a4] := by match cs0, hl0 with | [a0, a1, a2, a3, a4], _ => exact ⟨a0, a1, a2, a3, a4, rfl⟩
 obtain ⟨rs, rfl, _⟩ := cell_int Tryz.underlying3 (hc0 0 _ _ rfl rfl)
 obtain ⟨rf, rfl, _⟩ := cell_int Tryz.underlying3 (hc0 1 _ _ rfl rfl)
 obtain ⟨rl, rfl, _⟩ := cell_int Tryz.underlying3 (hc0 2 _ _ rfl rfl)
 obtain ⟨ra, rfl, _⟩ := cell_int Tryz.underlying3 (hc0 3 _ _ rfl rfl)
 obtain ⟨rb, rfl, _⟩ := cell_int Tryz.underlying3 (hc0 4 _ _ rfl rfl)
 obtain ⟨AL, cL, L, rfl, hRL, _, _, _⟩ := open_sgs (hval 1 _ _ rfl rfl) h1
 refine (toneSpans_any rs rf rl ra rb AL cL L W hT hRL).mono fun e W' ⟨he, hb⟩ => ?_
 subst he
 refine ⟨_, rfl, law_shut hW' rfl (by kernel_rfl) rfl ?_ hb⟩
 rw [Tryz.params4]
 intro t ht
 have hm : t ∈ [25, 27] := ht
 have hall : ([25, 27].all fun u => Tryz.prog.readableRec u && decide (u < Tryz.prog.types.size)) = true := by kernel_rfl
 simpa using List.all_eq_true.1 hall t hm

theorem Ts_in : Rows.toneSpansRow.inPlace = Tryz.prog.inPlace 4 := by kernel_rfl
theorem Ts_un : Rows.toneSpansRow.unfollowed = Tryz.prog.unfollowed 4 := by kernel_rfl
theorem Ts_re : Rows.toneSpansRow.recurses = Tryz.prog.recurses 4 := by kernel_rfl
theorem Ts_na : Rows.toneSpansRow.named = Tryz.prog.varsNamed 4 := by kernel_rfl
set_option maxRecDepth 100000 in
theorem Ts_closed : joinedFacts Tryz.prog 4 Tryz.f4 Rows.toneSpansSpec Rows.toneSpansRow = true := by
 unfold joinedFacts
 rw [← Ts_in, ← Ts_un, ← Ts_re, ← Ts_na]
 kernel_rfl
theorem Ts_fn : Tryz.prog.funcNamed "glideslope/glideslopelaw02.ToneSpans" = some 4 := by kernel_rfl
theorem Ts_inst : Tryz.f4.isInstance Tryz.prog Rows.toneSpansRow.origin Rows.toneSpansRow.targs := of_decide_eq_true (by kernel_rfl)
theorem Ts_wrap : Tryz.f4.isWrapper Tryz.prog Rows.toneSpansRow.wrapper Rows.toneSpansRow.mainSum := by
 unfold Func.isWrapper; first | (rw [if_pos (by decide +kernel)]; kernel_rfl) | (rw [if_neg (by decide +kernel)]; exact ⟨rfl, rfl⟩)
theorem Ts_said : Rows.ToneSpansSaid :=
 OpenClaim.holds_of_wide (p := Tryz.pinned) 4 Tryz.f4 rfl rfl rfl rfl rfl rfl rfl ⟨rfl, rfl, rfl, rfl, rfl⟩ rfl rfl rfl rfl rfl Ts_fn Tryz.func4 Ts_closed Ts_inst Ts_wrap
  (fun os started H enc _ => Ts_lifted os started H enc)
theorem Ts_wf : Rows.toneSpansRow.wfByText (OpenSpec.ofChange Rows.toneSpansSpec) = true := by kernel_rfl
theorem Ts_main : Tryz.pinned.checked.prog.mainIs = some (Rows.toneSpansCard.stood.harness.1, Rows.toneSpansCard.stood.harness.2.toList) := by kernel_rfl
theorem Ts_looks : false = Tryz.prog.looks [] := by kernel_rfl
theorem Ts_goes : false = Rows.toneSpansRow.goesBy Tryz.prog := by kernel_rfl
theorem toneSpans_card : Rows.ToneSpansCardSaid :=
 Claim7.holds_tied_plain_at .later [] [.data, .data, .data, .data, .data, .pinned] true Rows.toneSpansCard.stood.harness false Ts_said (fun _ h => by cases h) Ts_wf (fun _ h => by cases h) toneSpans_row_tie rfl ⟨rfl, rfl⟩ Ts_main rfl
  (fun f fn hf hfn => by
    obtain rfl : f = 4 := (Option.some.inj (Ts_fn.symm.trans hf)).symm
    obtain rfl : fn = Tryz.f4 := (Option.some.inj (Tryz.func4.symm.trans hfn)).symm
    exact ⟨Ts_looks, fun j t ht => by
     rw [Tryz.params4] at ht
     have hm : t ∈ [25, 27] := by simpa using Array.mem_of_getElem? ht
     have hall : ([25, 27].all fun u => !Tryz.prog.wantsStandIn u) = true := by kernel_rfl
     exact (show Tryz.prog.wantsStandIn t = false by simpa using List.all_eq_true.1 hall t hm)⟩)
  Ts_goes
#print axioms toneSpans_card
end Go.Proofs.YtaeebedchbkniaaGreatDoor
