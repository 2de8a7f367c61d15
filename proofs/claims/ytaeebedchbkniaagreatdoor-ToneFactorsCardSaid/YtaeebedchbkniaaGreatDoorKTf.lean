/- ToneFactors: for every signal, every further low and high tone and every three bytes the law returns true, and its arguments read as they did before. Conditions: the package-level variables that the row lists hold what the program's text lays (the card ties them to it). -/
import Derived.Test.YtaeebedchbkniaaGreatDoorM49
import Derived.Test.YtaeebedchbkniaaGreatDoorM50
namespace Go.Proofs.YtaeebedchbkniaaGreatDoor
set_option linter.all false
open Go.RowKit Go.ChangeShapes Go.WideShapes Go.ChangeAt Go.Lib
set_option maxRecDepth 100000 in
theorem Tf_lifted (os : Os) (started : os.Started) (H : Type) (enc : TypeId × Value → H) :
 ReturnsInHanded {} Tryz.checked os 6 .any (fun w args => (Rows.toneFactorsSpec.pre enc Tryz.prog Tryz.f6 [] false w args ∧ laidMetH Tryz.prog Rows.toneFactorsRow.laid w) ∧ sizedMet enc Tryz.prog Tryz.f6 (OpenSpec.ofChange Rows.toneFactorsSpec) false w args)
  (Rows.toneFactorsSpec.post enc Tryz.prog Tryz.f6 false true false false) := by
 refine returns_and_shaped (C := Tryz.checked) (X := fun w _ => laidMetH Tryz.prog Rows.toneFactorsRow.laid w) (fun _ _ _ hh h => h.of_heap hh) own_knob started (by kernel_rfl) Tryz.func6
  (ChangeSpec.witness_shaped (enc := enc) (C := Tryz.checked) (os := os) (X := fun w _ => laidMetH Tryz.prog Rows.toneFactorsRow.laid w) false (World.laidAll Tryz.prog os Rows.toneFactorsRow.laid) #[.agg #[.int .i64 0, .int .i64 0, .int .i64 0, .int .i64 0, .int .i64 0, .int .i64 0], .agg #[.int .i64 0, .int .i64 0, .int .i64 0, .int .i64 0], .agg #[.int .i8 0, .int .i8 0, .int .i8 0]] 8 (World.laidAll_os _ _ _)
    (World.shaped_of_ZipB (by kernel_rfl) (by kernel_rfl)) (by kernel_rfl) (by kernel_rfl) (by kernel_rfl)
    (by rw [MakeChecks.laidMetH_plain _ _ _ (by kernel_rfl)]; exact laidMet_laidAll _ (by kernel_rfl) (by kernel_rfl))) ?_
 intro W base args ds gs before hval0 hW hL hsh
 have hval : ∀ (j : Nat) t v, Tryz.f6.params[j]? = some t → args[j]? = some v → Value.okWide Tryz.prog W .any base t v := hval0
 have hW' := hW
 obtain ⟨p, q, hA0, hV, rfl, _, _⟩ := hW
 have hA : DataW.TrodAll enc Tryz.prog W 0 (fun _ => true) true Tryz.f6.params.toList args.toList ds p := hA0
 obtain ⟨rfl, rfl⟩ := trodVars_none hV
 rw [MakeChecks.laidMetH_plain _ _ _ (by kernel_rfl)] at hL
 have hT := awT_of hL hsh
 rw [Tryz.params6] at hA hval
 obtain ⟨v0, v1, v2, d0, d1, d2, p0, p1, p2, rfl, rfl, rfl, h0, h1, h2⟩ := trodAll_three hA
 obtain ⟨cs0, rfl, hl0, hc0⟩ := ok_agg (ts := [3, 3, 3, 3, 3, 3]) (.inl ⟨_, Tryz.underlying40⟩) (by kernel_rfl) (by kernel_rfl) (hval 0 _ _ rfl rfl)
 obtain ⟨z00, z01, z02, z03, z04, z05, rfl⟩ : ∃ a b c d e f, cs0 = [a, b, c, d, e, f] := by match cs0, hl0 with | [a, b, c, d, e, f], _ => exact ⟨a, b, c, d, e, f, rfl⟩
 obtain ⟨a, rfl, _⟩ := cell_int Tryz.underlying3 (hc0 0 _ _ rfl rfl)
 obtain ⟨b, rfl, _⟩ := cell_int Tryz.underlying3 (hc0 1 _ _ rfl rfl)
 obtain ⟨c, rfl, _⟩ := cell_int Tryz.underlying3 (hc0 2 _ _ rfl rfl)
 obtain ⟨d, rfl, _⟩ := cell_int Tryz.underlying3 (hc0 3 _ _ rfl rfl)
 obtain ⟨x, rfl, _⟩ := cell_int Tryz.underlying3 (hc0 4 _ _ rfl rfl)
 obtain ⟨y, rfl, _⟩ := cell_int Tryz.underlying3 (hc0 5 _ _ rfl rfl)
 obtain ⟨cs1, rfl, hl1, hc1⟩ := ok_agg (ts := [3, 3, 3, 3]) (.inr ⟨_, _, Tryz.underlying73⟩) (by kernel_rfl) (by kernel_rfl) (hval 1 _ _ rfl rfl)
 obtain ⟨z10, z11, z12, z13, rfl⟩ : ∃ a0 a1 a2 a3, cs1 = [a0, a1, a2, a3] := by match cs1, hl1 with | [a0, a1, a2, a3], _ => exact ⟨a0, a1, a2, a3, rfl⟩
 obtain ⟨p_, rfl, _⟩ := cell_int Tryz.underlying3 (hc1 0 _ _ rfl rfl)
 obtain ⟨q_, rfl, _⟩ := cell_int Tryz.underlying3 (hc1 1 _ _ rfl rfl)
 obtain ⟨r_, rfl, _⟩ := cell_int Tryz.underlying3 (hc1 2 _ _ rfl rfl)
 obtain ⟨u_, rfl, _⟩ := cell_int Tryz.underlying3 (hc1 3 _ _ rfl rfl)
 obtain ⟨cs2, rfl, hl2, hc2⟩ := ok_agg (ts := [74, 74, 74]) (.inr ⟨_, _, Tryz.underlying75⟩) (by kernel_rfl) (by kernel_rfl) (hval 2 _ _ rfl rfl)
 obtain ⟨z20, z21, z22, rfl⟩ : ∃ a0 a1 a2, cs2 = [a0, a1, a2] := by match cs2, hl2 with | [a0, a1, a2], _ => exact ⟨a0, a1, a2, rfl⟩
 obtain ⟨n0, rfl, rn0⟩ := cell_int Tryz.underlying74 (hc2 0 _ _ rfl rfl)
 obtain ⟨n1, rfl, rn1⟩ := cell_int Tryz.underlying74 (hc2 1 _ _ rfl rfl)
 obtain ⟨n2, rfl, rn2⟩ := cell_int Tryz.underlying74 (hc2 2 _ _ rfl rfl)
 refine (toneFactors_any a b c d x y p_ q_ r_ u_ n0 n1 n2 W hT ⟨⟨rn0.1, rn0.2⟩, ⟨rn1.1, rn1.2⟩, ⟨rn2.1, rn2.2⟩⟩).mono fun e W' ⟨he, hb⟩ => ?_
 subst he
 refine ⟨_, rfl, law_shut hW' rfl (by kernel_rfl) rfl ?_ hb⟩
 rw [Tryz.params6]
 intro t ht
 have hm : t ∈ [40, 73, 75] := ht
 have hall : ([40, 73, 75].all fun u => Tryz.prog.readableRec u && decide (u < Tryz.prog.types.size)) = true := by kernel_rfl
 simpa using List.all_eq_true.1 hall t hm
theorem Tf_in : Rows.toneFactorsRow.inPlace = Tryz.prog.inPlace 6 := by kernel_rfl
theorem Tf_un : Rows.toneFactorsRow.unfollowed = Tryz.prog.unfollowed 6 := by kernel_rfl
theorem Tf_re : Rows.toneFactorsRow.recurses = Tryz.prog.recurses 6 := by kernel_rfl
theorem Tf_na : Rows.toneFactorsRow.named = Tryz.prog.varsNamed 6 := by kernel_rfl
set_option maxRecDepth 100000 in
theorem Tf_closed : joinedFacts Tryz.prog 6 Tryz.f6 Rows.toneFactorsSpec Rows.toneFactorsRow = true := by
 unfold joinedFacts
 rw [← Tf_in, ← Tf_un, ← Tf_re, ← Tf_na]
 kernel_rfl
theorem Tf_fn : Tryz.prog.funcNamed "glideslope/glideslopelaw02.ToneFactors" = some 6 := by kernel_rfl
theorem Tf_inst : Tryz.f6.isInstance Tryz.prog Rows.toneFactorsRow.origin Rows.toneFactorsRow.targs := of_decide_eq_true (by kernel_rfl)
theorem Tf_wrap : Tryz.f6.isWrapper Tryz.prog Rows.toneFactorsRow.wrapper Rows.toneFactorsRow.mainSum := by
 unfold Func.isWrapper; first | (rw [if_pos (by decide +kernel)]; kernel_rfl) | (rw [if_neg (by decide +kernel)]; exact ⟨rfl, rfl⟩)
theorem Tf_said : Rows.ToneFactorsSaid :=
 OpenClaim.holds_of_wide (p := Tryz.pinned) 6 Tryz.f6 rfl rfl rfl rfl rfl rfl rfl ⟨rfl, rfl, rfl, rfl, rfl⟩ rfl rfl rfl rfl rfl Tf_fn Tryz.func6 Tf_closed Tf_inst Tf_wrap
  (fun os started H enc _ => Tf_lifted os started H enc)
theorem Tf_wf : Rows.toneFactorsRow.wfByText (OpenSpec.ofChange Rows.toneFactorsSpec) = true := by kernel_rfl
theorem Tf_main : Tryz.pinned.checked.prog.mainIs = some (Rows.toneFactorsCard.stood.harness.1, Rows.toneFactorsCard.stood.harness.2.toList) := by kernel_rfl
theorem Tf_looks : false = Tryz.prog.looks [] := by kernel_rfl
theorem Tf_goes : false = Rows.toneFactorsRow.goesBy Tryz.prog := by kernel_rfl
theorem toneFactors_card : Rows.ToneFactorsCardSaid :=
 Claim7.holds_tied_plain_at .later [] [.data, .data, .data, .data, .data, .pinned] true Rows.toneFactorsCard.stood.harness false Tf_said (fun _ h => by cases h) Tf_wf (fun _ h => by cases h) toneFactors_row_tie rfl ⟨rfl, rfl⟩ Tf_main rfl
  (fun f fn hf hfn => by
    obtain rfl : f = 6 := (Option.some.inj (Tf_fn.symm.trans hf)).symm
    obtain rfl : fn = Tryz.f6 := (Option.some.inj (Tryz.func6.symm.trans hfn)).symm
    exact ⟨Tf_looks, fun j t ht => by
     rw [Tryz.params6] at ht
     have hm : t ∈ [40, 73, 75] := by simpa using Array.mem_of_getElem? ht
     have hall : ([40, 73, 75].all fun u => !Tryz.prog.wantsStandIn u) = true := by kernel_rfl
     exact (show Tryz.prog.wantsStandIn t = false by simpa using List.all_eq_true.1 hall t hm)⟩)
  Tf_goes
#print axioms toneFactors_card
end Go.Proofs.YtaeebedchbkniaaGreatDoor
