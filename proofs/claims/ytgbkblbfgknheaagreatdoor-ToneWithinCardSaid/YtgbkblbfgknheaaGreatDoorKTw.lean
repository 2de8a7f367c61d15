/- ToneWithin: for every receiver, every signal and every lag, start, band, loss, noise and errors by their numbers the law returns true, and its arguments read as they did before. Conditions: the package-level variables that the row lists hold what the program's text lays (the card ties them to it). -/
import Derived.Test.YtgbkblbfgknheaaGreatDoorM49
import Derived.Test.YtgbkblbfgknheaaGreatDoorM50
namespace Go.Proofs.YtgbkblbfgknheaaGreatDoor
set_option linter.all false
open Go.RowKit Go.ChangeShapes Go.WideShapes Go.ChangeAt Go.Lib
set_option maxRecDepth 100000 in
theorem Tw_lifted (os : Os) (started : os.Started) (H : Type) (enc : TypeId × Value → H) :
 ReturnsInHanded {} Tryz.checked os 5 .any (fun w args => (Rows.toneWithinSpec.pre enc Tryz.prog Tryz.f5 [] false w args ∧ laidMetH Tryz.prog Rows.toneWithinRow.laid w) ∧ sizedMet enc Tryz.prog Tryz.f5 (OpenSpec.ofChange Rows.toneWithinSpec) false w args)
  (Rows.toneWithinSpec.post enc Tryz.prog Tryz.f5 false true false false) := by
 refine returns_and_shaped (C := Tryz.checked) (X := fun w _ => laidMetH Tryz.prog Rows.toneWithinRow.laid w) (fun _ _ _ hh h => h.of_heap hh) own_knob started (by kernel_rfl) Tryz.func5
  (ChangeSpec.witness_shaped (enc := enc) (C := Tryz.checked) (os := os) (X := fun w _ => laidMetH Tryz.prog Rows.toneWithinRow.laid w) false (World.laidAll Tryz.prog os Rows.toneWithinRow.laid) #[.agg #[.int .i64 0, .int .i64 0, .int .i64 0, .int .i64 0, .int .i64 0], .agg #[.int .i64 0, .int .i64 0, .int .i64 0, .int .i64 0, .int .i64 0, .int .i64 0], .agg #[.int .u8 0, .int .u16 0, .int .u16 0, .int .u16 0, .int .u16 0, .int .u16 0, .int .u8 0, .int .i8 0, .int .i8 0, .int .i8 0, .int .i8 0]] 8 (World.laidAll_os _ _ _)
    (World.shaped_of_ZipB (by kernel_rfl) (by kernel_rfl)) (by kernel_rfl) (by kernel_rfl) (by kernel_rfl)
    (by rw [MakeChecks.laidMetH_plain _ _ _ (by kernel_rfl)]; exact laidMet_laidAll _ (by kernel_rfl) (by kernel_rfl))) ?_
 intro W base args ds gs before hval0 hW hL hsh
 have hval : ∀ (j : Nat) t v, Tryz.f5.params[j]? = some t → args[j]? = some v → Value.okWide Tryz.prog W .any base t v := hval0
 have hW' := hW
 obtain ⟨p, q, hA0, hV, rfl, _, _⟩ := hW
 have hA : DataW.TrodAll enc Tryz.prog W 0 (fun _ => true) true Tryz.f5.params.toList args.toList ds p := hA0
 obtain ⟨rfl, rfl⟩ := trodVars_none hV
 rw [MakeChecks.laidMetH_plain _ _ _ (by kernel_rfl)] at hL
 have hT := awT_of hL hsh
 rw [Tryz.params5] at hA hval
 obtain ⟨v0, v1, v2, d0, d1, d2, p0, p1, p2, rfl, rfl, rfl, h0, h1, h2⟩ := trodAll_three hA
 obtain ⟨cs0, rfl, hl0, hc0⟩ := ok_agg (ts := [3, 3, 3, 3, 3]) (.inl ⟨_, Tryz.underlying63⟩) (by kernel_rfl) (by kernel_rfl) (hval 0 _ _ rfl rfl)
 obtain ⟨z00, z01, z02, z03, z04, rfl⟩ : ∃ a0 a1 a2 a3 a4, cs0 = [a0, a1, a2, a3, a4] := by match cs0, hl0 with | [a0, a1, a2, a3, a4], _ => exact ⟨a0, a1, a2, a3, a4, rfl⟩
 obtain ⟨rs, rfl, _⟩ := cell_int Tryz.underlying3 (hc0 0 _ _ rfl rfl)
 obtain ⟨rf, rfl, _⟩ := cell_int Tryz.underlying3 (hc0 1 _ _ rfl rfl)
 obtain ⟨rl, rfl, _⟩ := cell_int Tryz.underlying3 (hc0 2 _ _ rfl rfl)
 obtain ⟨ra, rfl, _⟩ := cell_int Tryz.underlying3 (hc0 3 _ _ rfl rfl)
 obtain ⟨rb, rfl, _⟩ := cell_int Tryz.underlying3 (hc0 4 _ _ rfl rfl)
 obtain ⟨cs1, rfl, hl1, hc1⟩ := ok_agg (ts := [3, 3, 3, 3, 3, 3]) (.inl ⟨_, Tryz.underlying42⟩) (by kernel_rfl) (by kernel_rfl) (hval 1 _ _ rfl rfl)
 obtain ⟨z10, z11, z12, z13, z14, z15, rfl⟩ : ∃ a b c d e f, cs1 = [a, b, c, d, e, f] := by match cs1, hl1 with | [a, b, c, d, e, f], _ => exact ⟨a, b, c, d, e, f, rfl⟩
 obtain ⟨a, rfl, _⟩ := cell_int Tryz.underlying3 (hc1 0 _ _ rfl rfl)
 obtain ⟨b, rfl, _⟩ := cell_int Tryz.underlying3 (hc1 1 _ _ rfl rfl)
 obtain ⟨c, rfl, _⟩ := cell_int Tryz.underlying3 (hc1 2 _ _ rfl rfl)
 obtain ⟨d, rfl, _⟩ := cell_int Tryz.underlying3 (hc1 3 _ _ rfl rfl)
 obtain ⟨x, rfl, _⟩ := cell_int Tryz.underlying3 (hc1 4 _ _ rfl rfl)
 obtain ⟨y, rfl, _⟩ := cell_int Tryz.underlying3 (hc1 5 _ _ rfl rfl)
 obtain ⟨cs2, rfl, hl2, hc2⟩ := ok_agg (ts := [5, 64, 64, 64, 64, 64, 5, 66, 66, 66, 66]) (.inl ⟨_, Tryz.underlying69⟩) (by kernel_rfl) (by kernel_rfl) (hval 2 _ _ rfl rfl)
 obtain ⟨z20, z21, z22, z23, z24, z25, z26, z27, z28, z29, z210, rfl⟩ : ∃ a0 a1 a2 a3 a4 a5 a6 a7 a8 a9 a10, cs2 = [a0, a1, a2, a3, a4, a5, a6, a7, a8, a9, a10] := by match cs2, hl2 with | [a0, a1, a2, a3, a4, a5, a6, a7, a8, a9, a10], _ => exact ⟨a0, a1, a2, a3, a4, a5, a6, a7, a8, a9, a10, rfl⟩
 obtain ⟨g8, rfl, rg8⟩ := cell_int Tryz.underlying5 (hc2 0 _ _ rfl rfl)
 obtain ⟨y16, rfl, ry16⟩ := cell_int Tryz.underlying64 (hc2 1 _ _ rfl rfl)
 obtain ⟨z16, rfl, _⟩ := cell_int Tryz.underlying64 (hc2 2 _ _ rfl rfl)
 obtain ⟨l0, rfl, rl0⟩ := cell_int Tryz.underlying64 (hc2 3 _ _ rfl rfl)
 obtain ⟨l1, rfl, rl1⟩ := cell_int Tryz.underlying64 (hc2 4 _ _ rfl rfl)
 obtain ⟨l2, rfl, rl2⟩ := cell_int Tryz.underlying64 (hc2 5 _ _ rfl rfl)
 obtain ⟨nz, rfl, rnz⟩ := cell_int Tryz.underlying5 (hc2 6 _ _ rfl rfl)
 obtain ⟨o0, rfl, ro0⟩ := cell_int Tryz.underlying66 (hc2 7 _ _ rfl rfl)
 obtain ⟨o1, rfl, ro1⟩ := cell_int Tryz.underlying66 (hc2 8 _ _ rfl rfl)
 obtain ⟨o2, rfl, ro2⟩ := cell_int Tryz.underlying66 (hc2 9 _ _ rfl rfl)
 obtain ⟨o3, rfl, ro3⟩ := cell_int Tryz.underlying66 (hc2 10 _ _ rfl rfl)
 refine (toneWithin_any rs rf rl ra rb a b c d x y g8 y16 z16 l0 l1 l2 nz o0 o1 o2 o3 ⟨rg8.1, rg8.2⟩ ⟨ry16.1, ry16.2⟩ ⟨rl0.1, rl0.2⟩ ⟨rl1.1, rl1.2⟩ ⟨rl2.1, rl2.2⟩ ⟨rnz.1, rnz.2⟩ ⟨ro0.1, ro0.2⟩ ⟨ro1.1, ro1.2⟩ ⟨ro2.1, ro2.2⟩ ⟨ro3.1, ro3.2⟩ W hT).mono fun e W' ⟨he, hb⟩ => ?_
 subst he
 refine ⟨_, rfl, law_shut hW' rfl (by kernel_rfl) rfl ?_ hb⟩
 rw [Tryz.params5]
 intro t ht
 have hm : t ∈ [63, 42, 69] := ht
 have hall : ([63, 42, 69].all fun u => Tryz.prog.readableRec u && decide (u < Tryz.prog.types.size)) = true := by kernel_rfl
 simpa using List.all_eq_true.1 hall t hm
theorem Tw_in : Rows.toneWithinRow.inPlace = Tryz.prog.inPlace 5 := by kernel_rfl
theorem Tw_un : Rows.toneWithinRow.unfollowed = Tryz.prog.unfollowed 5 := by kernel_rfl
theorem Tw_re : Rows.toneWithinRow.recurses = Tryz.prog.recurses 5 := by kernel_rfl
theorem Tw_na : Rows.toneWithinRow.named = Tryz.prog.varsNamed 5 := by kernel_rfl
set_option maxRecDepth 100000 in
theorem Tw_closed : joinedFacts Tryz.prog 5 Tryz.f5 Rows.toneWithinSpec Rows.toneWithinRow = true := by
 unfold joinedFacts
 rw [← Tw_in, ← Tw_un, ← Tw_re, ← Tw_na]
 kernel_rfl
theorem Tw_fn : Tryz.prog.funcNamed "glideslope/glideslopelaw02.ToneWithin" = some 5 := by kernel_rfl
theorem Tw_inst : Tryz.f5.isInstance Tryz.prog Rows.toneWithinRow.origin Rows.toneWithinRow.targs := of_decide_eq_true (by kernel_rfl)
theorem Tw_wrap : Tryz.f5.isWrapper Tryz.prog Rows.toneWithinRow.wrapper Rows.toneWithinRow.mainSum := by
 unfold Func.isWrapper; first | (rw [if_pos (by decide +kernel)]; kernel_rfl) | (rw [if_neg (by decide +kernel)]; exact ⟨rfl, rfl⟩)
theorem Tw_said : Rows.ToneWithinSaid :=
 OpenClaim.holds_of_wide (p := Tryz.pinned) 5 Tryz.f5 rfl rfl rfl rfl rfl rfl rfl ⟨rfl, rfl, rfl, rfl, rfl⟩ rfl rfl rfl rfl rfl Tw_fn Tryz.func5 Tw_closed Tw_inst Tw_wrap
  (fun os started H enc _ => Tw_lifted os started H enc)
theorem Tw_wf : Rows.toneWithinRow.wfByText (OpenSpec.ofChange Rows.toneWithinSpec) = true := by kernel_rfl
theorem Tw_main : Tryz.pinned.checked.prog.mainIs = some (Rows.toneWithinCard.stood.harness.1, Rows.toneWithinCard.stood.harness.2.toList) := by kernel_rfl
theorem Tw_looks : false = Tryz.prog.looks [] := by kernel_rfl
theorem Tw_goes : false = Rows.toneWithinRow.goesBy Tryz.prog := by kernel_rfl
theorem toneWithin_card : Rows.ToneWithinCardSaid :=
 Claim7.holds_tied_plain_at .later [] [.data, .data, .data, .data, .data, .pinned] true Rows.toneWithinCard.stood.harness false Tw_said (fun _ h => by cases h) Tw_wf (fun _ h => by cases h) toneWithin_row_tie rfl ⟨rfl, rfl⟩ Tw_main rfl
  (fun f fn hf hfn => by
    obtain rfl : f = 5 := (Option.some.inj (Tw_fn.symm.trans hf)).symm
    obtain rfl : fn = Tryz.f5 := (Option.some.inj (Tryz.func5.symm.trans hfn)).symm
    exact ⟨Tw_looks, fun j t ht => by
     rw [Tryz.params5] at ht
     have hm : t ∈ [63, 42, 69] := by simpa using Array.mem_of_getElem? ht
     have hall : ([63, 42, 69].all fun u => !Tryz.prog.wantsStandIn u) = true := by kernel_rfl
     exact (show Tryz.prog.wantsStandIn t = false by simpa using List.all_eq_true.1 hall t hm)⟩)
  Tw_goes
#print axioms toneWithin_card
end Go.Proofs.YtgbkblbfgknheaaGreatDoor
