/- ToneHeard: for every signal, every two errors of its tones and everything that is added the law returns true, and its arguments read as they did before. Conditions: the package-level variables that the row lists hold what the program's text lays (the card ties them to it). -/
import Derived.Test.YtaknlhepgeiekaaGreatDoorH46
namespace Go.Proofs.YtaknlhepgeiekaaGreatDoor
set_option linter.all false
open Go.RowKit Go.ChangeShapes Go.WideShapes Go.ChangeAt Go.Lib
set_option maxRecDepth 100000 in
theorem Th_lifted (os : Os) (started : os.Started) (H : Type) (enc : TypeId × Value → H) :
 ReturnsInHanded {} Tryz.checked os 3 .any (fun w args => (Rows.toneHeardSpec.pre enc Tryz.prog Tryz.f3 [] false w args ∧ laidMetH Tryz.prog Rows.toneHeardRow.laid w) ∧ sizedMet enc Tryz.prog Tryz.f3 (OpenSpec.ofChange Rows.toneHeardSpec) false w args)
  (Rows.toneHeardSpec.post enc Tryz.prog Tryz.f3 false true false false) := by
 refine returns_and_shaped (C := Tryz.checked) (X := fun w _ => laidMetH Tryz.prog Rows.toneHeardRow.laid w) (fun _ _ _ hh h => h.of_heap hh) own_knob started (by kernel_rfl) Tryz.func3
  (ChangeSpec.witness_shaped (enc := enc) (C := Tryz.checked) (os := os) (X := fun w _ => laidMetH Tryz.prog Rows.toneHeardRow.laid w) false (World.laidAll Tryz.prog os Rows.toneHeardRow.laid) #[.agg #[.int .i64 0, .int .i64 0, .int .i64 0, .int .i64 0, .int .i64 0, .int .i64 0], .agg #[.int .i64 0, .int .i64 0, .int .i64 0, .int .i64 0], .agg #[.int .i64 0, .int .i64 0]] 8 (World.laidAll_os _ _ _)
    (World.shaped_of_ZipB (by kernel_rfl) (by kernel_rfl)) (by kernel_rfl) (by kernel_rfl) (by kernel_rfl)
    (by rw [MakeChecks.laidMetH_plain _ _ _ (by kernel_rfl)]; exact laidMet_laidAll _ (by kernel_rfl) (by kernel_rfl))) ?_
 intro W base args ds gs before hval0 hW hL hsh
 have hval : ∀ (j : Nat) t v, Tryz.f3.params[j]? = some t → args[j]? = some v → Value.okWide Tryz.prog W .any base t v := hval0
 have hW' := hW
 obtain ⟨p, q, hA0, hV, rfl, _, _⟩ := hW
 have hA : DataW.TrodAll enc Tryz.prog W 0 (fun _ => true) true Tryz.f3.params.toList args.toList ds p := hA0
 obtain ⟨rfl, rfl⟩ := trodVars_none hV
 rw [MakeChecks.laidMetH_plain _ _ _ (by kernel_rfl)] at hL
 have hT := awT_of hL hsh
 rw [Tryz.params3] at hA hval
 obtain ⟨v0, v1, v2, d0, d1, d2, p0, p1, p2, rfl, rfl, rfl, h0, h1, h2⟩ := trodAll_three hA
 obtain ⟨cs0, rfl, hl0, hc0⟩ := ok_agg (ts := [3, 3, 3, 3, 3, 3]) (.inl ⟨_, Tryz.underlying25⟩) (by kernel_rfl) (by kernel_rfl) (hval 0 _ _ rfl rfl)
 obtain ⟨z00, z01, z02, z03, z04, z05, rfl⟩ : ∃ a b c d e f, cs0 = [a, b, c, d, e, f] := by match cs0, hl0 with | [a, b, c, d, e, f], _ => exact ⟨a, b, c, d, e, f, rfl⟩
 obtain ⟨a, rfl, _⟩ := cell_int Tryz.underlying3 (hc0 0 _ _ rfl rfl)
 obtain ⟨b, rfl, _⟩ := cell_int Tryz.underlying3 (hc0 1 _ _ rfl rfl)
 obtain ⟨c, rfl, _⟩ := cell_int Tryz.underlying3 (hc0 2 _ _ rfl rfl)
 obtain ⟨d, rfl, _⟩ := cell_int Tryz.underlying3 (hc0 3 _ _ rfl rfl)
 obtain ⟨x, rfl, _⟩ := cell_int Tryz.underlying3 (hc0 4 _ _ rfl rfl)
 obtain ⟨y, rfl, _⟩ := cell_int Tryz.underlying3 (hc0 5 _ _ rfl rfl)
 obtain ⟨cs1, rfl, hl1, hc1⟩ := ok_agg (ts := [3, 3, 3, 3]) (.inr ⟨_, _, Tryz.underlying26⟩) (by kernel_rfl) (by kernel_rfl) (hval 1 _ _ rfl rfl)
 obtain ⟨z10, z11, z12, z13, rfl⟩ : ∃ a0 a1 a2 a3, cs1 = [a0, a1, a2, a3] := by match cs1, hl1 with | [a0, a1, a2, a3], _ => exact ⟨a0, a1, a2, a3, rfl⟩
 obtain ⟨p_, rfl, _⟩ := cell_int Tryz.underlying3 (hc1 0 _ _ rfl rfl)
 obtain ⟨q_, rfl, _⟩ := cell_int Tryz.underlying3 (hc1 1 _ _ rfl rfl)
 obtain ⟨r_, rfl, _⟩ := cell_int Tryz.underlying3 (hc1 2 _ _ rfl rfl)
 obtain ⟨u_, rfl, _⟩ := cell_int Tryz.underlying3 (hc1 3 _ _ rfl rfl)
 obtain ⟨cs2, rfl, hl2, hc2⟩ := ok_agg (ts := [3, 3]) (.inl ⟨_, Tryz.underlying23⟩) (by kernel_rfl) (by kernel_rfl) (hval 2 _ _ rfl rfl)
 obtain ⟨z20, z21, rfl⟩ : ∃ a0 a1, cs2 = [a0, a1] := by match cs2, hl2 with | [a0, a1], _ => exact ⟨a0, a1, rfl⟩
 obtain ⟨fr, rfl, _⟩ := cell_int Tryz.underlying3 (hc2 0 _ _ rfl rfl)
 obtain ⟨fi, rfl, _⟩ := cell_int Tryz.underlying3 (hc2 1 _ _ rfl rfl)
 refine (toneHeard_any a b c d x y p_ q_ r_ u_ fr fi W hT).mono fun e W' ⟨he, hb⟩ => ?_
 subst he
 refine ⟨_, rfl, law_shut hW' rfl (by kernel_rfl) rfl ?_ hb⟩
 rw [Tryz.params3]
 intro t ht
 have hm : t ∈ [25, 26, 23] := ht
 have hall : ([25, 26, 23].all fun u => Tryz.prog.readableRec u && decide (u < Tryz.prog.types.size)) = true := by kernel_rfl
 simpa using List.all_eq_true.1 hall t hm
theorem Th_in : Rows.toneHeardRow.inPlace = Tryz.prog.inPlace 3 := by kernel_rfl
theorem Th_un : Rows.toneHeardRow.unfollowed = Tryz.prog.unfollowed 3 := by kernel_rfl
theorem Th_re : Rows.toneHeardRow.recurses = Tryz.prog.recurses 3 := by kernel_rfl
theorem Th_na : Rows.toneHeardRow.named = Tryz.prog.varsNamed 3 := by kernel_rfl
set_option maxRecDepth 100000 in
theorem Th_closed : joinedFacts Tryz.prog 3 Tryz.f3 Rows.toneHeardSpec Rows.toneHeardRow = true := by
 unfold joinedFacts
 rw [← Th_in, ← Th_un, ← Th_re, ← Th_na]
 kernel_rfl
theorem Th_fn : Tryz.prog.funcNamed "glideslope/glideslopelaw02.ToneHeard" = some 3 := by kernel_rfl
theorem Th_inst : Tryz.f3.isInstance Tryz.prog Rows.toneHeardRow.origin Rows.toneHeardRow.targs := of_decide_eq_true (by kernel_rfl)
theorem Th_wrap : Tryz.f3.isWrapper Tryz.prog Rows.toneHeardRow.wrapper Rows.toneHeardRow.mainSum := by
 unfold Func.isWrapper; first | (rw [if_pos (by decide +kernel)]; kernel_rfl) | (rw [if_neg (by decide +kernel)]; exact ⟨rfl, rfl⟩)
theorem Th_said : Rows.ToneHeardSaid :=
 OpenClaim.holds_of_wide (p := Tryz.pinned) 3 Tryz.f3 rfl rfl rfl rfl rfl rfl rfl ⟨rfl, rfl, rfl, rfl, rfl⟩ rfl rfl rfl rfl rfl Th_fn Tryz.func3 Th_closed Th_inst Th_wrap
  (fun os started H enc _ => Th_lifted os started H enc)
theorem Th_wf : Rows.toneHeardRow.wfByText (OpenSpec.ofChange Rows.toneHeardSpec) = true := by kernel_rfl
theorem Th_main : Tryz.pinned.checked.prog.mainIs = some (Rows.toneHeardCard.stood.harness.1, Rows.toneHeardCard.stood.harness.2.toList) := by kernel_rfl
theorem Th_looks : false = Tryz.prog.looks [] := by kernel_rfl
theorem Th_goes : false = Rows.toneHeardRow.goesBy Tryz.prog := by kernel_rfl
theorem toneHeard_card : Rows.ToneHeardCardSaid :=
 Claim7.holds_tied_plain_at .later [] [.data, .data, .data, .data, .data, .pinned] true Rows.toneHeardCard.stood.harness false Th_said (fun _ h => by cases h) Th_wf (fun _ h => by cases h) toneHeard_row_tie rfl ⟨rfl, rfl⟩ Th_main rfl
  (fun f fn hf hfn => by
    obtain rfl : f = 3 := (Option.some.inj (Th_fn.symm.trans hf)).symm
    obtain rfl : fn = Tryz.f3 := (Option.some.inj (Tryz.func3.symm.trans hfn)).symm
    exact ⟨Th_looks, fun j t ht => by
     rw [Tryz.params3] at ht
     have hm : t ∈ [25, 26, 23] := by simpa using Array.mem_of_getElem? ht
     have hall : ([25, 26, 23].all fun u => !Tryz.prog.wantsStandIn u) = true := by kernel_rfl
     exact (show Tryz.prog.wantsStandIn t = false by simpa using List.all_eq_true.1 hall t hm)⟩)
  Th_goes
#print axioms toneHeard_card
end Go.Proofs.YtaknlhepgeiekaaGreatDoor
