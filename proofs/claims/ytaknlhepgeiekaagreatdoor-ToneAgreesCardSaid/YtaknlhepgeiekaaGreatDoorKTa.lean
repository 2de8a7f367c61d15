/- ToneAgrees: for every two signals, every band by its number and every list of further signals the law returns true, and its arguments read as they did before. Conditions: the package-level variables that the row lists hold what the program's text lays (the card ties them to it). -/
import Derived.Test.YtaknlhepgeiekaaGreatDoorM48
import Derived.Test.YtaknlhepgeiekaaGreatDoorM50
namespace Go.Proofs.YtaknlhepgeiekaaGreatDoor
set_option linter.all false
open Go.RowKit Go.ChangeShapes Go.WideShapes Go.ChangeAt Go.Lib
set_option maxRecDepth 100000 in
theorem Ta_lifted (os : Os) (started : os.Started) (H : Type) (enc : TypeId × Value → H) :
 ReturnsInHanded {} Tryz.checked os 4 .any (fun w args => (Rows.toneAgreesSpec.pre enc Tryz.prog Tryz.f4 [] false w args ∧ laidMetH Tryz.prog Rows.toneAgreesRow.laid w) ∧ sizedMet enc Tryz.prog Tryz.f4 (OpenSpec.ofChange Rows.toneAgreesSpec) false w args)
  (Rows.toneAgreesSpec.post enc Tryz.prog Tryz.f4 false true false false) := by
 refine returns_and_shaped (C := Tryz.checked) (X := fun w _ => laidMetH Tryz.prog Rows.toneAgreesRow.laid w) (fun _ _ _ hh h => h.of_heap hh) own_knob started (by kernel_rfl) Tryz.func4
  (ChangeSpec.witness_shaped (enc := enc) (C := Tryz.checked) (os := os) (X := fun w _ => laidMetH Tryz.prog Rows.toneAgreesRow.laid w) false (World.laidAll Tryz.prog os Rows.toneAgreesRow.laid) #[.agg #[.int .i64 0, .int .i64 0, .int .i64 0, .int .i64 0, .int .i64 0, .int .i64 0], .agg #[.int .i64 0, .int .i64 0, .int .i64 0, .int .i64 0, .int .i64 0, .int .i64 0], .agg #[.int .u16 0, .slice none 0 0]] 8 (World.laidAll_os _ _ _)
    (World.shaped_of_ZipB (by kernel_rfl) (by kernel_rfl)) (by kernel_rfl) (by kernel_rfl) (by kernel_rfl)
    (by rw [MakeChecks.laidMetH_plain _ _ _ (by kernel_rfl)]; exact laidMet_laidAll _ (by kernel_rfl) (by kernel_rfl))) ?_
 intro W base args ds gs before hval0 hW hL hsh
 have hval : ∀ (j : Nat) t v, Tryz.f4.params[j]? = some t → args[j]? = some v → Value.okWide Tryz.prog W .any base t v := hval0
 have hW' := hW
 obtain ⟨p, q, hA0, hV, rfl, _, _⟩ := hW
 have hA : DataW.TrodAll enc Tryz.prog W 0 (fun _ => true) true Tryz.f4.params.toList args.toList ds p := hA0
 obtain ⟨rfl, rfl⟩ := trodVars_none hV
 rw [MakeChecks.laidMetH_plain _ _ _ (by kernel_rfl)] at hL
 have hT := awT_of hL hsh
 rw [Tryz.params4] at hA hval
 obtain ⟨v0, v1, v2, d0, d1, d2, p0, p1, p2, rfl, rfl, rfl, h0, h1, h2⟩ := trodAll_three hA
 obtain ⟨cs0, rfl, hl0, hc0⟩ := ok_agg (ts := [3, 3, 3, 3, 3, 3]) (.inl ⟨_, Tryz.underlying25⟩) (by kernel_rfl) (by kernel_rfl) (hval 0 _ _ rfl rfl)
 obtain ⟨z00, z01, z02, z03, z04, z05, rfl⟩ : ∃ a b c d e f, cs0 = [a, b, c, d, e, f] := by match cs0, hl0 with | [a, b, c, d, e, f], _ => exact ⟨a, b, c, d, e, f, rfl⟩
 obtain ⟨a, rfl, _⟩ := cell_int Tryz.underlying3 (hc0 0 _ _ rfl rfl)
 obtain ⟨b, rfl, _⟩ := cell_int Tryz.underlying3 (hc0 1 _ _ rfl rfl)
 obtain ⟨c, rfl, _⟩ := cell_int Tryz.underlying3 (hc0 2 _ _ rfl rfl)
 obtain ⟨d, rfl, _⟩ := cell_int Tryz.underlying3 (hc0 3 _ _ rfl rfl)
 obtain ⟨x, rfl, _⟩ := cell_int Tryz.underlying3 (hc0 4 _ _ rfl rfl)
 obtain ⟨y, rfl, _⟩ := cell_int Tryz.underlying3 (hc0 5 _ _ rfl rfl)
 obtain ⟨cs1, rfl, hl1, hc1⟩ := ok_agg (ts := [3, 3, 3, 3, 3, 3]) (.inl ⟨_, Tryz.underlying25⟩) (by kernel_rfl) (by kernel_rfl) (hval 1 _ _ rfl rfl)
 obtain ⟨z10, z11, z12, z13, z14, z15, rfl⟩ : ∃ a b c d e f, cs1 = [a, b, c, d, e, f] := by match cs1, hl1 with | [a, b, c, d, e, f], _ => exact ⟨a, b, c, d, e, f, rfl⟩
 obtain ⟨k, rfl, _⟩ := cell_int Tryz.underlying3 (hc1 0 _ _ rfl rfl)
 obtain ⟨l, rfl, _⟩ := cell_int Tryz.underlying3 (hc1 1 _ _ rfl rfl)
 obtain ⟨m, rfl, _⟩ := cell_int Tryz.underlying3 (hc1 2 _ _ rfl rfl)
 obtain ⟨n, rfl, _⟩ := cell_int Tryz.underlying3 (hc1 3 _ _ rfl rfl)
 obtain ⟨u, rfl, _⟩ := cell_int Tryz.underlying3 (hc1 4 _ _ rfl rfl)
 obtain ⟨v, rfl, _⟩ := cell_int Tryz.underlying3 (hc1 5 _ _ rfl rfl)
 obtain ⟨bd, M_, cM_, L_, rfl, rbd, hRM, hcM⟩ := open_bands (hval 2 _ _ rfl rfl) h2
 refine (toneAgrees_any a b c d x y k l m n u v bd M_ cM_ L_ W hT rbd hcM hRM).mono fun e W' ⟨he, hb⟩ => ?_
 subst he
 refine ⟨_, rfl, law_shut hW' rfl (by kernel_rfl) rfl ?_ hb⟩
 rw [Tryz.params4]
 intro t ht
 have hm : t ∈ [25, 25, 56] := ht
 have hall : ([25, 25, 56].all fun u => Tryz.prog.readableRec u && decide (u < Tryz.prog.types.size)) = true := by kernel_rfl
 simpa using List.all_eq_true.1 hall t hm
theorem Ta_in : Rows.toneAgreesRow.inPlace = Tryz.prog.inPlace 4 := by kernel_rfl
theorem Ta_un : Rows.toneAgreesRow.unfollowed = Tryz.prog.unfollowed 4 := by kernel_rfl
theorem Ta_re : Rows.toneAgreesRow.recurses = Tryz.prog.recurses 4 := by kernel_rfl
theorem Ta_na : Rows.toneAgreesRow.named = Tryz.prog.varsNamed 4 := by kernel_rfl
set_option maxRecDepth 100000 in
theorem Ta_closed : joinedFacts Tryz.prog 4 Tryz.f4 Rows.toneAgreesSpec Rows.toneAgreesRow = true := by
 unfold joinedFacts
 rw [← Ta_in, ← Ta_un, ← Ta_re, ← Ta_na]
 kernel_rfl
theorem Ta_fn : Tryz.prog.funcNamed "glideslope/glideslopelaw02.ToneAgrees" = some 4 := by kernel_rfl
theorem Ta_inst : Tryz.f4.isInstance Tryz.prog Rows.toneAgreesRow.origin Rows.toneAgreesRow.targs := of_decide_eq_true (by kernel_rfl)
theorem Ta_wrap : Tryz.f4.isWrapper Tryz.prog Rows.toneAgreesRow.wrapper Rows.toneAgreesRow.mainSum := by
 unfold Func.isWrapper; first | (rw [if_pos (by decide +kernel)]; kernel_rfl) | (rw [if_neg (by decide +kernel)]; exact ⟨rfl, rfl⟩)
theorem Ta_said : Rows.ToneAgreesSaid :=
 OpenClaim.holds_of_wide (p := Tryz.pinned) 4 Tryz.f4 rfl rfl rfl rfl rfl rfl rfl ⟨rfl, rfl, rfl, rfl, rfl⟩ rfl rfl rfl rfl rfl Ta_fn Tryz.func4 Ta_closed Ta_inst Ta_wrap
  (fun os started H enc _ => Ta_lifted os started H enc)
theorem Ta_wf : Rows.toneAgreesRow.wfByText (OpenSpec.ofChange Rows.toneAgreesSpec) = true := by kernel_rfl
theorem Ta_main : Tryz.pinned.checked.prog.mainIs = some (Rows.toneAgreesCard.stood.harness.1, Rows.toneAgreesCard.stood.harness.2.toList) := by kernel_rfl
theorem Ta_looks : false = Tryz.prog.looks [] := by kernel_rfl
theorem Ta_goes : false = Rows.toneAgreesRow.goesBy Tryz.prog := by kernel_rfl
theorem toneAgrees_card : Rows.ToneAgreesCardSaid :=
 Claim7.holds_tied_plain_at .later [] [.data, .data, .data, .data, .data, .pinned] true Rows.toneAgreesCard.stood.harness false Ta_said (fun _ h => by cases h) Ta_wf (fun _ h => by cases h) toneAgrees_row_tie rfl ⟨rfl, rfl⟩ Ta_main rfl
  (fun f fn hf hfn => by
    obtain rfl : f = 4 := (Option.some.inj (Ta_fn.symm.trans hf)).symm
    obtain rfl : fn = Tryz.f4 := (Option.some.inj (Tryz.func4.symm.trans hfn)).symm
    exact ⟨Ta_looks, fun j t ht => by
     rw [Tryz.params4] at ht
     have hm : t ∈ [25, 25, 56] := by simpa using Array.mem_of_getElem? ht
     have hall : ([25, 25, 56].all fun u => !Tryz.prog.wantsStandIn u) = true := by kernel_rfl
     exact (show Tryz.prog.wantsStandIn t = false by simpa using List.all_eq_true.1 hall t hm)⟩)
  Ta_goes
#print axioms toneAgrees_card
end Go.Proofs.YtaknlhepgeiekaaGreatDoor
