/- ToneDepths: for every signal the law returns true, and its argument reads as it did before. Conditions: the package-level variables that the row lists hold what the program's text lays (the card ties them to it). -/
import Derived.Test.YtcaekblnioidiaaGreatDoorM17
import Derived.Test.YtcaekblnioidiaaGreatDoorM46
import Derived.Test.YtcaekblnioidiaaGreatDoorM48
namespace Go.Proofs.YtcaekblnioidiaaGreatDoor
set_option linter.all false
open Go.RowKit Go.ChangeShapes Go.WideShapes Go.ChangeAt Go.Lib
set_option maxRecDepth 100000 in
theorem Td_lifted (os : Os) (started : os.Started) (H : Type) (enc : TypeId × Value → H) :
 ReturnsInHanded {} Tryz.checked os 3 .any (fun w args => (Rows.toneDepthsSpec.pre enc Tryz.prog Tryz.f3 [] false w args ∧ laidMetH Tryz.prog Rows.toneDepthsRow.laid w) ∧ sizedMet enc Tryz.prog Tryz.f3 (OpenSpec.ofChange Rows.toneDepthsSpec) false w args)
  (Rows.toneDepthsSpec.post enc Tryz.prog Tryz.f3 false true false false) := by
 refine returns_and_shaped (C := Tryz.checked) (X := fun w _ => laidMetH Tryz.prog Rows.toneDepthsRow.laid w) (fun _ _ _ hh h => h.of_heap hh) own_knob started (by kernel_rfl) Tryz.func3
  (ChangeSpec.witness_shaped (enc := enc) (C := Tryz.checked) (os := os) (X := fun w _ => laidMetH Tryz.prog Rows.toneDepthsRow.laid w) false (World.laidAll Tryz.prog os Rows.toneDepthsRow.laid) #[.agg #[.int .i64 0, .int .i64 0, .int .i64 0, .int .i64 0, .int .i64 0, .int .i64 0]] 8 (World.laidAll_os _ _ _)
    (World.shaped_of_ZipB (by kernel_rfl) (by kernel_rfl)) (by kernel_rfl) (by kernel_rfl) (by kernel_rfl)
    (by rw [MakeChecks.laidMetH_plain _ _ _ (by kernel_rfl)]; exact laidMet_laidAll _ (by kernel_rfl) (by kernel_rfl))) ?_
 intro W base args ds gs before hval0 hW hL hsh
 have hval : ∀ (j : Nat) t v, Tryz.f3.params[j]? = some t → args[j]? = some v → Value.okWide Tryz.prog W .any base t v := hval0
 have hW' := hW
 obtain ⟨p, q, hA0, hV, rfl, _, _⟩ := hW
 have hA : DataW.TrodAll enc Tryz.prog W 0 (fun _ => true) true Tryz.f3.params.toList args.toList ds p := hA0
 obtain ⟨rfl, rfl⟩ := trodVars_none hV
 rw [MakeChecks.laidMetH_plain _ _ _ (by kernel_rfl)] at hL
 have hT := awT_of hL hsh
 rw [Tryz.params3] at hA hval
 obtain ⟨v0, d0, rfl, rfl, h0⟩ := trodAll_one hA
 obtain ⟨cs0, rfl, hl0, hc0⟩ := ok_agg (ts := [3, 3, 3, 3, 3, 3]) (.inl ⟨_, Tryz.underlying25⟩) (by kernel_rfl) (by kernel_rfl) (hval 0 _ _ rfl rfl)
 obtain ⟨z00, z01, z02, z03, z04, z05, rfl⟩ : ∃ a b c d e f, cs0 = [a, b, c, d, e, f] := by match cs0, hl0 with | [a, b, c, d, e, f], _ => exact ⟨a, b, c, d, e, f, rfl⟩
 obtain ⟨a, rfl, _⟩ := cell_int Tryz.underlying3 (hc0 0 _ _ rfl rfl)
 obtain ⟨b, rfl, _⟩ := cell_int Tryz.underlying3 (hc0 1 _ _ rfl rfl)
 obtain ⟨c, rfl, _⟩ := cell_int Tryz.underlying3 (hc0 2 _ _ rfl rfl)
 obtain ⟨d, rfl, _⟩ := cell_int Tryz.underlying3 (hc0 3 _ _ rfl rfl)
 obtain ⟨x, rfl, _⟩ := cell_int Tryz.underlying3 (hc0 4 _ _ rfl rfl)
 obtain ⟨y, rfl, _⟩ := cell_int Tryz.underlying3 (hc0 5 _ _ rfl rfl)
 refine (toneDepths_any AwT (fun _ _ h hb => h.old hb) (fun W hW => awake_ok W hW) a b c d x y W hT).mono fun e W' ⟨he, hb⟩ => ?_
 subst he
 refine ⟨_, rfl, law_shut hW' rfl (by kernel_rfl) rfl ?_ hb⟩
 rw [Tryz.params3]
 intro t ht
 have hm : t ∈ [25] := ht
 have hall : ([25].all fun u => Tryz.prog.readableRec u && decide (u < Tryz.prog.types.size)) = true := by kernel_rfl
 simpa using List.all_eq_true.1 hall t hm
theorem Td_in : Rows.toneDepthsRow.inPlace = Tryz.prog.inPlace 3 := by kernel_rfl
theorem Td_un : Rows.toneDepthsRow.unfollowed = Tryz.prog.unfollowed 3 := by kernel_rfl
theorem Td_re : Rows.toneDepthsRow.recurses = Tryz.prog.recurses 3 := by kernel_rfl
theorem Td_na : Rows.toneDepthsRow.named = Tryz.prog.varsNamed 3 := by kernel_rfl
set_option maxRecDepth 100000 in
theorem Td_closed : joinedFacts Tryz.prog 3 Tryz.f3 Rows.toneDepthsSpec Rows.toneDepthsRow = true := by
 unfold joinedFacts
 rw [← Td_in, ← Td_un, ← Td_re, ← Td_na]
 kernel_rfl
theorem Td_fn : Tryz.prog.funcNamed "glideslope/glideslopelaw02.ToneDepths" = some 3 := by kernel_rfl
theorem Td_inst : Tryz.f3.isInstance Tryz.prog Rows.toneDepthsRow.origin Rows.toneDepthsRow.targs := of_decide_eq_true (by kernel_rfl)
theorem Td_wrap : Tryz.f3.isWrapper Tryz.prog Rows.toneDepthsRow.wrapper Rows.toneDepthsRow.mainSum := by
 unfold Func.isWrapper; first | (rw [if_pos (by decide +kernel)]; kernel_rfl) | (rw [if_neg (by decide +kernel)]; exact ⟨rfl, rfl⟩)
theorem Td_said : Rows.ToneDepthsSaid :=
 OpenClaim.holds_of_wide (p := Tryz.pinned) 3 Tryz.f3 rfl rfl rfl rfl rfl rfl rfl ⟨rfl, rfl, rfl, rfl, rfl⟩ rfl rfl rfl rfl rfl Td_fn Tryz.func3 Td_closed Td_inst Td_wrap
  (fun os started H enc _ => Td_lifted os started H enc)
theorem Td_wf : Rows.toneDepthsRow.wfByText (OpenSpec.ofChange Rows.toneDepthsSpec) = true := by kernel_rfl
theorem Td_main : Tryz.pinned.checked.prog.mainIs = some (Rows.toneDepthsCard.stood.harness.1, Rows.toneDepthsCard.stood.harness.2.toList) := by kernel_rfl
theorem Td_looks : false = Tryz.prog.looks [] := by kernel_rfl
theorem Td_goes : false = Rows.toneDepthsRow.goesBy Tryz.prog := by kernel_rfl
theorem toneDepths_card : Rows.ToneDepthsCardSaid :=
 Claim7.holds_tied_plain_at .later [] [.data, .data, .data, .data, .data, .pinned] true Rows.toneDepthsCard.stood.harness false Td_said (fun _ h => by cases h) Td_wf (fun _ h => by cases h) toneDepths_row_tie rfl ⟨rfl, rfl⟩ Td_main rfl
  (fun f fn hf hfn => by
    obtain rfl : f = 3 := (Option.some.inj (Td_fn.symm.trans hf)).symm
    obtain rfl : fn = Tryz.f3 := (Option.some.inj (Tryz.func3.symm.trans hfn)).symm
    exact ⟨Td_looks, fun j t ht => by
     rw [Tryz.params3] at ht
     have hm : t ∈ [25] := by simpa using Array.mem_of_getElem? ht
     have hall : ([25].all fun u => !Tryz.prog.wantsStandIn u) = true := by kernel_rfl
     exact (show Tryz.prog.wantsStandIn t = false by simpa using List.all_eq_true.1 hall t hm)⟩)
  Td_goes
#print axioms toneDepths_card
end Go.Proofs.YtcaekblnioidiaaGreatDoor
