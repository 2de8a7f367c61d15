/- ToneReceivers: for every receiver, every two integers and every list of signals the law returns true, and its arguments read as they did before. Conditions: the package-level variables that the row lists hold what the program's text lays (the card ties them to it). -/
import Derived.Test.YtaeebedchbkniaaGreatDoorM49
namespace Go.Proofs.YtaeebedchbkniaaGreatDoor
set_option linter.all false
open Go.RowKit Go.ChangeShapes Go.WideShapes Go.ChangeAt Go.Lib
set_option maxRecDepth 100000 in
theorem Tr_lifted (os : Os) (started : os.Started) (H : Type) (enc : TypeId × Value → H) :
 ReturnsInHanded {} Tryz.checked os 3 .any (fun w args => (Rows.toneReceiversSpec.pre enc Tryz.prog Tryz.f3 [] false w args ∧ laidMetH Tryz.prog Rows.toneReceiversRow.laid w) ∧ sizedMet enc Tryz.prog Tryz.f3 (OpenSpec.ofChange Rows.toneReceiversSpec) false w args)
  (Rows.toneReceiversSpec.post enc Tryz.prog Tryz.f3 false true false false) := by
 refine returns_and_shaped (C := Tryz.checked) (X := fun w _ => laidMetH Tryz.prog Rows.toneReceiversRow.laid w) (fun _ _ _ hh h => h.of_heap hh) own_knob started (by kernel_rfl) Tryz.func3
  (ChangeSpec.witness_shaped (enc := enc) (C := Tryz.checked) (os := os) (X := fun w _ => laidMetH Tryz.prog Rows.toneReceiversRow.laid w) false (World.laidAll Tryz.prog os Rows.toneReceiversRow.laid) #[.agg #[.int .i64 0, .int .i64 0, .int .i64 0, .int .i64 0, .int .i64 0], .agg #[.int .i64 0, .int .i64 0], .slice none 0 0] 8 (World.laidAll_os _ _ _)
    (World.shaped_of_ZipB (by kernel_rfl) (by kernel_rfl)) (by kernel_rfl) (by kernel_rfl) (by kernel_rfl)
    (by rw [MakeChecks.laidMetH_plain _ _ _ (by kernel_rfl)]; exact laidMet_laidAll _ (by kernel_rfl) (by kernel_rfl))) ?_
 intro W base args ds gs before hval0 hW hL hsh
 have hval : ∀ (j : Nat) t v, Tryz.f3.params[j]? = some t → args[j]? = some v → Value.okWide Tryz.prog W .any base t v := hval0
 have hW' := hW
 obtain ⟨p, q, hA0, hV, rfl, _, _⟩ := hW
 have hA : DataW.TrodAll enc Tryz.prog W 0 (fun _ => true) true Tryz.f3.params.toList args.toList ds p := hA0
 obtain ⟨rfl, rfl⟩ := trodVars_none hV
 rw [MakeChecks.laidMetH_plain _ _ _ (by kernel_rfl)] at hL
 have hT := awT_of hL hsh
 rw [Tryz.params3] at hA hval
 obtain ⟨v0, v1, v2, d0, d1, d2, p0, p1, p2, rfl, rfl, rfl, h0, h1, h2⟩ := trodAll_three hA
 obtain ⟨cs0, rfl, hl0, hc0⟩ := ok_agg (ts := [3, 3, 3, 3, 3]) (.inl ⟨_, Tryz.underlying25⟩) (by kernel_rfl) (by kernel_rfl) (hval 0 _ _ rfl rfl)
 obtain ⟨z00, z01, z02, z03, z04, rfl⟩ : ∃ a0 a1 a2 a3 a4, cs0 = [a0, a1, a2, a3, a4] := by match cs0, hl0 with | [a0, a1, a2, a3, a4], _ => exact ⟨a0, a1, a2, a3, a4, rfl⟩
 obtain ⟨rs, rfl, _⟩ := cell_int Tryz.underlying3 (hc0 0 _ _ rfl rfl)
 obtain ⟨rf, rfl, _⟩ := cell_int Tryz.underlying3 (hc0 1 _ _ rfl rfl)
 obtain ⟨rl, rfl, _⟩ := cell_int Tryz.underlying3 (hc0 2 _ _ rfl rfl)
 obtain ⟨ra, rfl, _⟩ := cell_int Tryz.underlying3 (hc0 3 _ _ rfl rfl)
 obtain ⟨rb, rfl, _⟩ := cell_int Tryz.underlying3 (hc0 4 _ _ rfl rfl)
 obtain ⟨cs1, rfl, hl1, hc1⟩ := ok_agg (ts := [3, 3]) (.inr ⟨_, _, Tryz.underlying26⟩) (by kernel_rfl) (by kernel_rfl) (hval 1 _ _ rfl rfl)
 obtain ⟨z10, z11, rfl⟩ : ∃ a0 a1, cs1 = [a0, a1] := by match cs1, hl1 with | [a0, a1], _ => exact ⟨a0, a1, rfl⟩
 obtain ⟨lag, rfl, _⟩ := cell_int Tryz.underlying3 (hc1 0 _ _ rfl rfl)
 obtain ⟨start, rfl, _⟩ := cell_int Tryz.underlying3 (hc1 1 _ _ rfl rfl)
 obtain ⟨AL, cL, L, rfl, hRL, _, _, _⟩ := open_sgs (hval 2 _ _ rfl rfl) h2
 refine (toneReceivers_any rs rf rl ra rb lag start AL cL L W hT hRL).mono fun e W' ⟨he, hb⟩ => ?_
 subst he
 refine ⟨_, rfl, law_shut hW' rfl (by kernel_rfl) rfl ?_ hb⟩
 rw [Tryz.params3]
 intro t ht
 have hm : t ∈ [25, 26, 27] := ht
 have hall : ([25, 26, 27].all fun u => Tryz.prog.readableRec u && decide (u < Tryz.prog.types.size)) = true := by kernel_rfl
 simpa using List.all_eq_true.1 hall t hm
theorem Tr_in : Rows.toneReceiversRow.inPlace = Tryz.prog.inPlace 3 := by kernel_rfl
theorem Tr_un : Rows.toneReceiversRow.unfollowed = Tryz.prog.unfollowed 3 := by kernel_rfl
theorem Tr_re : Rows.toneReceiversRow.recurses = Tryz.prog.recurses 3 := by kernel_rfl
theorem Tr_na : Rows.toneReceiversRow.named = Tryz.prog.varsNamed 3 := by kernel_rfl
set_option maxRecDepth 100000 in
theorem Tr_closed : joinedFacts Tryz.prog 3 Tryz.f3 Rows.toneReceiversSpec Rows.toneReceiversRow = true := by
 unfold joinedFacts
 rw [← Tr_in, ← Tr_un, ← Tr_re, ← Tr_na]
 kernel_rfl
theorem Tr_fn : Tryz.prog.funcNamed "glideslope/glideslopelaw02.ToneReceivers" = some 3 := by kernel_rfl
theorem Tr_inst : Tryz.f3.isInstance Tryz.prog Rows.toneReceiversRow.origin Rows.toneReceiversRow.targs := of_decide_eq_true (by kernel_rfl)
theorem Tr_wrap : Tryz.f3.isWrapper Tryz.prog Rows.toneReceiversRow.wrapper Rows.toneReceiversRow.mainSum := by
 unfold Func.isWrapper; first | (rw [if_pos (by decide +kernel)]; kernel_rfl) | (rw [if_neg (by decide +kernel)]; exact ⟨rfl, rfl⟩)
theorem Tr_said : Rows.ToneReceiversSaid :=
 OpenClaim.holds_of_wide (p := Tryz.pinned) 3 Tryz.f3 rfl rfl rfl rfl rfl rfl rfl ⟨rfl, rfl, rfl, rfl, rfl⟩ rfl rfl rfl rfl rfl Tr_fn Tryz.func3 Tr_closed Tr_inst Tr_wrap
  (fun os started H enc _ => Tr_lifted os started H enc)
theorem Tr_wf : Rows.toneReceiversRow.wfByText (OpenSpec.ofChange Rows.toneReceiversSpec) = true := by kernel_rfl
theorem Tr_main : Tryz.pinned.checked.prog.mainIs = some (Rows.toneReceiversCard.stood.harness.1, Rows.toneReceiversCard.stood.harness.2.toList) := by kernel_rfl
theorem Tr_looks : false = Tryz.prog.looks [] := by kernel_rfl
theorem Tr_goes : false = Rows.toneReceiversRow.goesBy Tryz.prog := by kernel_rfl
theorem toneReceivers_card : Rows.ToneReceiversCardSaid :=
 Claim7.holds_tied_plain_at .later [] [.data, .data, .data, .data, .data, .pinned] true Rows.toneReceiversCard.stood.harness false Tr_said (fun _ h => by cases h) Tr_wf (fun _ h => by cases h) toneReceivers_row_tie rfl ⟨rfl, rfl⟩ Tr_main rfl
  (fun f fn hf hfn => by
    obtain rfl : f = 3 := (Option.some.inj (Tr_fn.symm.trans hf)).symm
    obtain rfl : fn = Tryz.f3 := (Option.some.inj (Tryz.func3.symm.trans hfn)).symm
    exact ⟨Tr_looks, fun j t ht => by
     rw [Tryz.params3] at ht
     have hm : t ∈ [25, 26, 27] := by simpa using Array.mem_of_getElem? ht
     have hall : ([25, 26, 27].all fun u => !Tryz.prog.wantsStandIn u) = true := by kernel_rfl
     exact (show Tryz.prog.wantsStandIn t = false by simpa using List.all_eq_true.1 hall t hm)⟩)
  Tr_goes
#print axioms toneReceivers_card
end Go.Proofs.YtaeebedchbkniaaGreatDoor
