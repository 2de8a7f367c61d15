/- RecordCut: for every recording and every three bytes the law returns true, and its arguments read as they did before. Conditions: the package-level variables that the row lists hold what the program's text lays (the card ties them to it). -/
import Derived.Test.YtkfkmnfejeocpaaGreatDoorM33
import Derived.Test.YtkfkmnfejeocpaaGreatDoorM35
import Derived.Test.YtkfkmnfejeocpaaGreatDoorM38
namespace Go.Proofs.YtkfkmnfejeocpaaGreatDoor
set_option linter.all false
open Go.RowKit Go.ChangeShapes Go.WideShapes Go.ChangeAt Go.Lib
set_option maxRecDepth 100000 in
theorem c_lifted (haw : AwakeOk) (os : Os) (started : os.Started) (H : Type) (enc : TypeId × Value → H) :
 ReturnsInHanded {} Tryz.checked os 5 .any (fun w args => (Rows.recordCutSpec.pre enc Tryz.prog Tryz.f5 [] false w args ∧ laidMetH Tryz.prog Rows.recordCutRow.laid w) ∧ sizedMet enc Tryz.prog Tryz.f5 (OpenSpec.ofChange Rows.recordCutSpec) false w args)
  (Rows.recordCutSpec.post enc Tryz.prog Tryz.f5 false true false false) := by
 refine returns_and_shaped (C := Tryz.checked) (X := fun w _ => laidMetH Tryz.prog Rows.recordCutRow.laid w) (fun _ _ _ hh h => h.of_heap hh) own_knob started (by kernel_rfl) Tryz.func5
  (ChangeSpec.witness_shaped (enc := enc) (C := Tryz.checked) (os := os) (X := fun w _ => laidMetH Tryz.prog Rows.recordCutRow.laid w) false (World.laidAll Tryz.prog os Rows.recordCutRow.laid) #[.agg #[.int .i64 0, .int .i64 0, .slice none 0 0, .slice none 0 0], .agg #[.int .u8 0, .int .u8 0, .int .u8 0]] 8 (World.laidAll_os _ _ _)
    (World.shaped_of_ZipB (by kernel_rfl) (by kernel_rfl)) (by kernel_rfl) (by kernel_rfl) (by kernel_rfl)
    (by rw [MakeChecks.laidMetH_plain _ _ _ (by kernel_rfl)]; exact laidMet_laidAll _ (by kernel_rfl) (by kernel_rfl))) ?_
 intro W base args ds gs before hval0 hW hL hsh
 have hval : ∀ (j : Nat) t v, Tryz.f5.params[j]? = some t → args[j]? = some v → Value.okWide Tryz.prog W .any base t v := hval0
 have hW' := hW
 obtain ⟨p, q, hA0, hV, rfl, _, _⟩ := hW
 have hA : DataW.TrodAll enc Tryz.prog W 0 (fun _ => true) true Tryz.f5.params.toList args.toList ds p := hA0
 obtain ⟨rfl, rfl⟩ := trodVars_none hV
 rw [MakeChecks.laidMetH_plain _ _ _ (by kernel_rfl)] at hL
 have hT := aw_of hL hsh
 rw [Tryz.params5] at hA hval
 obtain ⟨v0, v1, d0, d1, p0, p1, rfl, rfl, rfl, h0, h1⟩ := trodAll_two hA
 obtain ⟨st, sp, A, c, xs, B, d, ms, rfl, hR, hlc, hca, hm, hRB, hmb⟩ := open_rec (hval 0 _ _ rfl rfl) h0
 obtain ⟨cs1, rfl, hl1, hc1⟩ := ok_agg (ts := [5, 5, 5]) (.inr ⟨_, _, Tryz.underlying86⟩) (by kernel_rfl) (by kernel_rfl) (hval 1 _ _ rfl rfl)
 obtain ⟨x0, x1, x2, rfl⟩ : ∃ a b c, cs1 = [a, b, c] := by match cs1, hl1 with | [a, b, c], _ => exact ⟨a, b, c, rfl⟩
 obtain ⟨b0, rfl, hb0⟩ := cell_int Tryz.underlying5 (hc1 0 _ _ rfl rfl)
 obtain ⟨b1, rfl, hb1⟩ := cell_int Tryz.underlying5 (hc1 1 _ _ rfl rfl)
 obtain ⟨b2, rfl, hb2⟩ := cell_int Tryz.underlying5 (hc1 2 _ _ rfl rfl)
 obtain ⟨n0, rfl, hn0⟩ := u8_nat hb0
 obtain ⟨n1, rfl, hn1⟩ := u8_nat hb1
 obtain ⟨n2, rfl, hn2⟩ := u8_nat hb2
 refine (recordCut_ok haw st sp A B c d xs ms n0 n1 n2 hn0 hn1 hn2 W hT hR hRB hca hlc (by unfold maxLen at hm; omega) (by unfold maxLen at hmb; omega)).mono fun e W' ⟨he, hb⟩ => ?_
 subst he
 refine ⟨_, rfl, law_shut hW' rfl (by kernel_rfl) rfl ?_ hb⟩
 rw [Tryz.params5]
 intro t ht
 have hm : t ∈ [85, 86] := ht
 have hall : ([85, 86].all fun u => Tryz.prog.readableRec u && decide (u < Tryz.prog.types.size)) = true := by kernel_rfl
 simpa using List.all_eq_true.1 hall t hm
theorem c_in : Rows.recordCutRow.inPlace = Tryz.prog.inPlace 5 := by kernel_rfl
theorem c_un : Rows.recordCutRow.unfollowed = Tryz.prog.unfollowed 5 := by kernel_rfl
theorem c_re : Rows.recordCutRow.recurses = Tryz.prog.recurses 5 := by kernel_rfl
theorem c_na : Rows.recordCutRow.named = Tryz.prog.varsNamed 5 := by kernel_rfl
set_option maxRecDepth 100000 in
theorem c_closed : joinedFacts Tryz.prog 5 Tryz.f5 Rows.recordCutSpec Rows.recordCutRow = true := by
 unfold joinedFacts
 rw [← c_in, ← c_un, ← c_re, ← c_na]
 kernel_rfl
theorem c_fn : Tryz.prog.funcNamed "glideslope/glideslopelaw01.RecordCut" = some 5 := by kernel_rfl
theorem c_inst : Tryz.f5.isInstance Tryz.prog Rows.recordCutRow.origin Rows.recordCutRow.targs := of_decide_eq_true (by kernel_rfl)
theorem c_wrap : Tryz.f5.isWrapper Tryz.prog Rows.recordCutRow.wrapper Rows.recordCutRow.mainSum := by
 unfold Func.isWrapper; first | (rw [if_pos (by decide +kernel)]; kernel_rfl) | (rw [if_neg (by decide +kernel)]; exact ⟨rfl, rfl⟩)
theorem c_said : Rows.RecordCutSaid :=
 OpenClaim.holds_of_wide (p := Tryz.pinned) 5 Tryz.f5 rfl rfl rfl rfl rfl rfl rfl ⟨rfl, rfl, rfl, rfl, rfl⟩ rfl rfl rfl rfl rfl c_fn Tryz.func5 c_closed c_inst c_wrap
  (fun os started H enc _ => c_lifted awake_ok os started H enc)
theorem c_wf : Rows.recordCutRow.wfByText (OpenSpec.ofChange Rows.recordCutSpec) = true := by kernel_rfl
theorem c_main : Tryz.pinned.checked.prog.mainIs = some (Rows.recordCutCard.stood.harness.1, Rows.recordCutCard.stood.harness.2.toList) := by kernel_rfl
theorem c_looks : false = Tryz.prog.looks [] := by kernel_rfl
theorem c_goes : false = Rows.recordCutRow.goesBy Tryz.prog := by kernel_rfl
theorem recordCut_card : Rows.RecordCutCardSaid :=
 Claim7.holds_tied_plain_at .later [] [.data, .data, .data, .data, .data, .pinned] true Rows.recordCutCard.stood.harness false c_said (fun _ h => by cases h) c_wf (fun _ h => by cases h) recordCut_row_tie rfl ⟨rfl, rfl⟩ c_main rfl
  (fun f fn hf hfn => by
    obtain rfl : f = 5 := (Option.some.inj (c_fn.symm.trans hf)).symm
    obtain rfl : fn = Tryz.f5 := (Option.some.inj (Tryz.func5.symm.trans hfn)).symm
    exact ⟨c_looks, fun j t ht => by
     rw [Tryz.params5] at ht
     have hm : t ∈ [85, 86] := by simpa using Array.mem_of_getElem? ht
     have hall : ([85, 86].all fun u => !Tryz.prog.wantsStandIn u) = true := by kernel_rfl
     exact (show Tryz.prog.wantsStandIn t = false by simpa using List.all_eq_true.1 hall t hm)⟩)
  c_goes
#print axioms recordCut_card
end Go.Proofs.YtkfkmnfejeocpaaGreatDoor
