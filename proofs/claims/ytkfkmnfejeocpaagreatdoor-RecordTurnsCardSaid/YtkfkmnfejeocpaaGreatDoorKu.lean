/- RecordTurns: for every four int16, every int8 and every four uint16 the law returns true, and its arguments read as they did before. Conditions: the package-level variables that the row lists hold what the program's text lays (the card ties them to it). -/
import Derived.Test.YtkfkmnfejeocpaaGreatDoorM31
import Derived.Test.YtkfkmnfejeocpaaGreatDoorM33
import Derived.Test.YtkfkmnfejeocpaaGreatDoorM32
import Derived.Test.YtkfkmnfejeocpaaGreatDoorM36
namespace Go.Proofs.YtkfkmnfejeocpaaGreatDoor
set_option linter.all false
open Go.RowKit Go.ChangeShapes Go.WideShapes Go.ChangeAt Go.Lib
set_option linter.unusedVariables false

set_option maxRecDepth 100000 in
theorem u_lifted (haw : AwakeOk) (os : Os) (started : os.Started) (H : Type) (enc : TypeId × Value → H) :
    ReturnsInHanded {} Tryz.checked os 3 .any (fun w args => (Rows.recordTurnsSpec.pre enc Tryz.prog Tryz.f3 [] false w args ∧ laidMetH Tryz.prog Rows.recordTurnsRow.laid w) ∧ sizedMet enc Tryz.prog Tryz.f3 (OpenSpec.ofChange Rows.recordTurnsSpec) false w args)
      (Rows.recordTurnsSpec.post enc Tryz.prog Tryz.f3 false true false false) := by
  refine returns_and_shaped (C := Tryz.checked) (X := fun w _ => laidMetH Tryz.prog Rows.recordTurnsRow.laid w) (fun _ _ _ hh h => h.of_heap hh) own_knob started (by kernel_rfl) Tryz.func3
    (ChangeSpec.witness_shaped (enc := enc) (C := Tryz.checked) (os := os) (X := fun w _ => laidMetH Tryz.prog Rows.recordTurnsRow.laid w) false (World.laidAll Tryz.prog os Rows.recordTurnsRow.laid) #[.agg #[.int .i16 0, .int .i16 0, .int .i16 0, .int .i16 0], .int .i8 0, .agg #[.int .u16 0, .int .u16 0, .int .u16 0, .int .u16 0]] 8 (World.laidAll_os _ _ _)
      (World.shaped_of_ZipB (by kernel_rfl) (by kernel_rfl)) (by kernel_rfl) (by kernel_rfl) (by kernel_rfl)
      (by rw [MakeChecks.laidMetH_plain _ _ _ (by kernel_rfl)]; exact laidMet_laidAll _ (by kernel_rfl) (by kernel_rfl))) ?_
  intro W base args ds gs before hval0 hW hL hsh
  have hval : ∀ (j : Nat) t v, Tryz.f3.params[j]? = some t → args[j]? = some v → Value.okWide Tryz.prog W .any base t v := hval0
  have hW' := hW
  obtain ⟨p, q, hA0, hV, rfl, _, _⟩ := hW
  have hA : DataW.TrodAll enc Tryz.prog W 0 (fun _ => true) true Tryz.f3.params.toList args.toList ds p := hA0
  obtain ⟨rfl, rfl⟩ := trodVars_none hV
  rw [MakeChecks.laidMetH_plain _ _ _ (by kernel_rfl)] at hL
  have hT := aw_of hL hsh
  rw [Tryz.params3] at hA hval
  obtain ⟨v0, v1, v2, d0, d1, d2, p0, p1, p2, rfl, rfl, rfl, h0, h1, h2⟩ := trodAll_three hA
  obtain ⟨cs0, rfl, hl0, hc0⟩ := ok_agg (ts := [22, 22, 22, 22]) (.inr ⟨_, _, Tryz.underlying23⟩) (by kernel_rfl) (by kernel_rfl) (hval 0 _ _ rfl rfl)
  obtain ⟨x0, x1, x2, x3, rfl⟩ : ∃ a b c d, cs0 = [a, b, c, d] := by match cs0, hl0 with | [a, b, c, d], _ => exact ⟨a, b, c, d, rfl⟩
  obtain ⟨l0, rfl, hb0⟩ := cell_int Tryz.underlying22 (hc0 0 _ _ rfl rfl)
  obtain ⟨l1, rfl, hb1⟩ := cell_int Tryz.underlying22 (hc0 1 _ _ rfl rfl)
  obtain ⟨l2, rfl, hb2⟩ := cell_int Tryz.underlying22 (hc0 2 _ _ rfl rfl)
  obtain ⟨l3, rfl, hb3⟩ := cell_int Tryz.underlying22 (hc0 3 _ _ rfl rfl)
  obtain ⟨mo, rfl, hmo⟩ := ok_int Tryz.underlying24 (hval 1 _ _ rfl rfl)
  obtain ⟨cs2, rfl, hl2, hc2⟩ := ok_agg (ts := [25, 25, 25, 25]) (.inr ⟨_, _, Tryz.underlying26⟩) (by kernel_rfl) (by kernel_rfl) (hval 2 _ _ rfl rfl)
  obtain ⟨y0, y1, y2, y3, rfl⟩ : ∃ a b c d, cs2 = [a, b, c, d] := by match cs2, hl2 with | [a, b, c, d], _ => exact ⟨a, b, c, d, rfl⟩
  obtain ⟨m0, rfl, hm0⟩ := cell_int Tryz.underlying25 (hc2 0 _ _ rfl rfl)
  obtain ⟨m1, rfl, hm1⟩ := cell_int Tryz.underlying25 (hc2 1 _ _ rfl rfl)
  obtain ⟨m2, rfl, hm2⟩ := cell_int Tryz.underlying25 (hc2 2 _ _ rfl rfl)
  obtain ⟨m3, rfl, hm3⟩ := cell_int Tryz.underlying25 (hc2 3 _ _ rfl rfl)
  obtain ⟨n0, rfl, hn0⟩ := u16_nat hm0
  obtain ⟨n1, rfl, hn1⟩ := u16_nat hm1
  obtain ⟨n2, rfl, hn2⟩ := u16_nat hm2
  obtain ⟨n3, rfl, hn3⟩ := u16_nat hm3
  refine (turns_walk haw l0 l1 l2 l3 mo n0 n1 n2 n3 W hT hb0 hb1 hb2 hb3 hmo hn0 hn1 hn2 hn3 _ _ _ _ _ rfl rfl rfl rfl rfl).mono fun e W' ⟨he, hb⟩ => ?_
  subst he
  refine ⟨_, rfl, law_shut hW' rfl (by kernel_rfl) rfl ?_ hb⟩
  rw [Tryz.params3]
  intro t ht
  have hm : t ∈ [23, 24, 26] := ht
  have hall : ([23, 24, 26].all fun u => Tryz.prog.readableRec u && decide (u < Tryz.prog.types.size)) = true := by kernel_rfl
  simpa using List.all_eq_true.1 hall t hm

theorem u_in : Rows.recordTurnsRow.inPlace = Tryz.prog.inPlace 3 := by kernel_rfl
theorem u_un : Rows.recordTurnsRow.unfollowed = Tryz.prog.unfollowed 3 := by kernel_rfl
theorem u_re : Rows.recordTurnsRow.recurses = Tryz.prog.recurses 3 := by kernel_rfl
theorem u_na : Rows.recordTurnsRow.named = Tryz.prog.varsNamed 3 := by kernel_rfl
set_option maxRecDepth 100000 in
theorem u_closed : joinedFacts Tryz.prog 3 Tryz.f3 Rows.recordTurnsSpec Rows.recordTurnsRow = true := by
  unfold joinedFacts
  rw [← u_in, ← u_un, ← u_re, ← u_na]
  kernel_rfl
theorem u_fn : Tryz.prog.funcNamed "glideslope/glideslopelaw01.RecordTurns" = some 3 := by kernel_rfl
theorem u_inst : Tryz.f3.isInstance Tryz.prog Rows.recordTurnsRow.origin Rows.recordTurnsRow.targs := of_decide_eq_true (by kernel_rfl)
theorem u_wrap : Tryz.f3.isWrapper Tryz.prog Rows.recordTurnsRow.wrapper Rows.recordTurnsRow.mainSum := by
  unfold Func.isWrapper; first | (rw [if_pos (by decide +kernel)]; kernel_rfl) | (rw [if_neg (by decide +kernel)]; exact ⟨rfl, rfl⟩)
theorem u_said : Rows.RecordTurnsSaid :=
  OpenClaim.holds_of_wide (p := Tryz.pinned) 3 Tryz.f3 rfl rfl rfl rfl rfl rfl rfl ⟨rfl, rfl, rfl, rfl, rfl⟩ rfl rfl rfl rfl rfl u_fn Tryz.func3 u_closed u_inst u_wrap
    (fun os started H enc _ => u_lifted awake_ok os started H enc)
theorem u_wf : Rows.recordTurnsRow.wfByText (OpenSpec.ofChange Rows.recordTurnsSpec) = true := by kernel_rfl
theorem u_main : Tryz.pinned.checked.prog.mainIs = some (Rows.recordTurnsCard.stood.harness.1, Rows.recordTurnsCard.stood.harness.2.toList) := by kernel_rfl
theorem u_looks : false = Tryz.prog.looks [] := by kernel_rfl
theorem u_goes : false = Rows.recordTurnsRow.goesBy Tryz.prog := by kernel_rfl
theorem recordTurns_card : Rows.RecordTurnsCardSaid :=
  Claim7.holds_tied_plain_at .later [] [.data, .data, .data, .data, .data, .pinned] true Rows.recordTurnsCard.stood.harness false u_said (fun _ h => by cases h) u_wf (fun _ h => by cases h) recordTurns_row_tie rfl ⟨rfl, rfl⟩ u_main rfl
    (fun f fn hf hfn => by
      obtain rfl : f = 3 := (Option.some.inj (u_fn.symm.trans hf)).symm
      obtain rfl : fn = Tryz.f3 := (Option.some.inj (Tryz.func3.symm.trans hfn)).symm
      exact ⟨u_looks, fun j t ht => by
        rw [Tryz.params3] at ht
        have hm : t ∈ [23, 24, 26] := by simpa using Array.mem_of_getElem? ht
        have hall : ([23, 24, 26].all fun u => !Tryz.prog.wantsStandIn u) = true := by kernel_rfl
        exact (show Tryz.prog.wantsStandIn t = false by simpa using List.all_eq_true.1 hall t hm)⟩)
    u_goes
#print axioms recordTurns_card
end Go.Proofs.YtkfkmnfejeocpaaGreatDoor
