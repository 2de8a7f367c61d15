/- TopStopbarHeard: for every list of letters by their numbers, every two bytes and every signal the law returns true, and its arguments read as they did before. Conditions: the package-level variables that the row lists hold what the program's text lays (the card ties them to it). -/
import Derived.Test.YtlflfieknibgmaaGreatDoorM37
import Derived.Test.YtlflfieknibgmaaGreatDoorM41
namespace Go.Proofs.YtlflfieknibgmaaGreatDoor
set_option linter.all false
open Go.RowKit Go.ChangeShapes Go.WideShapes Go.ChangeAt Go.Lib
set_option maxRecDepth 100000 in
theorem St_lifted (os : Os) (started : os.Started) (H : Type) (enc : TypeId × Value → H) :
    ReturnsInHanded {} Tryz.checked os 3 .any (fun w args => (Rows.topStopbarHeardSpec.pre enc Tryz.prog Tryz.f3 [] false w args ∧ laidMetH Tryz.prog Rows.topStopbarHeardRow.laid w) ∧ sizedMet enc Tryz.prog Tryz.f3 (OpenSpec.ofChange Rows.topStopbarHeardSpec) false w args)
      (Rows.topStopbarHeardSpec.post enc Tryz.prog Tryz.f3 false true false false) := by
  refine returns_and_shaped (C := Tryz.checked) (X := fun w _ => laidMetH Tryz.prog Rows.topStopbarHeardRow.laid w) (fun _ _ _ hh h => h.of_heap hh) own_knob started (by kernel_rfl) Tryz.func3
    (ChangeSpec.witness_shaped (enc := enc) (C := Tryz.checked) (os := os) (X := fun w _ => laidMetH Tryz.prog Rows.topStopbarHeardRow.laid w) false (World.laidAll Tryz.prog os Rows.topStopbarHeardRow.laid) #[.slice none 0 0, .agg #[.int .u8 0, .int .u8 0], .agg #[.int .i64 0, .int .i64 0, .int .i64 0, .int .i64 0, .int .i64 0, .int .i64 0]] 8 (World.laidAll_os _ _ _)
      (World.shaped_of_ZipB (by kernel_rfl) (by kernel_rfl)) (by kernel_rfl) (by kernel_rfl) (by kernel_rfl)
      (by rw [MakeChecks.laidMetH_plain _ _ _ (by kernel_rfl)]; exact laidMet_laidAll _ (by kernel_rfl) (by kernel_rfl))) ?_
  intro W base args ds gs before hval0 hW hL hsh
  have hval : ∀ (j : Nat) t v, Tryz.f3.params[j]? = some t → args[j]? = some v → Value.okWide Tryz.prog W .any base t v := hval0
  have hW' := hW
  obtain ⟨p, q, hA0, hV, rfl, _, _⟩ := hW
  have hA : DataW.TrodAll enc Tryz.prog W 0 (fun _ => true) true Tryz.f3.params.toList args.toList ds p := hA0
  obtain ⟨rfl, rfl⟩ := trodVars_none hV
  rw [MakeChecks.laidMetH_plain _ _ _ (by kernel_rfl)] at hL
  have hT := hTb_of hL hsh
  rw [Tryz.params3] at hA hval
  obtain ⟨v0, v1, v2, d0, d1, d2, p0, p1, p2, rfl, rfl, rfl, h0, h1, h2⟩ := trodAll_three hA
  obtain ⟨A, ca, bs, rfl, hRbs, _, _, _⟩ := open_byts Tryz.underlying22 Tryz.underlying5 (by kernel_rfl) (hval 0 _ _ rfl rfl) h0
  obtain ⟨cs1, rfl, hl1, hc1⟩ := ok_agg (ts := [5, 5]) (.inr ⟨_, _, Tryz.underlying23⟩) (by kernel_rfl) (by kernel_rfl) (hval 1 _ _ rfl rfl)
  obtain ⟨z10, z11, rfl⟩ : ∃ a0 a1, cs1 = [a0, a1] := by match cs1, hl1 with | [a0, a1], _ => exact ⟨a0, a1, rfl⟩
  obtain ⟨x0, rfl, rx0⟩ := cell_int Tryz.underlying5 (hc1 0 _ _ rfl rfl)
  obtain ⟨x1, rfl, rx1⟩ := cell_int Tryz.underlying5 (hc1 1 _ _ rfl rfl)
  obtain ⟨cs2, rfl, hl2, hc2⟩ := ok_agg (ts := [3, 3, 3, 3, 3, 3]) (.inl ⟨_, Tryz.underlying27⟩) (by kernel_rfl) (by kernel_rfl) (hval 2 _ _ rfl rfl)
  obtain ⟨z20, z21, z22, z23, z24, z25, rfl⟩ : ∃ a b c d e f, cs2 = [a, b, c, d, e, f] := by match cs2, hl2 with | [a, b, c, d, e, f], _ => exact ⟨a, b, c, d, e, f, rfl⟩
  obtain ⟨a, rfl, _⟩ := cell_int Tryz.underlying3 (hc2 0 _ _ rfl rfl)
  obtain ⟨b, rfl, _⟩ := cell_int Tryz.underlying3 (hc2 1 _ _ rfl rfl)
  obtain ⟨c, rfl, _⟩ := cell_int Tryz.underlying3 (hc2 2 _ _ rfl rfl)
  obtain ⟨d, rfl, _⟩ := cell_int Tryz.underlying3 (hc2 3 _ _ rfl rfl)
  obtain ⟨x, rfl, _⟩ := cell_int Tryz.underlying3 (hc2 4 _ _ rfl rfl)
  obtain ⟨y, rfl, _⟩ := cell_int Tryz.underlying3 (hc2 5 _ _ rfl rfl)
  refine (topStopbarHeard_any A bs.length ca x0 x1 a b c d x y bs W hRbs rfl hT ⟨rx0.1, rx0.2⟩ ⟨rx1.1, rx1.2⟩).mono fun e W' ⟨he, hb⟩ => ?_
  subst he
  refine ⟨_, rfl, law_shut hW' rfl (by kernel_rfl) rfl ?_ hb⟩
  rw [Tryz.params3]
  intro t ht
  have hm : t ∈ [22, 23, 27] := ht
  have hall : ([22, 23, 27].all fun u => Tryz.prog.readableRec u && decide (u < Tryz.prog.types.size)) = true := by kernel_rfl
  simpa using List.all_eq_true.1 hall t hm
theorem St_in : Rows.topStopbarHeardRow.inPlace = Tryz.prog.inPlace 3 := by kernel_rfl
theorem St_un : Rows.topStopbarHeardRow.unfollowed = Tryz.prog.unfollowed 3 := by kernel_rfl
theorem St_re : Rows.topStopbarHeardRow.recurses = Tryz.prog.recurses 3 := by kernel_rfl
theorem St_na : Rows.topStopbarHeardRow.named = Tryz.prog.varsNamed 3 := by kernel_rfl
set_option maxRecDepth 100000 in
theorem St_closed : joinedFacts Tryz.prog 3 Tryz.f3 Rows.topStopbarHeardSpec Rows.topStopbarHeardRow = true := by
  unfold joinedFacts
  rw [← St_in, ← St_un, ← St_re, ← St_na]
  kernel_rfl
theorem St_fn : Tryz.prog.funcNamed "glideslope/glideslopetop.TopStopbarHeard" = some 3 := by kernel_rfl
theorem St_inst : Tryz.f3.isInstance Tryz.prog Rows.topStopbarHeardRow.origin Rows.topStopbarHeardRow.targs := of_decide_eq_true (by kernel_rfl)
theorem St_wrap : Tryz.f3.isWrapper Tryz.prog Rows.topStopbarHeardRow.wrapper Rows.topStopbarHeardRow.mainSum := by
  unfold Func.isWrapper; first | (rw [if_pos (by decide +kernel)]; kernel_rfl) | (rw [if_neg (by decide +kernel)]; exact ⟨rfl, rfl⟩)
theorem St_said : Rows.TopStopbarHeardSaid :=
  OpenClaim.holds_of_wide (p := Tryz.pinned) 3 Tryz.f3 rfl rfl rfl rfl rfl rfl rfl ⟨rfl, rfl, rfl, rfl, rfl⟩ rfl rfl rfl rfl rfl St_fn Tryz.func3 St_closed St_inst St_wrap
    (fun os started H enc _ => St_lifted os started H enc)
theorem St_wf : Rows.topStopbarHeardRow.wfByText (OpenSpec.ofChange Rows.topStopbarHeardSpec) = true := by kernel_rfl
theorem St_main : Tryz.pinned.checked.prog.mainIs = some (Rows.topStopbarHeardCard.stood.harness.1, Rows.topStopbarHeardCard.stood.harness.2.toList) := by kernel_rfl
theorem St_looks : false = Tryz.prog.looks [] := by kernel_rfl
theorem St_goes : false = Rows.topStopbarHeardRow.goesBy Tryz.prog := by kernel_rfl
theorem topStopbarHeard_card : Rows.TopStopbarHeardCardSaid :=
  Claim7.holds_tied_plain_at .later [] [.data, .data, .data, .data] true Rows.topStopbarHeardCard.stood.harness false St_said (fun _ h => by cases h) St_wf (fun _ h => by cases h) topStopbarHeard_row_tie rfl ⟨rfl, rfl⟩ St_main rfl
    (fun f fn hf hfn => by
      obtain rfl : f = 3 := (Option.some.inj (St_fn.symm.trans hf)).symm
      obtain rfl : fn = Tryz.f3 := (Option.some.inj (Tryz.func3.symm.trans hfn)).symm
      exact ⟨St_looks, fun j t ht => by
        rw [Tryz.params3] at ht
        have hm : t ∈ [22, 23, 27] := by simpa using Array.mem_of_getElem? ht
        have hall : ([22, 23, 27].all fun u => !Tryz.prog.wantsStandIn u) = true := by kernel_rfl
        exact (show Tryz.prog.wantsStandIn t = false by simpa using List.all_eq_true.1 hall t hm)⟩)
    St_goes
#print axioms topStopbarHeard_card
end Go.Proofs.YtlflfieknibgmaaGreatDoor
