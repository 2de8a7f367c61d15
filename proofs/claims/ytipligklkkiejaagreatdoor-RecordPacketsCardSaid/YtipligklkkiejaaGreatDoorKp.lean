/- RecordPackets: for every key, every packet and every 29 bytes the law returns true, and its arguments read as they did before. Conditions: the package-level variables that the row lists hold what the program's text lays (the card ties them to it). -/
import Derived.Test.YtipligklkkiejaaGreatDoorM32
import Derived.Test.YtipligklkkiejaaGreatDoorM33
import Derived.Test.YtipligklkkiejaaGreatDoorM36
namespace Go.Proofs.YtipligklkkiejaaGreatDoor
set_option linter.all false
open Go.RowKit Go.ChangeShapes Go.WideShapes Go.ChangeAt Go.Lib
set_option linter.unusedVariables false

set_option maxRecDepth 100000 in
theorem p_lifted (haw : AwakeOk) (os : Os) (started : os.Started) (H : Type) (enc : TypeId × Value → H) :
    ReturnsInHanded {} Tryz.checked os 3 .any (fun w args => (Rows.recordPacketsSpec.pre enc Tryz.prog Tryz.f3 [] false w args ∧ laidMetH Tryz.prog Rows.recordPacketsRow.laid w) ∧ sizedMet enc Tryz.prog Tryz.f3 (OpenSpec.ofChange Rows.recordPacketsSpec) false w args)
      (Rows.recordPacketsSpec.post enc Tryz.prog Tryz.f3 false true false false) := by
  refine returns_and_shaped (C := Tryz.checked) (X := fun w _ => laidMetH Tryz.prog Rows.recordPacketsRow.laid w) (fun _ _ _ hh h => h.of_heap hh) own_knob started (by kernel_rfl) Tryz.func3
    (ChangeSpec.witness_shaped (enc := enc) (C := Tryz.checked) (os := os) (X := fun w _ => laidMetH Tryz.prog Rows.recordPacketsRow.laid w) false (World.laidAll Tryz.prog os Rows.recordPacketsRow.laid) #[.agg #[.int .u8 0, .int .u8 0, .int .u8 0, .int .u8 0, .int .u8 0, .int .u8 0, .int .u8 0, .int .u8 0], .agg #[.int .i64 0, .int .i64 0, .int .i64 0, .float .f32 0, .float .f32 0, .float .f32 0, .float .f32 0, .float .f32 0, .float .f32 0, .float .f32 0, .float .f32 0], .agg #[.int .u8 0, .int .u8 0, .int .u8 0, .int .u8 0, .int .u8 0, .int .u8 0, .int .u8 0, .int .u8 0, .int .u8 0, .int .u8 0, .int .u8 0, .int .u8 0, .int .u8 0, .int .u8 0, .int .u8 0, .int .u8 0, .int .u8 0, .int .u8 0, .int .u8 0, .int .u8 0, .int .u8 0, .int .u8 0, .int .u8 0, .int .u8 0, .int .u8 0, .int .u8 0, .int .u8 0, .int .u8 0, .int .u8 0]] 8 (World.laidAll_os _ _ _)
      (World.shaped_of_ZipB (by kernel_rfl) (by kernel_rfl)) (by kernel_rfl) (by kernel_rfl) (by kernel_rfl)
      (by rw [MakeChecks.laidMetH_plain _ _ _ (by kernel_rfl)]; exact laidMet_laidAll _ (by kernel_rfl) (by kernel_rfl))) ?_
  intro W base args ds gs before hval0 hW hL hsh
  have hval : ∀ (j : Nat) t v, Tryz.f3.params[j]? = some t → args[j]? = some v → Value.okWide Tryz.prog W .any base t v := hval0
  have hW' := hW
  obtain ⟨p, q, hA0, hV, rfl, _, _⟩ := hW
  have hA : DataW.TrodAll enc Tryz.prog W 0 (fun _ => true) true Tryz.f3.params.toList args.toList ds p := hA0
  obtain ⟨rfl, rfl⟩ := trodVars_none hV
  rw [MakeChecks.laidMetH_plain _ _ _ (by kernel_rfl)] at hL
  have hT := aw_of hL hsh
  rw [Tryz.params3] at hA hval
  obtain ⟨v0, v1, v2, d0, d1, d2, p0, p1, p2, rfl, rfl, rfl, h0, h1, h2⟩ := trodAll_three hA
  obtain ⟨cs0, rfl, hl0, hc0⟩ := ok_agg (ts := [5, 5, 5, 5, 5, 5, 5, 5]) (.inr ⟨_, _, Tryz.underlying23⟩) (by kernel_rfl) (by kernel_rfl) (hval 0 _ _ rfl rfl)
  obtain ⟨cs1, rfl, hl1, hc1⟩ := ok_agg (ts := [3, 3, 3, 24, 24, 24, 24, 24, 24, 24, 24]) (.inl ⟨_, Tryz.underlying27⟩) (by kernel_rfl) (by kernel_rfl) (hval 1 _ _ rfl rfl)
  obtain ⟨cs2, rfl, hl2, hc2⟩ := ok_agg (ts := List.replicate 29 5) (.inr ⟨_, _, Tryz.underlying28⟩) (by kernel_rfl) (by kernel_rfl) (hval 2 _ _ rfl rfl)
  obtain ⟨ks, hks, hkl, hkb⟩ := cells_u8 (cs := cs0) (fun v hv => by
    obtain ⟨j, hj, rfl⟩ := List.mem_iff_getElem.1 hv
    exact cell_int Tryz.underlying5 (hc0 j _ _ (by rw [show ([5, 5, 5, 5, 5, 5, 5, 5] : List TypeId) = List.replicate 8 5 from rfl, List.getElem?_replicate_of_lt (by have h8 : cs0.length = 8 := hl0; omega)]) (List.getElem?_eq_getElem hj)))
  obtain ⟨bs, rfl, hbl⟩ := cells_byts (cs := cs2) (fun v hv => by
    obtain ⟨j, hj, rfl⟩ := List.mem_iff_getElem.1 hv
    exact cell_int Tryz.underlying5 (hc2 j _ _ (by rw [List.getElem?_replicate_of_lt (by rw [List.length_replicate] at hl2; omega)]) (List.getElem?_eq_getElem hj)))
  subst hks
  obtain ⟨k0, k1, k2, k3, k4, k5, k6, k7, rfl⟩ : ∃ a b c d e f g h, ks = [a, b, c, d, e, f, g, h] := by
    have hk8 : ks.length = 8 := hkl.trans hl0
    match ks, hk8 with
    | [a, b, c, d, e, f, g, h], _ => exact ⟨a, b, c, d, e, f, g, h, rfl⟩
  obtain ⟨y0, y1, y2, z0, z1, z2, z3, z4, z5, z6, z7, rfl⟩ : ∃ a b c d e f g h i j k, cs1 = [a, b, c, d, e, f, g, h, i, j, k] := by
    match cs1, hl1 with
    | [a, b, c, d, e, f, g, h, i, j, k], _ => exact ⟨a, b, c, d, e, f, g, h, i, j, k, rfl⟩
  obtain ⟨st, rfl, _⟩ := cell_int Tryz.underlying3 (hc1 0 _ _ rfl rfl)
  obtain ⟨ct, rfl, _⟩ := cell_int Tryz.underlying3 (hc1 1 _ _ rfl rfl)
  obtain ⟨ln, rfl, _⟩ := cell_int Tryz.underlying3 (hc1 2 _ _ rfl rfl)
  obtain ⟨x0, rfl⟩ := cell_flt Tryz.underlying24 (hc1 3 _ _ rfl rfl)
  obtain ⟨x1, rfl⟩ := cell_flt Tryz.underlying24 (hc1 4 _ _ rfl rfl)
  obtain ⟨x2, rfl⟩ := cell_flt Tryz.underlying24 (hc1 5 _ _ rfl rfl)
  obtain ⟨x3, rfl⟩ := cell_flt Tryz.underlying24 (hc1 6 _ _ rfl rfl)
  obtain ⟨x4, rfl⟩ := cell_flt Tryz.underlying24 (hc1 7 _ _ rfl rfl)
  obtain ⟨x5, rfl⟩ := cell_flt Tryz.underlying24 (hc1 8 _ _ rfl rfl)
  obtain ⟨x6, rfl⟩ := cell_flt Tryz.underlying24 (hc1 9 _ _ rfl rfl)
  obtain ⟨x7, rfl⟩ := cell_flt Tryz.underlying24 (hc1 10 _ _ rfl rfl)
  have hl29 : bs.length = 29 := by rw [hbl, hl2]; rfl
  have hkeys : ∀ j (h : j < 8), isByte ([k0, k1, k2, k3, k4, k5, k6, k7][j]) := fun j h => hkb _ (List.getElem_mem _)
  refine (recordPackets_ok haw k0 k1 k2 k3 k4 k5 k6 k7 st ct ln x0 x1 x2 x3 x4 x5 x6 x7 bs W hl29 hkeys hT).mono fun e W' ⟨he, hb⟩ => ?_
  subst he
  refine ⟨_, rfl, law_shut hW' rfl (by kernel_rfl) rfl ?_ hb⟩
  rw [Tryz.params3]
  intro t ht
  have hm : t ∈ [23, 27, 28] := ht
  have hall : ([23, 27, 28].all fun u => Tryz.prog.readableRec u && decide (u < Tryz.prog.types.size)) = true := by kernel_rfl
  simpa using List.all_eq_true.1 hall t hm

theorem p_in : Rows.recordPacketsRow.inPlace = Tryz.prog.inPlace 3 := by kernel_rfl
theorem p_un : Rows.recordPacketsRow.unfollowed = Tryz.prog.unfollowed 3 := by kernel_rfl
theorem p_re : Rows.recordPacketsRow.recurses = Tryz.prog.recurses 3 := by kernel_rfl
theorem p_na : Rows.recordPacketsRow.named = Tryz.prog.varsNamed 3 := by kernel_rfl
set_option maxRecDepth 100000 in
theorem p_closed : joinedFacts Tryz.prog 3 Tryz.f3 Rows.recordPacketsSpec Rows.recordPacketsRow = true := by
  unfold joinedFacts
  rw [← p_in, ← p_un, ← p_re, ← p_na]
  kernel_rfl
theorem p_fn : Tryz.prog.funcNamed "glideslope/glideslopelaw01.RecordPackets" = some 3 := by kernel_rfl
theorem p_inst : Tryz.f3.isInstance Tryz.prog Rows.recordPacketsRow.origin Rows.recordPacketsRow.targs := of_decide_eq_true (by kernel_rfl)
theorem p_wrap : Tryz.f3.isWrapper Tryz.prog Rows.recordPacketsRow.wrapper Rows.recordPacketsRow.mainSum := by
  unfold Func.isWrapper; first | (rw [if_pos (by decide +kernel)]; kernel_rfl) | (rw [if_neg (by decide +kernel)]; exact ⟨rfl, rfl⟩)
theorem p_said : Rows.RecordPacketsSaid :=
  OpenClaim.holds_of_wide (p := Tryz.pinned) 3 Tryz.f3 rfl rfl rfl rfl rfl rfl rfl ⟨rfl, rfl, rfl, rfl, rfl⟩ rfl rfl rfl rfl rfl p_fn Tryz.func3 p_closed p_inst p_wrap
    (fun os started H enc _ => p_lifted awake_ok os started H enc)
theorem p_wf : Rows.recordPacketsRow.wfByText (OpenSpec.ofChange Rows.recordPacketsSpec) = true := by kernel_rfl
theorem p_main : Tryz.pinned.checked.prog.mainIs = some (Rows.recordPacketsCard.stood.harness.1, Rows.recordPacketsCard.stood.harness.2.toList) := by kernel_rfl
theorem p_looks : false = Tryz.prog.looks [] := by kernel_rfl
theorem p_goes : false = Rows.recordPacketsRow.goesBy Tryz.prog := by kernel_rfl
theorem recordPackets_card : Rows.RecordPacketsCardSaid :=
  Claim7.holds_tied_plain_at .later [] [.data, .data, .data, .data, .data, .pinned] true Rows.recordPacketsCard.stood.harness false p_said (fun _ h => by cases h) p_wf (fun _ h => by cases h) recordPackets_row_tie rfl ⟨rfl, rfl⟩ p_main rfl
    (fun f fn hf hfn => by
      obtain rfl : f = 3 := (Option.some.inj (p_fn.symm.trans hf)).symm
      obtain rfl : fn = Tryz.f3 := (Option.some.inj (Tryz.func3.symm.trans hfn)).symm
      exact ⟨p_looks, fun j t ht => by
        rw [Tryz.params3] at ht
        have hm : t ∈ [23, 27, 28] := by simpa using Array.mem_of_getElem? ht
        have hall : ([23, 27, 28].all fun u => !Tryz.prog.wantsStandIn u) = true := by kernel_rfl
        exact (show Tryz.prog.wantsStandIn t = false by simpa using List.all_eq_true.1 hall t hm)⟩)
    p_goes
#print axioms recordPackets_card
end Go.Proofs.YtipligklkkiejaaGreatDoor
