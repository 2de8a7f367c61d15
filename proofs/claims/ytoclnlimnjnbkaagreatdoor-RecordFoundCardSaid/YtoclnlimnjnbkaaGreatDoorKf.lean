/- RecordFound: for every key, every list of three int16 and every noise the law returns true, and its arguments read as they did before. Conditions: the package-level variables that the row lists hold what the program's text lays (the card ties them to it). -/
import Derived.Test.YtoclnlimnjnbkaaGreatDoorM41
import Derived.Test.YtoclnlimnjnbkaaGreatDoorM37
namespace Go.Proofs.YtoclnlimnjnbkaaGreatDoor
set_option linter.all false
open Go.RowKit Go.ChangeShapes Go.WideShapes Go.ChangeAt Go.Lib
set_option maxRecDepth 100000 in
theorem f_lifted (haw : AwakeOk) (os : Os) (started : os.Started) (H : Type) (enc : TypeId × Value → H) :
    ReturnsInHanded {} Tryz.checked os 4 .any (fun w args => (Rows.recordFoundSpec.pre enc Tryz.prog Tryz.f4 [] false w args ∧ laidMetH Tryz.prog Rows.recordFoundRow.laid w) ∧ sizedMet enc Tryz.prog Tryz.f4 (OpenSpec.ofChange Rows.recordFoundSpec) false w args)
      (Rows.recordFoundSpec.post enc Tryz.prog Tryz.f4 false true false false) := by
  refine returns_and_shaped (C := Tryz.checked) (X := fun w _ => laidMetH Tryz.prog Rows.recordFoundRow.laid w) (fun _ _ _ hh h => h.of_heap hh) own_knob started (by kernel_rfl) Tryz.func4
    (ChangeSpec.witness_shaped (enc := enc) (C := Tryz.checked) (os := os) (X := fun w _ => laidMetH Tryz.prog Rows.recordFoundRow.laid w) false (World.laidAll Tryz.prog os Rows.recordFoundRow.laid) #[.agg #[.int .u8 0, .int .u8 0, .int .u8 0, .int .u8 0, .int .u8 0, .int .u8 0, .int .u8 0, .int .u8 0], .slice none 0 0, .agg #[.slice none 0 0, .int .u8 0, .int .u8 0, .int .u8 0]] 8 (World.laidAll_os _ _ _)
      (World.shaped_of_ZipB (by kernel_rfl) (by kernel_rfl)) (by kernel_rfl) (by kernel_rfl) (by kernel_rfl)
      (by rw [MakeChecks.laidMetH_plain _ _ _ (by kernel_rfl)]; exact laidMet_laidAll _ (by kernel_rfl) (by kernel_rfl))) ?_
  intro W base args ds gs before hval0 hW hL hsh
  have hval : ∀ (j : Nat) t v, Tryz.f4.params[j]? = some t → args[j]? = some v → Value.okWide Tryz.prog W .any base t v := hval0
  have hW' := hW
  obtain ⟨p, q, hA0, hV, rfl, _, _⟩ := hW
  have hA : DataW.TrodAll enc Tryz.prog W 0 (fun _ => true) true Tryz.f4.params.toList args.toList ds p := hA0
  obtain ⟨rfl, rfl⟩ := trodVars_none hV
  rw [MakeChecks.laidMetH_plain _ _ _ (by kernel_rfl)] at hL
  have hT := aw_of hL hsh
  rw [Tryz.params4] at hA hval
  obtain ⟨v0, v1, v2, d0, d1, d2, p0, p1, p2, rfl, rfl, rfl, h0, h1, h2⟩ := trodAll_three hA
  obtain ⟨cs0, rfl, hl0, hc0⟩ := ok_agg (ts := [5, 5, 5, 5, 5, 5, 5, 5]) (.inr ⟨_, _, Tryz.underlying46⟩) (by kernel_rfl) (by kernel_rfl) (hval 0 _ _ rfl rfl)
  obtain ⟨ks, hks, hkl, hkb⟩ := cells_u8b (cs := cs0) (fun v hv => by
    obtain ⟨j, hj, rfl⟩ := List.mem_iff_getElem.1 hv
    exact cell_int Tryz.underlying5 (hc0 j _ _ (by rw [show ([5, 5, 5, 5, 5, 5, 5, 5] : List TypeId) = List.replicate 8 5 from rfl, List.getElem?_replicate_of_lt (by have h8 : cs0.length = 8 := hl0; omega)]) (List.getElem?_eq_getElem hj)))
  subst hks
  obtain ⟨k0, k1, k2, k3, k4, k5, k6, k7, rfl⟩ : ∃ a b c d e f g h, ks = [a, b, c, d, e, f, g, h] := by
    have hk8 : ks.length = 8 := hkl.trans hl0
    match ks, hk8 with
    | [a, b, c, d, e, f, g, h], _ => exact ⟨a, b, c, d, e, f, g, h, rfl⟩
  have hkeys : ∀ j (h : j < 8), isByte ([k0, k1, k2, k3, k4, k5, k6, k7][j]) := fun j h => hkb _ (List.getElem_mem _)
  obtain ⟨A, c, LL, rfl, hR, hLL, hm⟩ := open_tris (hval 1 _ _ rfl rfl) h1
  obtain ⟨B, mc, ot0, x, y, z, rfl, hRB, hmb, hx, hy, hz⟩ := open_noise (hval 2 _ _ rfl rfl) h2
  refine (recordFound_ok haw k0 k1 k2 k3 k4 k5 k6 k7 A c LL B mc ot0 x y z W hT hR hRB (by unfold maxLen at hm; omega) (by unfold maxLen at hmb; omega) hLL hkeys hx hy hz).mono fun e W' ⟨he, hb⟩ => ?_
  subst he
  refine ⟨_, rfl, law_shut hW' rfl (by kernel_rfl) rfl ?_ hb⟩
  rw [Tryz.params4]
  intro t ht
  have hm : t ∈ [46, 47, 50] := ht
  have hall : ([46, 47, 50].all fun u => Tryz.prog.readableRec u && decide (u < Tryz.prog.types.size)) = true := by kernel_rfl
  simpa using List.all_eq_true.1 hall t hm
theorem f_in : Rows.recordFoundRow.inPlace = Tryz.prog.inPlace 4 := by kernel_rfl
theorem f_un : Rows.recordFoundRow.unfollowed = Tryz.prog.unfollowed 4 := by kernel_rfl
theorem f_re : Rows.recordFoundRow.recurses = Tryz.prog.recurses 4 := by kernel_rfl
theorem f_na : Rows.recordFoundRow.named = Tryz.prog.varsNamed 4 := by kernel_rfl
set_option maxRecDepth 100000 in
theorem f_closed : joinedFacts Tryz.prog 4 Tryz.f4 Rows.recordFoundSpec Rows.recordFoundRow = true := by
  unfold joinedFacts
  rw [← f_in, ← f_un, ← f_re, ← f_na]
  kernel_rfl
theorem f_fn : Tryz.prog.funcNamed "glideslope/glideslopelaw01.RecordFound" = some 4 := by kernel_rfl
theorem f_inst : Tryz.f4.isInstance Tryz.prog Rows.recordFoundRow.origin Rows.recordFoundRow.targs := of_decide_eq_true (by kernel_rfl)
theorem f_wrap : Tryz.f4.isWrapper Tryz.prog Rows.recordFoundRow.wrapper Rows.recordFoundRow.mainSum := by
  unfold Func.isWrapper; first | (rw [if_pos (by decide +kernel)]; kernel_rfl) | (rw [if_neg (by decide +kernel)]; exact ⟨rfl, rfl⟩)
theorem f_said : Rows.RecordFoundSaid :=
  OpenClaim.holds_of_wide (p := Tryz.pinned) 4 Tryz.f4 rfl rfl rfl rfl rfl rfl rfl ⟨rfl, rfl, rfl, rfl, rfl⟩ rfl rfl rfl rfl rfl f_fn Tryz.func4 f_closed f_inst f_wrap
    (fun os started H enc _ => f_lifted awake_ok os started H enc)
theorem f_wf : Rows.recordFoundRow.wfByText (OpenSpec.ofChange Rows.recordFoundSpec) = true := by kernel_rfl
theorem f_main : Tryz.pinned.checked.prog.mainIs = some (Rows.recordFoundCard.stood.harness.1, Rows.recordFoundCard.stood.harness.2.toList) := by kernel_rfl
theorem f_looks : false = Tryz.prog.looks [] := by kernel_rfl
theorem f_goes : false = Rows.recordFoundRow.goesBy Tryz.prog := by kernel_rfl
theorem recordFound_card : Rows.RecordFoundCardSaid :=
  Claim7.holds_tied_plain_at .later [] [.data, .data, .data, .data, .data, .pinned] true Rows.recordFoundCard.stood.harness false f_said (fun _ h => by cases h) f_wf (fun _ h => by cases h) recordFound_row_tie rfl ⟨rfl, rfl⟩ f_main rfl
    (fun f fn hf hfn => by
      obtain rfl : f = 4 := (Option.some.inj (f_fn.symm.trans hf)).symm
      obtain rfl : fn = Tryz.f4 := (Option.some.inj (Tryz.func4.symm.trans hfn)).symm
      exact ⟨f_looks, fun j t ht => by
        rw [Tryz.params4] at ht
        have hm : t ∈ [46, 47, 50] := by simpa using Array.mem_of_getElem? ht
        have hall : ([46, 47, 50].all fun u => !Tryz.prog.wantsStandIn u) = true := by kernel_rfl
        exact (show Tryz.prog.wantsStandIn t = false by simpa using List.all_eq_true.1 hall t hm)⟩)
    f_goes
#print axioms recordFound_card
end Go.Proofs.YtoclnlimnjnbkaaGreatDoor
