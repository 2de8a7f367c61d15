/- RecordKeys: for every string, every list of float32 and every number the law returns true, and its arguments read as they did before. Conditions: the package-level variables that the row lists hold what the program's text lays (the card ties them to it). -/
import Derived.Test.YtdglifjhkjdogaaGreatDoorZ9
import Derived.Test.YtdglifjhkjdogaaGreatDoorM33
import Derived.Test.YtdglifjhkjdogaaGreatDoorM36

namespace Go.Proofs.YtdglifjhkjdogaaGreatDoor
set_option linter.all false
open Go.RowKit Go.ChangeShapes Go.WideShapes Go.ChangeAt Go.Lib
set_option linter.unusedVariables false

set_option maxRecDepth 100000 in
theorem i_lifted (haw : AwakeOk) (os : Os) (started : os.Started) (H : Type) (enc : TypeId × Value → H) :
    ReturnsInHanded {} Tryz.checked os 4 .any (fun w args => (Rows.recordKeysSpec.pre enc Tryz.prog Tryz.f4 [] false w args ∧ laidMetH Tryz.prog Rows.recordKeysRow.laid w) ∧ sizedMet enc Tryz.prog Tryz.f4 (OpenSpec.ofChange Rows.recordKeysSpec) false w args)
      (Rows.recordKeysSpec.post enc Tryz.prog Tryz.f4 false true false false) := by
  refine returns_and_shaped (C := Tryz.checked) (X := fun w _ => laidMetH Tryz.prog Rows.recordKeysRow.laid w) (fun _ _ _ hh h => h.of_heap hh) own_knob started (by kernel_rfl) Tryz.func4
    (ChangeSpec.witness_shaped (enc := enc) (C := Tryz.checked) (os := os) (X := fun w _ => laidMetH Tryz.prog Rows.recordKeysRow.laid w) false (World.laidAll Tryz.prog os Rows.recordKeysRow.laid) #[.string ⟨#[]⟩, .slice none 0 0, .int .i64 0] 8 (World.laidAll_os _ _ _)
      (World.shaped_of_ZipB (by kernel_rfl) (by kernel_rfl)) (by kernel_rfl) (by kernel_rfl) (by kernel_rfl)
      (by rw [MakeChecks.laidMetH_plain _ _ _ (by kernel_rfl)]; exact laidMet_laidAll _ (by kernel_rfl) (by kernel_rfl))) ?_
  intro W base args ds gs before hval0 hW hL hsh
  have hval : ∀ (j : Nat) t v, Tryz.f4.params[j]? = some t → args[j]? = some v → Value.okWide Tryz.prog W .any base t v := hval0
  have hW' := hW
  obtain ⟨p, q, hA0, hV, rfl, _, _⟩ := hW
  have hA : DataW.TrodAll enc Tryz.prog W 0 (fun _ => true) true Tryz.f4.params.toList args.toList ds p := hA0
  obtain ⟨rfl, rfl⟩ := trodVars_none hV
  rw [MakeChecks.laidMetH_plain _ _ _ (by kernel_rfl)] at hL
  have hT := aw_of hL hsh
  rw [Tryz.params4] at hA hval
  obtain ⟨v0, v1, v2, d0, d1, d2, p0, p1, p2, rfl, rfl, rfl, h0, h1, h2⟩ := trodAll_three hA
  obtain ⟨s, rfl⟩ := ok_str Tryz.underlying9 (hval 0 _ _ rfl rfl)
  obtain ⟨A, c, xs, rfl, hR, hlc, hca, hm⟩ := open_flts Tryz.underlying22 Tryz.underlying76 (by kernel_rfl) (hval 1 _ _ rfl rfl) h1
  obtain ⟨d, rfl, _⟩ := ok_int Tryz.underlying3 (hval 2 _ _ rfl rfl)
  refine (recordKeys_ok haw s A c xs d W hT hR (by unfold maxLen at hm; omega) hlc hca).mono fun e W' ⟨he, hb⟩ => ?_
  subst he
  refine ⟨_, rfl, law_shut hW' rfl (by kernel_rfl) rfl ?_ hb⟩
  rw [Tryz.params4]
  intro t ht
  have hm : t ∈ [9, 22, 3] := ht
  have hall : ([9, 22, 3].all fun u => Tryz.prog.readableRec u && decide (u < Tryz.prog.types.size)) = true := by kernel_rfl
  simpa using List.all_eq_true.1 hall t hm

theorem i_in : Rows.recordKeysRow.inPlace = Tryz.prog.inPlace 4 := by kernel_rfl
theorem i_un : Rows.recordKeysRow.unfollowed = Tryz.prog.unfollowed 4 := by kernel_rfl
theorem i_re : Rows.recordKeysRow.recurses = Tryz.prog.recurses 4 := by kernel_rfl
theorem i_na : Rows.recordKeysRow.named = Tryz.prog.varsNamed 4 := by kernel_rfl
set_option maxRecDepth 100000 in
theorem i_closed : joinedFacts Tryz.prog 4 Tryz.f4 Rows.recordKeysSpec Rows.recordKeysRow = true := by
  unfold joinedFacts
  rw [← i_in, ← i_un, ← i_re, ← i_na]
  kernel_rfl
theorem i_fn : Tryz.prog.funcNamed "glideslope/glideslopelaw01.RecordKeys" = some 4 := by kernel_rfl
theorem i_inst : Tryz.f4.isInstance Tryz.prog Rows.recordKeysRow.origin Rows.recordKeysRow.targs := of_decide_eq_true (by kernel_rfl)
theorem i_wrap : Tryz.f4.isWrapper Tryz.prog Rows.recordKeysRow.wrapper Rows.recordKeysRow.mainSum := by
  unfold Func.isWrapper; first | (rw [if_pos (by decide +kernel)]; kernel_rfl) | (rw [if_neg (by decide +kernel)]; exact ⟨rfl, rfl⟩)
theorem i_said : Rows.RecordKeysSaid :=
  OpenClaim.holds_of_wide (p := Tryz.pinned) 4 Tryz.f4 rfl rfl rfl rfl rfl rfl rfl ⟨rfl, rfl, rfl, rfl, rfl⟩ rfl rfl rfl rfl rfl i_fn Tryz.func4 i_closed i_inst i_wrap
    (fun os started H enc _ => i_lifted awake_ok os started H enc)
theorem i_wf : Rows.recordKeysRow.wfByText (OpenSpec.ofChange Rows.recordKeysSpec) = true := by kernel_rfl
theorem i_main : Tryz.pinned.checked.prog.mainIs = some (Rows.recordKeysCard.stood.harness.1, Rows.recordKeysCard.stood.harness.2.toList) := by kernel_rfl
theorem i_looks : false = Tryz.prog.looks [] := by kernel_rfl
theorem i_goes : false = Rows.recordKeysRow.goesBy Tryz.prog := by kernel_rfl
theorem recordKeys_card : Rows.RecordKeysCardSaid :=
  Claim7.holds_tied_plain_at .later [] [.data, .data, .data, .data, .data, .pinned] true Rows.recordKeysCard.stood.harness false i_said (fun _ h => by cases h) i_wf (fun _ h => by cases h) recordKeys_row_tie rfl ⟨rfl, rfl⟩ i_main rfl
    (fun f fn hf hfn => by
      obtain rfl : f = 4 := (Option.some.inj (i_fn.symm.trans hf)).symm
      obtain rfl : fn = Tryz.f4 := (Option.some.inj (Tryz.func4.symm.trans hfn)).symm
      exact ⟨i_looks, fun j t ht => by
        rw [Tryz.params4] at ht
        have hm : t ∈ [9, 22, 3] := by simpa using Array.mem_of_getElem? ht
        have hall : ([9, 22, 3].all fun u => !Tryz.prog.wantsStandIn u) = true := by kernel_rfl
        exact (show Tryz.prog.wantsStandIn t = false by simpa using List.all_eq_true.1 hall t hm)⟩)
    i_goes
#print axioms recordKeys_card
end Go.Proofs.YtdglifjhkjdogaaGreatDoor
