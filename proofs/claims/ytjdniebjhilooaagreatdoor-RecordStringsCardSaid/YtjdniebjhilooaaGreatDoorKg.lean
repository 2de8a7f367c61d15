/- RecordStrings: for every recording and every string the law returns true, and its arguments read as they did before. Conditions: the package-level variables that the row lists hold what the program's text lays (the card ties them to it). -/
import Derived.Test.YtjdniebjhilooaaGreatDoorM35
import Derived.Test.YtjdniebjhilooaaGreatDoorM37
import Derived.Test.YtjdniebjhilooaaGreatDoorM40
namespace Go.Proofs.YtjdniebjhilooaaGreatDoor
set_option linter.all false
open Go.RowKit Go.ChangeShapes Go.WideShapes Go.ChangeAt Go.Lib
set_option maxRecDepth 100000 in
theorem g_lifted (haw : AwakeOk) (os : Os) (started : os.Started) (H : Type) (enc : TypeId × Value → H) :
 ReturnsInHanded {} Tryz.checked os 3 .any (fun w args => (Rows.recordStringsSpec.pre enc Tryz.prog Tryz.f3 [] false w args ∧ laidMetH Tryz.prog Rows.recordStringsRow.laid w) ∧ sizedMet enc Tryz.prog Tryz.f3 (OpenSpec.ofChange Rows.recordStringsSpec) false w args)
  (Rows.recordStringsSpec.post enc Tryz.prog Tryz.f3 false true false false) := by
 refine returns_and_shaped (C := Tryz.checked) (X := fun w _ => laidMetH Tryz.prog Rows.recordStringsRow.laid w) (fun _ _ _ hh h => h.of_heap hh) own_knob started (by kernel_rfl) Tryz.func3
  (ChangeSpec.witness_shaped (enc := enc) (C := Tryz.checked) (os := os) (X := fun w _ => laidMetH Tryz.prog Rows.recordStringsRow.laid w) false (World.laidAll Tryz.prog os Rows.recordStringsRow.laid) #[.agg #[.int .i64 0, .int .i64 0, .slice none 0 0, .slice none 0 0], .string ⟨#[]⟩] 8 (World.laidAll_os _ _ _)
    (World.shaped_of_ZipB (by kernel_rfl) (by kernel_rfl)) (by kernel_rfl) (by kernel_rfl) (by kernel_rfl)
    (by rw [MakeChecks.laidMetH_plain _ _ _ (by kernel_rfl)]; exact laidMet_laidAll _ (by kernel_rfl) (by kernel_rfl))) ?_
 intro W base args ds gs before hval0 hW hL hsh
 have hval : ∀ (j : Nat) t v, Tryz.f3.params[j]? = some t → args[j]? = some v → Value.okWide Tryz.prog W .any base t v := hval0
 have hW' := hW
 obtain ⟨p, q, hA0, hV, rfl, _, _⟩ := hW
 have hA : DataW.TrodAll enc Tryz.prog W 0 (fun _ => true) true Tryz.f3.params.toList args.toList ds p := hA0
 obtain ⟨rfl, rfl⟩ := trodVars_none hV
 rw [MakeChecks.laidMetH_plain _ _ _ (by kernel_rfl)] at hL
 have hT := aw_of hL hsh
 rw [Tryz.params3] at hA hval
 obtain ⟨v0, v1, d0, d1, p0, p1, rfl, rfl, rfl, h0, h1⟩ := trodAll_two hA
 obtain ⟨st, sp, A, c, xs, B, d, ms, rfl, hR, hlc, hca, hm, hRB, hmb⟩ := open_rec (hval 0 _ _ rfl rfl) h0
 obtain ⟨s, rfl⟩ := ok_str Tryz.underlying9 (hval 1 _ _ rfl rfl)
 refine (recordStrings_ok haw st sp A B c d xs ms s W hT hR hRB hlc hca (by unfold maxLen at hm; omega) (by unfold maxLen at hmb; omega)).mono fun e W' ⟨he, hb⟩ => ?_
 subst he
 refine ⟨_, rfl, law_shut hW' rfl (by kernel_rfl) rfl ?_ hb⟩
 rw [Tryz.params3]
 intro t ht
 have hm : t ∈ [25, 9] := ht
 have hall : ([25, 9].all fun u => Tryz.prog.readableRec u && decide (u < Tryz.prog.types.size)) = true := by kernel_rfl
 simpa using List.all_eq_true.1 hall t hm
theorem g_in : Rows.recordStringsRow.inPlace = Tryz.prog.inPlace 3 := by kernel_rfl
theorem g_un : Rows.recordStringsRow.unfollowed = Tryz.prog.unfollowed 3 := by kernel_rfl
theorem g_re : Rows.recordStringsRow.recurses = Tryz.prog.recurses 3 := by kernel_rfl
theorem g_na : Rows.recordStringsRow.named = Tryz.prog.varsNamed 3 := by kernel_rfl
set_option maxRecDepth 100000 in
theorem g_closed : joinedFacts Tryz.prog 3 Tryz.f3 Rows.recordStringsSpec Rows.recordStringsRow = true := by
 unfold joinedFacts
 rw [← g_in, ← g_un, ← g_re, ← g_na]
 kernel_rfl
theorem g_fn : Tryz.prog.funcNamed "glideslope/glideslopelaw01.RecordStrings" = some 3 := by kernel_rfl
theorem g_inst : Tryz.f3.isInstance Tryz.prog Rows.recordStringsRow.origin Rows.recordStringsRow.targs := of_decide_eq_true (by kernel_rfl)
theorem g_wrap : Tryz.f3.isWrapper Tryz.prog Rows.recordStringsRow.wrapper Rows.recordStringsRow.mainSum := by
 unfold Func.isWrapper; first | (rw [if_pos (by decide +kernel)]; kernel_rfl) | (rw [if_neg (by decide +kernel)]; exact ⟨rfl, rfl⟩)
theorem g_said : Rows.RecordStringsSaid :=
 OpenClaim.holds_of_wide (p := Tryz.pinned) 3 Tryz.f3 rfl rfl rfl rfl rfl rfl rfl ⟨rfl, rfl, rfl, rfl, rfl⟩ rfl rfl rfl rfl rfl g_fn Tryz.func3 g_closed g_inst g_wrap
  (fun os started H enc _ => g_lifted awake_ok os started H enc)
theorem g_wf : Rows.recordStringsRow.wfByText (OpenSpec.ofChange Rows.recordStringsSpec) = true := by kernel_rfl
theorem g_main : Tryz.pinned.checked.prog.mainIs = some (Rows.recordStringsCard.stood.harness.1, Rows.recordStringsCard.stood.harness.2.toList) := by kernel_rfl
theorem g_looks : false = Tryz.prog.looks [] := by kernel_rfl
theorem g_goes : false = Rows.recordStringsRow.goesBy Tryz.prog := by kernel_rfl
theorem recordStrings_card : Rows.RecordStringsCardSaid :=
 Claim7.holds_tied_plain_at .later [] [.data, .data, .data, .data, .data, .pinned] true Rows.recordStringsCard.stood.harness false g_said (fun _ h => by cases h) g_wf (fun _ h => by cases h) recordStrings_row_tie rfl ⟨rfl, rfl⟩ g_main rfl
  (fun f fn hf hfn => by
    obtain rfl : f = 3 := (Option.some.inj (g_fn.symm.trans hf)).symm
    obtain rfl : fn = Tryz.f3 := (Option.some.inj (Tryz.func3.symm.trans hfn)).symm
    exact ⟨g_looks, fun j t ht => by
     rw [Tryz.params3] at ht
     have hm : t ∈ [25, 9] := by simpa using Array.mem_of_getElem? ht
     have hall : ([25, 9].all fun u => !Tryz.prog.wantsStandIn u) = true := by kernel_rfl
     exact (show Tryz.prog.wantsStandIn t = false by simpa using List.all_eq_true.1 hall t hm)⟩)
  g_goes
#print axioms recordStrings_card
end Go.Proofs.YtjdniebjhilooaaGreatDoor
