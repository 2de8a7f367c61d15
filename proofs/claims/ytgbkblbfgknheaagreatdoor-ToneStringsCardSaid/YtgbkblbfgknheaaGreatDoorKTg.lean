/- ToneStrings: for every list of signals and every string the law returns true, and its arguments read as they did before. Conditions: the package-level variables that the row lists hold what the program's text lays (the card ties them to it). -/
import Derived.Test.YtgbkblbfgknheaaGreatDoorM46
namespace Go.Proofs.YtgbkblbfgknheaaGreatDoor
set_option linter.all false
open Go.RowKit Go.ChangeShapes Go.WideShapes Go.ChangeAt Go.Lib
set_option maxRecDepth 100000 in
theorem Tg_lifted (os : Os) (started : os.Started) (H : Type) (enc : TypeId × Value → H) :
 ReturnsInHanded {} Tryz.checked os 3 .any (fun w args => (Rows.toneStringsSpec.pre enc Tryz.prog Tryz.f3 [] false w args ∧ laidMetH Tryz.prog Rows.toneStringsRow.laid w) ∧ sizedMet enc Tryz.prog Tryz.f3 (OpenSpec.ofChange Rows.toneStringsSpec) false w args)
  (Rows.toneStringsSpec.post enc Tryz.prog Tryz.f3 false true false false) := by
 refine returns_and_shaped (C := Tryz.checked) (X := fun w _ => laidMetH Tryz.prog Rows.toneStringsRow.laid w) (fun _ _ _ hh h => h.of_heap hh) own_knob started (by kernel_rfl) Tryz.func3
  (ChangeSpec.witness_shaped (enc := enc) (C := Tryz.checked) (os := os) (X := fun w _ => laidMetH Tryz.prog Rows.toneStringsRow.laid w) false (World.laidAll Tryz.prog os Rows.toneStringsRow.laid) #[.slice none 0 0, .string ⟨#[]⟩] 8 (World.laidAll_os _ _ _)
    (World.shaped_of_ZipB (by kernel_rfl) (by kernel_rfl)) (by kernel_rfl) (by kernel_rfl) (by kernel_rfl)
    (by rw [MakeChecks.laidMetH_plain _ _ _ (by kernel_rfl)]; exact laidMet_laidAll _ (by kernel_rfl) (by kernel_rfl))) ?_
 intro W base args ds gs before hval0 hW hL hsh
 have hval : ∀ (j : Nat) t v, Tryz.f3.params[j]? = some t → args[j]? = some v → Value.okWide Tryz.prog W .any base t v := hval0
 have hW' := hW
 obtain ⟨p, q, hA0, hV, rfl, _, _⟩ := hW
 have hA : DataW.TrodAll enc Tryz.prog W 0 (fun _ => true) true Tryz.f3.params.toList args.toList ds p := hA0
 obtain ⟨rfl, rfl⟩ := trodVars_none hV
 rw [MakeChecks.laidMetH_plain _ _ _ (by kernel_rfl)] at hL
 have hT := awT_of hL hsh
 rw [Tryz.params3] at hA hval
 obtain ⟨v0, v1, d0, d1, p0, p1, rfl, rfl, rfl, h0, h1⟩ := trodAll_two hA
 obtain ⟨AL, cL, L, rfl, hRL, _, _, _⟩ := open_sgs (hval 0 _ _ rfl rfl) h0
 obtain ⟨s, rfl⟩ := ok_str Tryz.underlying9 (hval 1 _ _ rfl rfl)
 refine (toneStrings_any AL cL L s W hT hRL).mono fun e W' ⟨he, hb⟩ => ?_
 subst he
 refine ⟨_, rfl, law_shut hW' rfl (by kernel_rfl) rfl ?_ hb⟩
 rw [Tryz.params3]
 intro t ht
 have hm : t ∈ [22, 9] := ht
 have hall : ([22, 9].all fun u => Tryz.prog.readableRec u && decide (u < Tryz.prog.types.size)) = true := by kernel_rfl
 simpa using List.all_eq_true.1 hall t hm
theorem Tg_in : Rows.toneStringsRow.inPlace = Tryz.prog.inPlace 3 := by kernel_rfl
theorem Tg_un : Rows.toneStringsRow.unfollowed = Tryz.prog.unfollowed 3 := by kernel_rfl
theorem Tg_re : Rows.toneStringsRow.recurses = Tryz.prog.recurses 3 := by kernel_rfl
theorem Tg_na : Rows.toneStringsRow.named = Tryz.prog.varsNamed 3 := by kernel_rfl
set_option maxRecDepth 100000 in
theorem Tg_closed : joinedFacts Tryz.prog 3 Tryz.f3 Rows.toneStringsSpec Rows.toneStringsRow = true := by
 unfold joinedFacts
 rw [← Tg_in, ← Tg_un, ← Tg_re, ← Tg_na]
 kernel_rfl
theorem Tg_fn : Tryz.prog.funcNamed "glideslope/glideslopelaw02.ToneStrings" = some 3 := by kernel_rfl
theorem Tg_inst : Tryz.f3.isInstance Tryz.prog Rows.toneStringsRow.origin Rows.toneStringsRow.targs := of_decide_eq_true (by kernel_rfl)
theorem Tg_wrap : Tryz.f3.isWrapper Tryz.prog Rows.toneStringsRow.wrapper Rows.toneStringsRow.mainSum := by
 unfold Func.isWrapper; first | (rw [if_pos (by decide +kernel)]; kernel_rfl) | (rw [if_neg (by decide +kernel)]; exact ⟨rfl, rfl⟩)
theorem Tg_said : Rows.ToneStringsSaid :=
 OpenClaim.holds_of_wide (p := Tryz.pinned) 3 Tryz.f3 rfl rfl rfl rfl rfl rfl rfl ⟨rfl, rfl, rfl, rfl, rfl⟩ rfl rfl rfl rfl rfl Tg_fn Tryz.func3 Tg_closed Tg_inst Tg_wrap
  (fun os started H enc _ => Tg_lifted os started H enc)
theorem Tg_wf : Rows.toneStringsRow.wfByText (OpenSpec.ofChange Rows.toneStringsSpec) = true := by kernel_rfl
theorem Tg_main : Tryz.pinned.checked.prog.mainIs = some (Rows.toneStringsCard.stood.harness.1, Rows.toneStringsCard.stood.harness.2.toList) := by kernel_rfl
theorem Tg_looks : false = Tryz.prog.looks [] := by kernel_rfl
theorem Tg_goes : false = Rows.toneStringsRow.goesBy Tryz.prog := by kernel_rfl
theorem toneStrings_card : Rows.ToneStringsCardSaid :=
 Claim7.holds_tied_plain_at .later [] [.data, .data, .data, .data, .data, .pinned] true Rows.toneStringsCard.stood.harness false Tg_said (fun _ h => by cases h) Tg_wf (fun _ h => by cases h) toneStrings_row_tie rfl ⟨rfl, rfl⟩ Tg_main rfl
  (fun f fn hf hfn => by
    obtain rfl : f = 3 := (Option.some.inj (Tg_fn.symm.trans hf)).symm
    obtain rfl : fn = Tryz.f3 := (Option.some.inj (Tryz.func3.symm.trans hfn)).symm
    exact ⟨Tg_looks, fun j t ht => by
     rw [Tryz.params3] at ht
     have hm : t ∈ [22, 9] := by simpa using Array.mem_of_getElem? ht
     have hall : ([22, 9].all fun u => !Tryz.prog.wantsStandIn u) = true := by kernel_rfl
     exact (show Tryz.prog.wantsStandIn t = false by simpa using List.all_eq_true.1 hall t hm)⟩)
  Tg_goes
#print axioms toneStrings_card
end Go.Proofs.YtgbkblbfgknheaaGreatDoor
