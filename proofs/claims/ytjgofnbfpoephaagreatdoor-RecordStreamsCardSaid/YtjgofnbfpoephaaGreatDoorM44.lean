/- The law of samples, walked. -/
import Derived.Test.YtjgofnbfpoephaaGreatDoorM43
namespace Go.Proofs.YtjgofnbfpoephaaGreatDoor
set_option linter.all false
open Go.RowKit Go.Fl
set_option linter.unusedVariables false
set_option linter.unusedSimpArgs false

def shortB (n : Nat) : Bool := decide (n ≤ 40) || decide (n = 4097)
theorem shortList_any (A : Option Addr) (n c : Nat) (w : World) (hn : n ≤ 9223372036854775807) :
    Calls Tryz.prog 23 #[.slice A n c] w fun e w' => e = .returned (.bool (shortB n)) ∧ Below w.heap.size w w' := by
  by_cases h1 : n ≤ 40
  · have HS : Hid (shortB n = true) := by unfold Hid shortB; rw [decide_eq_true h1]; rfl
    go_enter Tryz.func23, Tryz.ntmps23
    go_wp2
    all_goals go_ret
    all_goals exact ⟨by rw [HS.out]; rfl, Below.refl _ _⟩
  · by_cases h2 : n = 4097
    · have HS : Hid (shortB n = true) := by unfold Hid shortB; rw [decide_eq_true h2, Bool.or_true]
      subst h2
      go_enter Tryz.func23, Tryz.ntmps23
      go_wp2
      all_goals go_ret
      all_goals exact ⟨by rw [HS.out]; rfl, Below.refl _ _⟩
    · have HS : Hid (shortB n = false) := by unfold Hid shortB; rw [decide_eq_false h1, decide_eq_false h2]; rfl
      have h3 : decide ((n : Int) ≤ 40) = false := decide_eq_false (by omega)
      have h4 : ((n : Int) == 4097) = false := by rw [beq_eq_false_iff_ne]; omega
      go_enter Tryz.func23, Tryz.ntmps23
      go_wp2
      all_goals go_ret
      all_goals exact ⟨by rw [HS.out]; rfl, Below.refl _ _⟩

set_option maxRecDepth 100000 in
set_option maxHeartbeats 4000000 in
theorem recordSamples_ok (haw : AwakeOk) (x : Nat) (A : Option Addr) (c : Nat) (xs : List Nat) (w : World) (hA : Rd w A (flts xs)) (hlc : xs.length ≤ c) (hc : A = none → c = 0) (hm : xs.length ≤ 9223372036854775807) (h : Aw w) :
    Calls Tryz.prog 4 #[.float .f32 x, .slice A xs.length c] w fun e w' => e = .returned (.bool true) ∧ Below w.heap.size w w' := by
  have HA0 := Lib.hid h
  have HR0 := Lib.hid hA
  have HB0 := Lib.hid (Below.refl w.heap.size w)
  have HSL := Lib.hid (fun W => shortList_any A xs.length c W hm)
  clear h hA
  cases hs : shortB xs.length with
  | false =>
    rw [hs] at HSL
    go_enter Tryz.func4, Tryz.ntmps4
    go_wp2_with fail
    refine (HSL.out _).mono ?_
    rintro e w1 ⟨rfl, hb⟩
    have HA1 := Lib.hid (HA0.out.old hb)
    have HR1 := Lib.hid (HR0.out.below hb)
    have HB1 := Lib.hid (HB0.out.trans (hb.mono HB0.out.size))
    clear hb HA0 HR0 HB0
    go_wp2_with fail
    refine (haw _ HA1.out).mono ?_
    rintro e w2 ⟨rfl, hb⟩
    have HB2 := Lib.hid (HB1.out.trans (hb.mono HB1.out.size))
    clear hb
    go_wp2
    go_ret
    exact ⟨rfl, HB2.out⟩
  | true =>
    have hlen : xs.length ≤ 4097 := by simp [shortB] at hs; omega
    rw [hs] at HSL
    go_enter Tryz.func4, Tryz.ntmps4
    go_wp2_with fail
    refine (HSL.out _).mono ?_
    rintro e w1 ⟨rfl, hb⟩
    have HA1 := Lib.hid (HA0.out.old hb)
    have HR1 := Lib.hid (HR0.out.below hb)
    have HB1 := Lib.hid (HB0.out.trans (hb.mono HB0.out.size))
    clear hb HA0 HR0 HB0
    go_wp2_with fail
    refine (checkSample_any x _).mono ?_
    rintro e w2 ⟨rfl, hb⟩
    have HA2 := Lib.hid (HA1.out.old hb)
    have HR2 := Lib.hid (HR1.out.below hb)
    have HB2 := Lib.hid (HB1.out.trans (hb.mono HB1.out.size))
    clear hb HA1 HR1 HB1
    go_wp2_with fail
    refine (checkSampleR_any x _).mono ?_
    rintro e w3 ⟨rfl, k3, rfl⟩
    have hb := below_dn w2.heap.size w2 k3
    have HA3 := Lib.hid (HA2.out.old hb)
    have HR3 := Lib.hid (HR2.out.below hb)
    have HB3 := Lib.hid (HB2.out.trans (hb.mono HB2.out.size))
    clear hb HA2 HR2 HB2
    go_wp2_with fail
    refine (floats_any A xs.length c xs _ HR3.out rfl hc (by omega)).mono ?_
    rintro e w4 ⟨v, rfl, ho, hb⟩
    obtain ⟨B, d, rfl, hB⟩ := owned_slice ho
    have HC4 := Lib.hid hB
    clear ho hB
    have HA4 := Lib.hid (HA3.out.old hb)
    have HR4 := Lib.hid (HR3.out.below hb)
    have HB4 := Lib.hid (HB3.out.trans (hb.mono HB3.out.size))
    clear hb HA3 HR3 HB3
    go_wp2_with fail
    refine (checkSamples_any B xs.length d xs _ HC4.out rfl).mono ?_
    rintro e w5 ⟨rfl, hb⟩
    have HA5 := Lib.hid (HA4.out.old hb)
    have HR5 := Lib.hid (HR4.out.below hb)
    have HB5 := Lib.hid (HB4.out.trans (hb.mono HB4.out.size))
    clear hb HA4 HR4 HB4
    go_wp2_with fail
    refine (checkSamplesR_any A xs.length c xs _ HR5.out rfl hlc hm).mono ?_
    rintro e w6 ⟨rfl, hb⟩
    have HA6 := Lib.hid (HA5.out.old hb)
    have HR6 := Lib.hid (HR5.out.below hb)
    have HB6 := Lib.hid (HB5.out.trans (hb.mono HB5.out.size))
    clear hb HA5 HR5 HB5
    go_wp2_with fail
    refine (haw _ HA6.out).mono ?_
    rintro e w7 ⟨rfl, hb⟩
    have HB7 := Lib.hid (HB6.out.trans (hb.mono HB6.out.size))
    clear hb
    go_wp2
    go_ret
    exact ⟨rfl, HB7.out⟩
end Go.Proofs.YtjgofnbfpoephaaGreatDoor
