import Derived.Test.YtdglifjhkjdogaaGreatDoorM28
import Derived.Test.YtdglifjhkjdogaaGreatDoorM08
import Derived.Test.YtdglifjhkjdogaaGreatDoorZ1
/- The law of identifications, walked. -/
namespace Go.Proofs.YtdglifjhkjdogaaGreatDoor
set_option linter.all false
open Go.RowKit Go.Fl
set_option linter.unusedVariables false
set_option linter.unusedSimpArgs false

def KeS (w : World) (A : Option Addr) (xs : List Nat) (W : World) : Prop := Rd W A (flts xs) ∧ Aw W ∧ Below w.heap.size w W
theorem KeS.keep {w W W' : World} {A : Option Addr} {xs : List Nat} (h : KeS w A xs W) (hb : Below W.heap.size W W') : KeS w A xs W' :=
  ⟨h.1.below hb, h.2.1.old hb, h.2.2.trans (hb.mono h.2.2.size)⟩
theorem rd_strs0 (W : World) (A : Option Addr) : Rd W A (strs []) := fun j v h => by simp [strs] at h
theorem rd_flts0 (W : World) (A : Option Addr) : Rd W A (flts []) := fun j v h => by simp [flts] at h

set_option maxRecDepth 100000 in
set_option maxHeartbeats 1000000 in
theorem keys_far1 (haw : AwakeOk) (s : ByteArray) (A : Option Addr) (c : Nat) (xs : List Nat) (d : Int) (w : World) (haW : Aw w) (hA : Rd w A (flts xs)) (hx : xs.length ≤ 9223372036854775807) (hl : 40 < s.size) : Calls Tryz.prog 4 #[.string s, .slice A xs.length c, .int .i64 d] w fun e w' => e = .returned (.bool true) ∧ Below w.heap.size w w' := by
  have HS0 : Hid (KeS w A xs w) := ⟨hA, haW, Below.refl _ _⟩
  clear haW hA
  go_enter Tryz.func4, Tryz.ntmps4
  go_upto_region 1 with fail
  refine genR (KeS w A xs) HS0.out ?_
  clear HS0
  intro W1 s1
  have HS1 := Lib.hid s1
  clear s1
  go_wp2_with (go_at_call 9; refine (haw _ HS1.out.2.1).mono ?_; rintro e w5 ⟨rfl, hb5⟩; have HS4 := Lib.hid (HS1.out.keep hb5); clear hb5)
  go_ret
  exact ⟨rfl, HS4.out.2.2⟩

set_option maxRecDepth 100000 in
set_option maxHeartbeats 1000000 in
theorem keys_far2 (haw : AwakeOk) (s : ByteArray) (A : Option Addr) (c : Nat) (xs : List Nat) (d : Int) (w : World) (haW : Aw w) (hA : Rd w A (flts xs)) (hx : xs.length ≤ 9223372036854775807) (hl : ¬ 40 < s.size) (hs : shortB xs.length = false) (h4 : ¬ xs.length = 400) : Calls Tryz.prog 4 #[.string s, .slice A xs.length c, .int .i64 d] w fun e w' => e = .returned (.bool true) ∧ Below w.heap.size w w' := by
  have HS0 : Hid (KeS w A xs w) := ⟨hA, haW, Below.refl _ _⟩
  have Hxs : Hid (∀ (A : Option Addr) (c : Nat) W, Calls Tryz.prog 8 #[.slice A xs.length c] W fun e w' => e = .returned (.bool false) ∧ Below W.heap.size W w') := fun A c W => by have k := shortList_any A xs.length c W (by omega); rw [hs] at k; exact k
  have hb4 : ((xs.length : Int) != 400) = true := by rw [bne_iff_ne]; omega
  clear haW hA hs h4
  go_enter Tryz.func4, Tryz.ntmps4
  go_upto_region 1 with fail
  refine genR (KeS w A xs) HS0.out ?_
  clear HS0
  intro W1 s1
  have HS1 := Lib.hid s1
  clear s1
  go_wp2_with (first | (go_at_call 8; refine (Hxs.out _ _ _).mono ?_; rintro e w1 ⟨rfl, hb1⟩; have HS2 := Lib.hid (HS1.out.keep hb1); clear hb1) | (go_at_call 9; refine (haw _ HS2.out.2.1).mono ?_; rintro e w5 ⟨rfl, hb5⟩; have HS4 := Lib.hid (HS2.out.keep hb5); clear hb5))
  go_ret
  exact ⟨rfl, HS4.out.2.2⟩

set_option maxRecDepth 100000 in
set_option maxHeartbeats 2000000 in
theorem keys_walk (haw : AwakeOk) (s : ByteArray) (A : Option Addr) (c : Nat) (xs : List Nat) (d : Int) (w : World) (haW : Aw w) (hA : Rd w A (flts xs)) (hx : xs.length ≤ 9223372036854775807) (hl : ¬ 40 < s.size) (hsl : shortB xs.length = true ∨ xs.length = 400) (ONE TWO HE E1 E2 E3 : Int) (ks : List Nat) (ws : List ByteArray)
    (hKey : ∀ W, Aw W → Calls Tryz.prog 17 #[.string s, .int .i64 d] W fun e w' => ∃ KA kc, e = .returned (.tuple #[.slice KA ks.length kc, .int .i64 ONE]) ∧ Rd w' KA (flts ks) ∧ Below W.heap.size W w')
    (hF : ∀ W, Rd W A (flts xs) → Calls Tryz.prog 11 #[.slice A xs.length c] W fun e w' => ∃ GA gc, e = .returned (.slice GA xs.length gc) ∧ Rd w' GA (flts xs) ∧ Below W.heap.size W w')
    (hHe : ∀ W GA gc, Aw W → Rd W GA (flts xs) → Calls Tryz.prog 18 #[.slice GA xs.length gc, .int .i64 d] W fun e w' => ∃ HA hc, e = .returned (.tuple #[.slice HA ws.length hc, .int .i64 HE]) ∧ Rd w' HA (strs ws) ∧ Below W.heap.size W w')
    (hC1 : ∀ W, Calls Tryz.prog 19 #[.string s] W fun e w' => e = .returned (.int .i64 E1) ∧ Below W.heap.size W w')
    (hC2 : ∀ W, Calls Tryz.prog 20 #[.int .i64 d] W fun e w' => e = .returned (.int .i64 E2) ∧ Below W.heap.size W w')
    (hC3 : ∀ W, Rd W A (flts xs) → Calls Tryz.prog 13 #[.slice A xs.length c] W fun e w' => e = .returned (.int .i64 E3) ∧ Below W.heap.size W w')
    (hOne : firstI [E1, E2] = ONE) (hTwo : firstI [E3, E2] = TWO)
    (hRK : ONE = 0 → ∀ W, Calls Tryz.prog 21 #[.string s, .int .i64 d] W fun e w' => ∃ QA qc, e = .returned (.slice QA ks.length qc) ∧ Rd w' QA (flts ks) ∧ Below W.heap.size W w')
    (hNK : ONE ≠ 0 → ks = [])
    (hRH : TWO = 0 → ∀ W, Rd W A (flts xs) → Calls Tryz.prog 22 #[.slice A xs.length c, .int .i64 d] W fun e w' => ∃ QA qc, e = .returned (.tuple #[.slice QA ws.length qc, .int .i64 HE]) ∧ Rd w' QA (strs ws) ∧ Below W.heap.size W w')
    (hNH : TWO ≠ 0 → ws = [] ∧ HE = TWO)
    (hsf : sameF ks ks = true) (hks : ks.length ≤ 1000000) (hws : ws.length ≤ 1000000) :
    Calls Tryz.prog 4 #[.string s, .slice A xs.length c, .int .i64 d] w fun e w' => e = .returned (.bool true) ∧ Below w.heap.size w w' := by
  have HS0 : Hid (KeS w A xs w) := ⟨hA, haW, Below.refl _ _⟩
  have HSL := Lib.hid hsl
  have HKEY := Lib.hid hKey; have HF := Lib.hid hF; have HHE := Lib.hid hHe; have HC1 := Lib.hid hC1; have HC2 := Lib.hid hC2; have HC3 := Lib.hid hC3; have HONE := Lib.hid hOne; have HTWO := Lib.hid hTwo; have HRK := Lib.hid hRK; have HNK := Lib.hid hNK; have HRH := Lib.hid hRH; have HNH := Lib.hid hNH; have HSF := Lib.hid hsf; have HKL := Lib.hid hks; have HWL := Lib.hid hws
  clear haW hA hsl hKey hF hHe hC1 hC2 hC3 hOne hTwo hRK hNK hRH hNH hsf hks hws
  go_enter Tryz.func4, Tryz.ntmps4
  go_upto_region 1 with fail
  refine genR (KeS w A xs) HS0.out ?_
  clear HS0
  intro W1 s1
  have HS1 := Lib.hid s1
  clear s1
  go_cut [27] from 15 to 27 (fun s27 wx => s27 = .bool false ∧ KeS w A xs wx)
  case first =>
    clear HKEY HF HHE HC1 HC2 HC3 HONE HTWO HRK HNK HRH HNH HSF HKL HWL
    have hl40 : decide ((40 : Int) < (s.size : Int)) = false := decide_eq_false (by omega)
    cases hs : shortB xs.length
    · have h4 : ((xs.length : Int) != 400) = false := by
        rcases HSL.out with h | h
        · rw [h] at hs; cases hs
        · rw [h]; rfl
      have Hxs : Hid (∀ (A : Option Addr) (c : Nat) W, Calls Tryz.prog 8 #[.slice A xs.length c] W fun e w' => e = .returned (.bool false) ∧ Below W.heap.size W w') := fun A c W => by have k := shortList_any A xs.length c W (by omega); rw [hs] at k; exact k
      clear hs HSL
      go_wp2_with (first | (go_at_call 8; refine (Hxs.out _ _ _).mono ?_; rintro e w1 ⟨rfl, hb1⟩; have HS2 := Lib.hid (HS1.out.keep hb1); clear hb1))
      go_meet
      exact ⟨rfl, HS2.out⟩
    · skip
      have Hxs : Hid (∀ (A : Option Addr) (c : Nat) W, Calls Tryz.prog 8 #[.slice A xs.length c] W fun e w' => e = .returned (.bool true) ∧ Below W.heap.size W w') := fun A c W => by have k := shortList_any A xs.length c W (by omega); rw [hs] at k; exact k
      clear hs HSL
      go_wp2_with (first | (go_at_call 8; refine (Hxs.out _ _ _).mono ?_; rintro e w1 ⟨rfl, hb1⟩; have HS2 := Lib.hid (HS1.out.keep hb1); clear hb1))
      go_meet
      exact ⟨rfl, HS2.out⟩
  case rest =>
  obtain ⟨rfl, s2⟩ := hcut
  have HS2 := Lib.hid s2
  clear s2 HS1 HSL
  obtain ⟨W2, hW2⟩ : ∃ W2 : World, W2 = wc := ⟨_, rfl⟩
  subst hW2
  go_upto_if 55 with (first
    | (go_at_call 17; refine (HKEY.out _ HS2.out.2.1).mono ?_; rintro e w3 ⟨KA, kc, rfl, hka, hb3⟩; have HS3 := Lib.hid (HS2.out.keep hb3); have HKA := Lib.hid hka; clear hka hb3)
    | (go_at_call 11; refine (HF.out _ HS3.out.1).mono ?_; rintro e w4 ⟨GA, gc, rfl, hga, hb4⟩; have HS4 := Lib.hid (HS3.out.keep hb4); have HKA4 := Lib.hid (HKA.out.below hb4); have HGA := Lib.hid hga; clear hga hb4)
    | (go_at_call 18; refine (HHE.out _ _ _ HS4.out.2.1 HGA.out).mono ?_; rintro e w5 ⟨HA5, hc5, rfl, hha, hb5⟩; have HS5 := Lib.hid (HS4.out.keep hb5); have HKA5 := Lib.hid (HKA4.out.below hb5); have HHA := Lib.hid hha; clear hha hb5)
    | (go_at_call 19; refine (HC1.out _).mono ?_; rintro e w6 ⟨rfl, hb6⟩; have HS6 := Lib.hid (HS5.out.keep hb6); have HKA6 := Lib.hid (HKA5.out.below hb6); have HHA6 := Lib.hid (HHA.out.below hb6); clear hb6)
    | (have hz := HS8.out; clear hz; go_at_call 20; refine (HC2.out _).mono ?_; rintro e w9 ⟨rfl, hb9⟩; have HS9 := Lib.hid (HS8.out.keep hb9); have HKA9 := Lib.hid (HKA8.out.below hb9); have HHA9 := Lib.hid (HHA8.out.below hb9); clear hb9)
    | (go_at_call 20; refine (HC2.out _).mono ?_; rintro e w7 ⟨rfl, hb7⟩; have HS7 := Lib.hid ((HS6.out.keep hb7).keep ((Below.refl _ _).alloc (Nat.le_refl _) (.cells #[.int .i64 E1, .int .i64 E2] 3))); have HKA7 := Lib.hid ((HKA6.out.below hb7).below ((Below.refl _ _).alloc (Nat.le_refl _) (.cells #[.int .i64 E1, .int .i64 E2] 3))); have HHA7 := Lib.hid ((HHA6.out.below hb7).below ((Below.refl _ _).alloc (Nat.le_refl _) (.cells #[.int .i64 E1, .int .i64 E2] 3))); clear hb7)
    | (have hz := HS9.out; clear hz; go_at_call 12; refine (first_any _ _ _ [E3, E2] _ ?_ rfl (by simp)).mono ?_; exact Rd.new _ _ _ _ (by simp); rintro e w10 ⟨rfl, rfl⟩; rw [HTWO.out])
    | (go_at_call 12; refine (first_any _ _ _ [E1, E2] _ ?_ rfl (by simp)).mono ?_; exact Rd.new _ _ _ _ (by simp); rintro e w8 ⟨rfl, rfl⟩; rw [HONE.out])
    | (go_at_call 13; refine (HC3.out _ HS7.out.1).mono ?_; rintro e w8b ⟨rfl, hb8⟩; have HS8 := Lib.hid (HS7.out.keep hb8); have HKA8 := Lib.hid (HKA7.out.below hb8); have HHA8 := Lib.hid (HHA7.out.below hb8); clear hb8))
  have hbl := (Below.refl w9.heap.size w9).alloc (Nat.le_refl _) (.cells #[.int .i64 E3, .int .i64 E2] 3)
  refine genR (fun V => KeS w A xs V ∧ Rd V KA (flts ks) ∧ Rd V HA5 (strs ws)) ⟨HS9.out.keep hbl, HKA9.out.below hbl, HHA9.out.below hbl⟩ ?_
  clear hbl HS2 HS3 HS4 HS5 HS6 HS7 HS8 HS9 HKA HKA4 HKA5 HKA6 HKA7 HKA8 HKA9 HGA HHA HHA6 HHA7 HHA8 HHA9 HKEY HF HHE HC1 HC2 HC3 HONE HTWO
  rintro W10 ⟨s10, k10, h10⟩
  have HS := Lib.hid s10; have HK := Lib.hid k10; have HH := Lib.hid h10
  clear s10 k10 h10
  go_cut [13] from 55 to 58 (fun s13 wx => ∃ QA qc, s13 = .slice QA ks.length qc ∧ Rd wx QA (flts ks) ∧ Below W10.heap.size W10 wx)
  case first =>
    clear HRH HNH HSF HWL
    by_cases hE : ONE = 0
    · have HR2 := Lib.hid (HRK.out hE)
      have hE2 : (ONE == 0) = true := by simpa using hE
      clear HRK HNK hE
      go_wp2_with (go_at_call 21; refine (HR2.out _).mono ?_; rintro e w11 ⟨QA, qc, rfl, hqa, hb11⟩; have KQ := Lib.hid hqa; have KB := Lib.hid hb11; clear hqa hb11)
      go_meet
      exact ⟨QA, qc, rfl, KQ.out, KB.out⟩
    · have hE2 : (ONE == 0) = false := by simpa using hE
      have h0 := HNK.out hE
      subst h0
      clear HRK HNK hE
      go_wp2_with fail
      go_meet
      exact ⟨none, 0, rfl, rd_flts0 _ _, Below.refl _ _⟩
  case rest =>
  obtain ⟨QA, qc, rfl, hqa, hb⟩ := hcut
  have HS11 := Lib.hid (HS.out.keep hb); have HK11 := Lib.hid (HK.out.below hb); have HH11 := Lib.hid (HH.out.below hb); have HQ11 := Lib.hid hqa
  clear hqa hb HS HK HH HRK HNK
  obtain ⟨W11, hW11⟩ : ∃ W11 : World, W11 = wc := ⟨_, rfl⟩
  subst hW11
  go_upto_if 60 with fail
  go_cut [12, 14] from 60 to 66 (fun s12 s14 wx => ∃ VA vc, s12 = .int .i64 HE ∧ s14 = .slice VA ws.length vc ∧ Rd wx VA (strs ws) ∧ Below W11.heap.size W11 wx)
  case first =>
    clear HSF
    by_cases hE : TWO = 0
    · have HR2 := Lib.hid (HRH.out hE)
      have hE2 : (TWO == 0) = true := by simpa using hE
      clear HRH HNH hE
      go_wp2_with (go_at_call 22; refine (HR2.out _ HS11.out.1).mono ?_; rintro e w12 ⟨VA, vc, rfl, hva, hb12⟩; have KV := Lib.hid hva; have KB := Lib.hid hb12; clear hva hb12)
      go_meet
      exact ⟨VA, vc, rfl, rfl, KV.out, KB.out⟩
    · have hE2 : (TWO == 0) = false := by simpa using hE
      obtain ⟨h0, h1⟩ := HNH.out hE
      subst h0 h1
      clear HRH HNH hE
      go_wp2_with fail
      go_meet
      exact ⟨none, 0, rfl, rfl, rd_strs0 _ _, Below.refl _ _⟩
  case rest =>
  obtain ⟨VA, vc, rfl, rfl, hva, hb⟩ := hcut
  have HS12 := Lib.hid (HS11.out.keep hb); have HK12 := Lib.hid (HK11.out.below hb); have HH12 := Lib.hid (HH11.out.below hb); have HQ12 := Lib.hid (HQ11.out.below hb); have HV12 := Lib.hid hva
  clear hva hb HS11 HK11 HH11 HQ11 HRH HNH
  obtain ⟨W12, hW12⟩ : ∃ W12 : World, W12 = wc := ⟨_, rfl⟩
  subst hW12
  go_wp2_with (first
    | (go_at_call 23; refine (sameSamples_any KA QA _ _ _ _ ks ks _ HK12.out HQ12.out rfl rfl (by have := HKL.out; omega)).mono ?_; rintro e w13 ⟨rfl, q13, rfl⟩; rw [HSF.out]; have HS13 := Lib.hid (HS12.out.keep (below_drewN (Below.refl _ _) q13)); have HH13 := Lib.hid (HH12.out.below (below_drewN (Below.refl _ _) q13)); have HV13 := Lib.hid (HV12.out.below (below_drewN (Below.refl _ _) q13)))
    | (go_at_call 24; refine (sameWords_any HA5 VA _ _ _ _ ws ws _ HH13.out HV13.out rfl rfl (by have := HWL.out; omega)).mono ?_; rintro e w14 ⟨rfl, q14, rfl⟩; rw [sameW_self]; have HS14 := Lib.hid (HS12.out.keep (below_drewN (Below.refl _ _) (q13 + q14))))
    | (go_at_call 9; refine (haw _ HS14.out.2.1).mono ?_; rintro e w15 ⟨rfl, hb15⟩; have HS15 := Lib.hid (HS14.out.keep hb15); clear hb15))
  go_ret
  exact ⟨rfl, HS15.out.2.2⟩
end Go.Proofs.YtdglifjhkjdogaaGreatDoor
