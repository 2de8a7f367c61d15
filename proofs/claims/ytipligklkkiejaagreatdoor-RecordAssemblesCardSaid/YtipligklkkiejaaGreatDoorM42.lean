import Derived.Test.YtipligklkkiejaaGreatDoorM41
import Derived.Test.YtipligklkkiejaaGreatDoorM32
import Derived.Test.YtipligklkkiejaaGreatDoorM31
import Derived.Test.YtipligklkkiejaaGreatDoorM09
/- The law of packets assembled, walked. -/
namespace Go.Proofs.YtipligklkkiejaaGreatDoor
set_option linter.all false
open Go.RowKit Go.Fl
set_option linter.unusedVariables false
set_option linter.unusedSimpArgs false

/-- the list where it lies, and what was below -/
def AvS (w : World) (A : Option Addr) (ps : List PkT) (W : World) : Prop := Rd W A (pksC ps) ∧ Aw W ∧ Below w.heap.size w W
theorem AvS.keep {w W W' : World} {A : Option Addr} {ps : List PkT} (h : AvS w A ps W) (hb : Below W.heap.size W W') : AvS w A ps W' :=
  ⟨h.1.below hb, h.2.1.old hb, h.2.2.trans (hb.mono h.2.2.size)⟩
/-- the error -/
def avE (ps : List PkT) (station n : Int) : Int := firstI [pksI ps, whenI (rangeB station 0 255) 3, whenI (rangeB n 0 4096) 3]

set_option maxRecDepth 100000 in
set_option maxHeartbeats 1000000 in
theorem assembles_far (haw : AwakeOk) (A : Option Addr) (c : Nat) (ps : List PkT) (station n : Int) (w : World) (haW : Aw w) (hA : Rd w A (pksC ps)) (h8 : pks8 ps) (hlc : ps.length ≤ c) (hca : A = none → c = 0) (hm : ps.length ≤ 9223372036854775807) (hs : shortPB ps.length = false ∨ (60 < n ∧ n ≤ 4096)) :
    Calls Tryz.prog 5 #[.slice A ps.length c, .int .i64 station, .int .i64 n] w fun e w' => e = .returned (.bool true) ∧ Below w.heap.size w w' := by
  have HS0 := Lib.hid (show AvS w A ps w from ⟨hA, haW, Below.refl _ _⟩)
  have HSP := Lib.hid (fun W => shortPackets_any A ps.length c W hm)
  clear haW hA
  cases hsb : shortPB ps.length
  · rw [hsb] at HSP
    clear hs hsb
    by_cases h6 : 60 < n
    · by_cases h7 : n ≤ 4096
      · go_enter Tryz.func5, Tryz.ntmps5
        go_wp2_with (go_at_call 21; refine (HSP.out _).mono ?_; rintro e w1 ⟨rfl, hb1⟩; have HS1 := Lib.hid (HS0.out.keep hb1); clear hb1)
        refine (haw _ HS1.out.2.1).mono ?_
        rintro e w2 ⟨rfl, hb2⟩
        have HS2 := Lib.hid (HS1.out.keep hb2)
        clear hb2
        go_wp2
        go_ret
        exact ⟨rfl, HS2.out.2.2⟩
      · go_enter Tryz.func5, Tryz.ntmps5
        go_wp2_with (go_at_call 21; refine (HSP.out _).mono ?_; rintro e w1 ⟨rfl, hb1⟩; have HS1 := Lib.hid (HS0.out.keep hb1); clear hb1)
        refine (haw _ HS1.out.2.1).mono ?_
        rintro e w2 ⟨rfl, hb2⟩
        have HS2 := Lib.hid (HS1.out.keep hb2)
        clear hb2
        go_wp2
        go_ret
        exact ⟨rfl, HS2.out.2.2⟩
    · go_enter Tryz.func5, Tryz.ntmps5
      go_wp2_with (go_at_call 21; refine (HSP.out _).mono ?_; rintro e w1 ⟨rfl, hb1⟩; have HS1 := Lib.hid (HS0.out.keep hb1); clear hb1)
      refine (haw _ HS1.out.2.1).mono ?_
      rintro e w2 ⟨rfl, hb2⟩
      have HS2 := Lib.hid (HS1.out.keep hb2)
      clear hb2
      go_wp2
      go_ret
      exact ⟨rfl, HS2.out.2.2⟩
  · rw [hsb] at HSP hs
    obtain ⟨h6, h7⟩ : 60 < n ∧ n ≤ 4096 := by rcases hs with h | h; cases h; exact h
    clear hsb hs
    go_enter Tryz.func5, Tryz.ntmps5
    go_wp2_with (go_at_call 21; refine (HSP.out _).mono ?_; rintro e w1 ⟨rfl, hb1⟩; have HS1 := Lib.hid (HS0.out.keep hb1); clear hb1)
    refine (haw _ HS1.out.2.1).mono ?_
    rintro e w2 ⟨rfl, hb2⟩
    have HS2 := Lib.hid (HS1.out.keep hb2)
    clear hb2
    go_wp2
    go_ret
    exact ⟨rfl, HS2.out.2.2⟩

set_option maxRecDepth 100000 in
set_option maxHeartbeats 4000000 in
theorem assembles_good (haw : AwakeOk) (A : Option Addr) (c : Nat) (ps : List PkT) (station n : Int) (w : World) (haW : Aw w) (hA : Rd w A (pksC ps)) (h8 : pks8 ps) (hlc : ps.length ≤ c) (hca : A = none → c = 0) (hm : ps.length ≤ 9223372036854775807) (hs : shortPB ps.length = true) (h6 : ¬ (60 < n ∧ n ≤ 4096)) (hE : avE ps station n = 0) :
    Calls Tryz.prog 5 #[.slice A ps.length c, .int .i64 station, .int .i64 n] w fun e w' => e = .returned (.bool true) ∧ Below w.heap.size w w' := by
  obtain ⟨hpl, hpk, hst, hn0, hn1⟩ := asmE_ok (ps := ps) (station := station) (n := n) hE
  obtain ⟨N, rfl⟩ := Int.eq_ofNat_of_zero_le hn0
  have hN : N ≤ 4096 := by omega
  have hv : ∀ p ∈ ps, (0 ≤ p.2.1 ∧ p.2.1 ≤ 65535) ∧ (0 ≤ p.2.2.1 ∧ p.2.2.1 ≤ 8) := fun p hp => (pkE_ok (hpk p hp)).2
  have hz : ∀ p ∈ ps, ∀ x ∈ p.2.2.2, sampI x = 0 := fun p hp => (pk_zero (h8 p hp) (hpk p hp)).2.2.2
  have hae := asm_eq station N ps (fun p hp => ⟨(hv p hp).1.1, (hv p hp).2.1⟩)
  have HSF := Lib.hid (sameF_refl _ (out_good station N ps hz sampI_zero))
  have HOL := Lib.hid (outL_length station N ps)
  have HGL : Hid ((gapsL (thL station N ps)).length ≤ 4096) := by unfold Hid; have h := gapsGo_len (thL station N ps) 0 []; rw [thL_length] at h; unfold gapsL; simp at h; omega
  have h60 : (N : Int) ≤ 60 := by omega
  have HAS : Hid (∀ W A c, Rd W A (pksC ps) → Calls Tryz.prog 22 #[.slice A ps.length c, .int .i64 station, .int .i64 (N : Int)] W fun e w' => ∃ PA pc SA sc, e = .returned (.tuple #[.slice PA N pc, .slice SA (gapsL (thL station N ps)).length sc, .int .i64 0]) ∧ Rd w' PA (flts (outL station N ps)) ∧ Rd w' SA (spanC (gapsL (thL station N ps))) ∧ Below W.heap.size W w') := fun W A c hr => by
    refine (assembled_ok A ps.length c ps station N W hr h8 rfl hE).mono ?_
    rintro e w' ⟨gS, v, rfl, h1, h2, h3, hb⟩
    rw [hae] at h1 h2
    obtain ⟨SA, sc, rfl, hS⟩ := owned_slice h2
    exact ⟨_, _, SA, sc, rfl, Rd.row h1, hS, hb⟩
  have HAR : Hid (∀ W, Rd W A (pksC ps) → Calls Tryz.prog 27 #[.slice A ps.length c, .int .i64 station, .int .i64 (N : Int)] W fun e w' => ∃ PA pc SA sc, e = .returned (.tuple #[.slice PA N pc, .slice SA (gapsL (thL station N ps)).length sc]) ∧ Rd w' PA (flts (outL station N ps)) ∧ Rd w' SA (spanC (gapsL (thL station N ps))) ∧ Below W.heap.size W w') := fun W hr => by
    refine (assembledR_ok A ps.length c ps station N W hr h8 rfl hv hpl hN).mono ?_
    rintro e w' ⟨v, u, rfl, h1, h2, hb⟩
    obtain ⟨PA, pc, rfl, hP⟩ := owned_slice h1
    obtain ⟨SA, sc, rfl, hS⟩ := owned_slice h2
    exact ⟨PA, pc, SA, sc, rfl, hP, hS, hb⟩
  have HSE : Hid (∀ W, Rd W A (pksC ps) → Calls Tryz.prog 23 #[.slice A ps.length c] W fun e w' => ∃ SA sc, e = .returned (.slice SA ps.length sc) ∧ Rd w' SA (pksC ps) ∧ Below W.heap.size W w') := fun W hr => by
    refine (sent_any A ps.length c ps W hr h8 rfl (by omega)).mono ?_
    rintro e w' ⟨v, rfl, ho, hb⟩
    obtain ⟨SA, sc, rfl, hS⟩ := owned_slice ho
    exact ⟨SA, sc, rfl, hS, hb⟩
  have HCP := Lib.hid (fun W hr => checkPacketsR_any A ps.length c ps W hr h8 rfl hm)
  have HS0 := Lib.hid (show AvS w A ps w from ⟨hA, haW, Below.refl _ _⟩)
  have HSP := Lib.hid (fun W => shortPackets_any A ps.length c W hm)
  rw [hs] at HSP
  have HEE : Hid (firstI [pksI ps, whenI (rangeB station 0 255) 3, whenI (rangeB (N : Int) 0 4096) 3] = 0) := hE
  clear haW hA h8 hs hE hpl hpk hst hn0 hn1 hv hz hae hN h6
  go_enter Tryz.func5, Tryz.ntmps5
  go_wp2_with (go_at_call 21; refine (HSP.out _).mono ?_; rintro e w1 ⟨rfl, hb1⟩; have HS1 := Lib.hid (HS0.out.keep hb1); clear hb1)
  refine (HSE.out _ HS1.out.1).mono ?_
  rintro e w2 ⟨XA, xc, rfl, hX, hb2⟩
  have HX := Lib.hid hX; have HS2 := Lib.hid (HS1.out.keep hb2)
  clear hX hb2 HSE HSP HS0 HS1
  go_wp2_with fail
  refine (HAS.out _ _ _ HX.out).mono ?_
  rintro e w3 ⟨PA, pc, SA, sc, rfl, hP, hS, hb3⟩
  have HP := Lib.hid hP; have HS := Lib.hid hS; have HS3 := Lib.hid (HS2.out.keep hb3)
  clear hP hS hb3 HX HS2 HAS
  go_wp2_with fail
  refine (HCP.out _ HS3.out.1).mono ?_
  rintro e w4 ⟨rfl, hb4⟩
  have HS4 := Lib.hid (HS3.out.keep hb4)
  have HP4 := Lib.hid (HP.out.below hb4); have HSS4 := Lib.hid (HS.out.below hb4)
  clear HP HS
  clear hb4 HS3 HCP
  go_wp2_with (first
    | (go_at_call 26; refine (checkRange_any _ _ _ _).mono ?_; rintro e w5 ⟨rfl, rfl⟩)
    | (go_at_call 24; refine (first_any _ _ _ [pksI ps, whenI (rangeB station 0 255) 3, whenI (rangeB (N : Int) 0 4096) 3] _ (Rd.new _ _ _ _ rfl) rfl (by simp)).mono ?_; rintro e w5 ⟨rfl, rfl⟩; rw [HEE.out]))
  generalize hwa : w4.alloc (.cells #[.int .i64 (pksI ps), .int .i64 (whenI (rangeB station 0 255) 3), .int .i64 (whenI (rangeB (N : Int) 0 4096) 3)] 3) = wa
  have hba : Below w4.heap.size w4 wa := by rw [← hwa]; exact (Below.refl _ _).alloc (Nat.le_refl _) _
  have HS5 := Lib.hid (HS4.out.keep hba); have HP5 := Lib.hid (HP4.out.below hba); have HSS5 := Lib.hid (HSS4.out.below hba)
  clear hwa hba HS4 HP4 HSS4
  refine (HAR.out _ HS5.out.1).mono ?_
  rintro e w6 ⟨QA, qc, TA, tc, rfl, hQ, hT, hb6⟩
  have HQ := Lib.hid hQ; have HT := Lib.hid hT; have HS6 := Lib.hid (HS5.out.keep hb6); have HP6 := Lib.hid (HP5.out.below hb6); have HSS6 := Lib.hid (HSS5.out.below hb6)
  clear hQ hT hb6 HS5 HP5 HSS5 HAR
  go_wp2_with fail
  refine (sameSamples_any PA QA N N pc qc (outL station N ps) (outL station N ps) _ HP6.out HQ.out HOL.out.symm HOL.out.symm (by rw [HOL.out]; omega)).mono ?_
  rintro e w7 ⟨rfl, q7, hw7⟩
  rw [HSF.out]
  have hb7 : Below w6.heap.size w6 w7 := by rw [hw7]; exact below_drewN (Below.refl w6.heap.size w6) q7
  clear hw7
  have HS7 := Lib.hid (HS6.out.keep hb7); have HSS7 := Lib.hid (HSS6.out.below hb7); have HT7 := Lib.hid (HT.out.below hb7)
  clear hb7 HS6 HP6 HQ HSS6 HT HSF
  go_wp2_with fail
  refine (sameSpans_any SA TA _ _ sc tc (gapsL (thL station N ps)) (gapsL (thL station N ps)) _ HSS7.out HT7.out rfl rfl (by have := HGL.out; omega)).mono ?_
  rintro e w8 ⟨rfl, q, rfl⟩
  rw [sameSp_refl]
  have HS9 := Lib.hid (HS7.out.keep (below_drewN (Below.refl _ _) q))
  clear HS7 HSS7 HT7
  go_wp2_with fail
  refine (haw _ HS9.out.2.1).mono ?_
  rintro e w10 ⟨rfl, hb10⟩
  have HS10 := Lib.hid (HS9.out.keep hb10)
  clear hb10 HS9
  go_wp2
  go_ret
  exact ⟨rfl, HS10.out.2.2⟩

set_option maxRecDepth 100000 in
set_option maxHeartbeats 4000000 in
theorem assembles_bad (haw : AwakeOk) (A : Option Addr) (c : Nat) (ps : List PkT) (station n : Int) (w : World) (haW : Aw w) (hA : Rd w A (pksC ps)) (h8 : pks8 ps) (hlc : ps.length ≤ c) (hca : A = none → c = 0) (hm : ps.length ≤ 9223372036854775807) (hs : shortPB ps.length = true) (h6 : ¬ (60 < n ∧ n ≤ 4096)) (hE : avE ps station n ≠ 0) :
    Calls Tryz.prog 5 #[.slice A ps.length c, .int .i64 station, .int .i64 n] w fun e w' => e = .returned (.bool true) ∧ Below w.heap.size w w' := by
  obtain ⟨EE, hEE⟩ : ∃ EE, EE = avE ps station n := ⟨_, rfl⟩
  have HAS : Hid (∀ W A c, Rd W A (pksC ps) → Calls Tryz.prog 22 #[.slice A ps.length c, .int .i64 station, .int .i64 n] W fun e w' => e = .returned (.tuple #[.slice none 0 0, .slice none 0 0, .int .i64 EE]) ∧ Below W.heap.size W w') := fun W A c hr => by
    rw [hEE]; exact assembled_bad A ps.length c ps station n W hr h8 rfl hE
  have hEZ : (EE == 0) = false := by rw [hEE]; simpa using hE
  have HSE : Hid (∀ W, Rd W A (pksC ps) → Calls Tryz.prog 23 #[.slice A ps.length c] W fun e w' => ∃ SA sc, e = .returned (.slice SA ps.length sc) ∧ Rd w' SA (pksC ps) ∧ Below W.heap.size W w') := fun W hr => by
    refine (sent_any A ps.length c ps W hr h8 rfl (by unfold shortPB at hs; simp at hs; omega)).mono ?_
    rintro e w' ⟨v, rfl, ho, hb⟩
    obtain ⟨SA, sc, rfl, hS⟩ := owned_slice ho
    exact ⟨SA, sc, rfl, hS, hb⟩
  have HCP := Lib.hid (fun W hr => checkPacketsR_any A ps.length c ps W hr h8 rfl hm)
  have HS0 := Lib.hid (show AvS w A ps w from ⟨hA, haW, Below.refl _ _⟩)
  have HSP := Lib.hid (fun W => shortPackets_any A ps.length c W hm)
  rw [hs] at HSP
  have HEE : Hid (firstI [pksI ps, whenI (rangeB station 0 255) 3, whenI (rangeB n 0 4096) 3] = EE) := hEE.symm
  clear haW hA h8 hs hE hEE
  by_cases h60 : 60 < n
  · have h41 : ¬ n ≤ 4096 := fun h => h6 ⟨h60, h⟩
    clear h6
    go_enter Tryz.func5, Tryz.ntmps5
    go_wp2_with (go_at_call 21; refine (HSP.out _).mono ?_; rintro e w1 ⟨rfl, hb1⟩; have HS1 := Lib.hid (HS0.out.keep hb1); clear hb1)
    refine (HSE.out _ HS1.out.1).mono ?_
    rintro e w2 ⟨XA, xc, rfl, hX, hb2⟩
    have HX := Lib.hid hX; have HS2 := Lib.hid (HS1.out.keep hb2)
    clear hX hb2 HSE HSP HS0 HS1
    go_wp2_with fail
    refine (HAS.out _ _ _ HX.out).mono ?_
    rintro e w3 ⟨rfl, hb3⟩
    have HS3 := Lib.hid (HS2.out.keep hb3)
    clear hb3 HX HS2 HAS
    go_wp2_with fail
    refine (HCP.out _ HS3.out.1).mono ?_
    rintro e w4 ⟨rfl, hb4⟩
    have HS4 := Lib.hid (HS3.out.keep hb4)
    clear hb4 HS3 HCP
    go_wp2_with (first
      | (go_at_call 26; refine (checkRange_any _ _ _ _).mono ?_; rintro e w5 ⟨rfl, rfl⟩)
      | (go_at_call 24; refine (first_any _ _ _ [pksI ps, whenI (rangeB station 0 255) 3, whenI (rangeB n 0 4096) 3] _ (Rd.new _ _ _ _ rfl) rfl (by simp)).mono ?_; rintro e w5 ⟨rfl, rfl⟩; rw [HEE.out]))
    generalize hwa : w4.alloc (.cells #[.int .i64 (pksI ps), .int .i64 (whenI (rangeB station 0 255) 3), .int .i64 (whenI (rangeB n 0 4096) 3)] 3) = wa
    have hba : Below w4.heap.size w4 wa := by rw [← hwa]; exact (Below.refl _ _).alloc (Nat.le_refl _) _
    have HS5 := Lib.hid (HS4.out.keep hba)
    clear hwa hba HS4
    have nilF : ∀ W, Rd W none (flts []) := fun W j v hv => by simp [flts] at hv
    have nilS : ∀ W, Rd W none (spanC []) := fun W j v hv => by simp [spanC] at hv
    refine (sameSamples_any none none 0 0 0 0 [] [] _ (nilF _) (nilF _) rfl rfl (by simp)).mono ?_
    rintro e w7 ⟨rfl, q7, hw7⟩
    have hb7 : Below wa.heap.size wa w7 := by rw [hw7]; exact below_drewN (Below.refl wa.heap.size wa) q7
    clear hw7
    have HS7 := Lib.hid (HS5.out.keep hb7)
    clear hb7 HS5
    go_wp2_with fail
    refine (sameSpans_any none none 0 0 0 0 [] [] _ (nilS _) (nilS _) rfl rfl (by simp)).mono ?_
    rintro e w8 ⟨rfl, q, rfl⟩
    rw [sameSp_refl]
    have HS9 := Lib.hid (HS7.out.keep (below_drewN (Below.refl _ _) q))
    clear HS7
    go_wp2_with fail
    refine (haw _ HS9.out.2.1).mono ?_
    rintro e w10 ⟨rfl, hb10⟩
    have HS10 := Lib.hid (HS9.out.keep hb10)
    clear hb10 HS9
    go_wp2
    go_ret
    exact ⟨rfl, HS10.out.2.2⟩
  · clear h6
    go_enter Tryz.func5, Tryz.ntmps5
    go_wp2_with (go_at_call 21; refine (HSP.out _).mono ?_; rintro e w1 ⟨rfl, hb1⟩; have HS1 := Lib.hid (HS0.out.keep hb1); clear hb1)
    refine (HSE.out _ HS1.out.1).mono ?_
    rintro e w2 ⟨XA, xc, rfl, hX, hb2⟩
    have HX := Lib.hid hX; have HS2 := Lib.hid (HS1.out.keep hb2)
    clear hX hb2 HSE HSP HS0 HS1
    go_wp2_with fail
    refine (HAS.out _ _ _ HX.out).mono ?_
    rintro e w3 ⟨rfl, hb3⟩
    have HS3 := Lib.hid (HS2.out.keep hb3)
    clear hb3 HX HS2 HAS
    go_wp2_with fail
    refine (HCP.out _ HS3.out.1).mono ?_
    rintro e w4 ⟨rfl, hb4⟩
    have HS4 := Lib.hid (HS3.out.keep hb4)
    clear hb4 HS3 HCP
    go_wp2_with (first
      | (go_at_call 26; refine (checkRange_any _ _ _ _).mono ?_; rintro e w5 ⟨rfl, rfl⟩)
      | (go_at_call 24; refine (first_any _ _ _ [pksI ps, whenI (rangeB station 0 255) 3, whenI (rangeB n 0 4096) 3] _ (Rd.new _ _ _ _ rfl) rfl (by simp)).mono ?_; rintro e w5 ⟨rfl, rfl⟩; rw [HEE.out]))
    generalize hwa : w4.alloc (.cells #[.int .i64 (pksI ps), .int .i64 (whenI (rangeB station 0 255) 3), .int .i64 (whenI (rangeB n 0 4096) 3)] 3) = wa
    have hba : Below w4.heap.size w4 wa := by rw [← hwa]; exact (Below.refl _ _).alloc (Nat.le_refl _) _
    have HS5 := Lib.hid (HS4.out.keep hba)
    clear hwa hba HS4
    have nilF : ∀ W, Rd W none (flts []) := fun W j v hv => by simp [flts] at hv
    have nilS : ∀ W, Rd W none (spanC []) := fun W j v hv => by simp [spanC] at hv
    refine (sameSamples_any none none 0 0 0 0 [] [] _ (nilF _) (nilF _) rfl rfl (by simp)).mono ?_
    rintro e w7 ⟨rfl, q7, hw7⟩
    have hb7 : Below wa.heap.size wa w7 := by rw [hw7]; exact below_drewN (Below.refl wa.heap.size wa) q7
    clear hw7
    have HS7 := Lib.hid (HS5.out.keep hb7)
    clear hb7 HS5
    go_wp2_with fail
    refine (sameSpans_any none none 0 0 0 0 [] [] _ (nilS _) (nilS _) rfl rfl (by simp)).mono ?_
    rintro e w8 ⟨rfl, q, rfl⟩
    rw [sameSp_refl]
    have HS9 := Lib.hid (HS7.out.keep (below_drewN (Below.refl _ _) q))
    clear HS7
    go_wp2_with fail
    refine (haw _ HS9.out.2.1).mono ?_
    rintro e w10 ⟨rfl, hb10⟩
    have HS10 := Lib.hid (HS9.out.keep hb10)
    clear hb10 HS9
    go_wp2
    go_ret
    exact ⟨rfl, HS10.out.2.2⟩

theorem recordAssembles_ok (haw : AwakeOk) (A : Option Addr) (c : Nat) (ps : List PkT) (station n : Int) (w : World) (haW : Aw w) (hA : Rd w A (pksC ps)) (h8 : pks8 ps) (hlc : ps.length ≤ c) (hca : A = none → c = 0) (hm : ps.length ≤ 9223372036854775807) :
    Calls Tryz.prog 5 #[.slice A ps.length c, .int .i64 station, .int .i64 n] w fun e w' => e = .returned (.bool true) ∧ Below w.heap.size w w' := by
  cases hs : shortPB ps.length
  · exact assembles_far haw A c ps station n w haW hA h8 hlc hca hm (.inl hs)
  · by_cases h6 : 60 < n ∧ n ≤ 4096
    · exact assembles_far haw A c ps station n w haW hA h8 hlc hca hm (.inr h6)
    · by_cases hE : avE ps station n = 0
      · exact assembles_good haw A c ps station n w haW hA h8 hlc hca hm hs h6 hE
      · exact assembles_bad haw A c ps station n w haW hA h8 hlc hca hm hs h6 hE
end Go.Proofs.YtipligklkkiejaaGreatDoor
