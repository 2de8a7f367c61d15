/- Contracts: a line of a recording. -/
import Derived.Test.YtjgofnbfpoephaaGreatDoorM33
import Derived.Laws.EntriesVeiled
namespace Go.Proofs.YtjgofnbfpoephaaGreatDoor
set_option linter.all false
open Go.RowKit Go.Fl
set_option linter.unusedVariables false
set_option linter.unusedSimpArgs false
variable {lb : Nat} {L : List ByteArray}

def fn0 (k : Nat) : Value := .func (.func k) #[] #[]
def kindC : List Value := [.string wRec, fn0 200, fn0 201, .string wMark, fn0 202, fn0 203, .string wSamp, fn0 204, fn0 205]
set_option maxHeartbeats 400000 in
theorem kinds_any (w : World) : Calls Tryz.prog 189 #[] w fun e w' => e = .returned (.slice (some ⟨w.heap.size, 0, none⟩) 3 3) ∧ w' = w.alloc (.cells kindC.toArray 267) := by
  go_enter Tryz.func189, Tryz.ntmps189
  go_wp2
  go_ret
  exact ⟨rfl, rfl⟩
set_option maxHeartbeats 400000 in
theorem fits1_any (p : Value) (i : Int) (w : World) : Calls Tryz.prog 200 #[p, .int .i64 i] w fun e w' => e = .returned (.bool (decide (i = 0))) ∧ w' = w := by
  go_enter Tryz.func200, Tryz.ntmps200
  go_wp2
  go_ret
  exact ⟨rfl, rfl⟩
set_option maxHeartbeats 400000 in
theorem fits3_any (p : Value) (i : Int) (w : World) : Calls Tryz.prog 204 #[p, .int .i64 i] w fun e w' => e = .returned (.bool (decide (0 < i))) ∧ w' = w := by
  go_enter Tryz.func204, Tryz.ntmps204
  go_wp2
  go_ret
  exact ⟨rfl, rfl⟩
theorem lenZ (n : Nat) : decide (n = 0) = ((n : Int) == 0) := by cases n <;> rfl
set_option maxHeartbeats 400000 in
theorem fits2_any (w0 : World) (R g : Nat) (S : PaS) (ws : List ByteArray) (i : Int) (w : World) (h : PaI w0 lb L R g S ws w) : Calls Tryz.prog 202 #[.pointer (some ⟨R, 0, none⟩), .int .i64 i] w fun e w' => e = .returned (.bool (decide (0 < i) && decide (S.2.2.1.length = 0))) ∧ w' = w := by
  obtain ⟨k1, k2, vs, vm, k3, k4, k5, k6, k7⟩ := h
  obtain ⟨A', c', rfl, -⟩ := owned_slice k4
  have c2 := k3.cell 2
  simp only [paV, List.getElem?_cons_succ, List.getElem?_cons_zero] at c2
  clear k1 k2 k3 k4 k5 k6 k7
  by_cases hi : 0 < i
  · go_enter Tryz.func202, Tryz.ntmps202
    go_wp2
    go_ret
    exact ⟨by rw [decide_eq_true hi, Bool.true_and, lenZ]; rfl, rfl⟩
  · go_enter Tryz.func202, Tryz.ntmps202
    go_wp2
    go_ret
    exact ⟨by rw [decide_eq_false (show ¬ 0 < i by omega)]; rfl, rfl⟩

def eqW (k w : ByteArray) : Bool := k.toList == w.toList
def fit0 (i : Int) : Bool := decide (i = 0)
def fit1 (i : Int) (S : PaS) : Bool := decide (0 < i) && decide (S.2.2.1.length = 0)
def fit2 (i : Int) : Bool := decide (0 < i)
/-- a line: whether it is one, what is read then, the words that are left -/
def lineR (i : Int) (S : PaS) (ws : List ByteArray) : Bool × PaS × List ByteArray :=
  if eqW wRec (headW ws) && fit0 i then (headOk ws.tail, headS S ws.tail, ws.tail.tail.tail)
  else if eqW wMark (headW ws) && fit1 i S then (markOk ws.tail, markS S ws.tail, ws.tail.tail.tail)
  else if eqW wSamp (headW ws) && fit2 i then (sampOk ws.tail, sampS S ws.tail, ws.tail.tail)
  else (false, S, ws.tail)
/-- the number of a line's sample is small -/
def smallN (ws : List ByteArray) : Prop := (intV (headW ws.tail).data.toList).natAbs < 2 ^ 20

set_option maxRecDepth 100000 in
set_option maxHeartbeats 4000000 in
theorem readLine_any (w0 : World) (R g : Nat) (S : PaS) (ws : List ByteArray) (i : Int) (w : World) (h : PaI w0 lb L R g S ws w) (hm : ws.length ≤ 100000) (hms : S.2.2.1.length ≤ 100000) (hmm : S.2.2.2.length ≤ 100000) (hn : smallN ws) :
    Calls Tryz.prog 161 #[.pointer (some ⟨R, 0, none⟩), .int .i64 i, .pointer (some ⟨g, 0, none⟩)] w fun e w' => e = .returned (.bool (lineR i S ws).1) ∧ PaI w0 lb L R g (lineR i S ws).2.1 (lineR i S ws).2.2 w' := by
  have H0 := Lib.hid h
  have HN := Lib.hid hn
  obtain ⟨out, hout⟩ : ∃ out, out = lineR i S ws := ⟨_, rfl⟩
  rw [← hout]
  have HO := Lib.hid hout
  clear h hn hout
  go_enter Tryz.func161, Tryz.ntmps161
  go_wp2_with fail
  refine (H0.out.takes (by omega)).mono ?_
  rintro e w1 ⟨rfl, h1⟩
  have H1 := Lib.hid h1
  clear h1
  go_wp2_with fail
  refine (kinds_any _).mono ?_
  rintro e w2 ⟨rfl, hw2⟩
  have H2 : Hid (PaI w0 lb L R g S ws.tail w2) := by rw [hw2]; exact H1.out.old ((Below.refl _ _).alloc (Nat.le_refl _) _)
  have HK : Hid (Row w2 w1.heap.size 267 kindC) := by rw [hw2]; exact Row.new _ _ _
  obtain ⟨kb, hkb⟩ : ∃ kb, kb = w1.heap.size := ⟨_, rfl⟩
  rw [← hkb] at HK ⊢
  clear hkb hw2
  obtain ⟨wd, hwd⟩ : ∃ wd, wd = headW ws := ⟨_, rfl⟩
  rw [← hwd]
  have HWD := Lib.hid hwd
  clear hwd
  go_wp2
  go_loopw [17] (fun u wr => ∃ k : Nat, k ≤ 3 ∧ u = .int .i64 k ∧ Hid (Below w2.heap.size w2 wr) ∧ (0 < k → Hid ((eqW wRec wd && fit0 i) = false)) ∧ (1 < k → Hid ((eqW wMark wd && fit1 i S) = false)) ∧ (2 < k → Hid ((eqW wSamp wd && fit2 i) = false))) (fun u _ => 3 - (intOf u).toNat)
  case atStart => exact ⟨0, by omega, rfl, Below.refl _ _, fun h => by omega, fun h => by omega, fun h => by omega⟩
  case round =>
    obtain ⟨k, hk, rfl, HB, hk0, hk1, hk2⟩ := hrel
    rcases (show k = 0 ∨ k = 1 ∨ k = 2 ∨ k = 3 by omega) with rfl | rfl | rfl | rfl
    · have c0 := (HK.out.old HB.out).cell 0; have c1 := (HK.out.old HB.out).cell 1; have c2 := (HK.out.old HB.out).cell 2
      simp only [kindC, fn0, List.getElem?_cons_succ, List.getElem?_cons_zero] at c0 c1 c2
      clear hk0 hk1 hk2
      have hnew1 : ∀ o : Obj, (wr.alloc o).heap.size = wr.heap.size + 1 := fun o => by simp
      by_cases he : eqW wRec wd = true
      · have he2 : (wRec.toList == wd.toList) = true := he
        by_cases hfit : (fit0 i) = true
        · skip
          have HO2 : Hid (out = (headOk ws.tail, headS S ws.tail, ws.tail.tail.tail)) := by unfold Hid; rw [HO.out, lineR, ← HWD.out, if_pos (by rw [he, hfit]; rfl)]
          have HF : Hid (∀ W, Below w2.heap.size w2 W → Calls Tryz.prog 200 #[.pointer (some ⟨R, 0, none⟩), .int .i64 i] W fun e w' => e = .returned (.bool true) ∧ w' = W) := fun W hW => by have := fits1_any (.pointer (some ⟨R, 0, none⟩)) i W; rw [show decide (i = 0) = true from hfit] at this; exact this
          clear he hfit
          go_wp2_with fail
          refine (HF.out _ (HB.out.alloc (HB.out.size) _)).mono ?_
          rintro e w5 ⟨rfl, rfl⟩
          go_wp2_with fail
          refine (readHead_any w0 R g S ws.tail _ (H2.out.old (HB.out.alloc (HB.out.size) _)) (by simp; omega)).mono ?_
          rintro e w6 ⟨rfl, h6⟩
          have H6 := Lib.hid h6
          clear h6
          go_wp2
          go_ret
          exact ⟨by rw [HO2.out]; rfl, by rw [HO2.out]; exact H6.out⟩
        · have hfit : (fit0 i) = false := by simpa using hfit
          have PK : Hid ((eqW wRec wd && fit0 i) = false) := by unfold Hid; rw [hfit, Bool.and_false]
          have HF : Hid (∀ W, Below w2.heap.size w2 W → Calls Tryz.prog 200 #[.pointer (some ⟨R, 0, none⟩), .int .i64 i] W fun e w' => e = .returned (.bool false) ∧ w' = W) := fun W hW => by have := fits1_any (.pointer (some ⟨R, 0, none⟩)) i W; rw [show decide (i = 0) = false from hfit] at this; exact this
          clear he hfit; rename_i hfit; clear hfit
          go_wp2_with fail
          refine (HF.out _ (HB.out.alloc (HB.out.size) _)).mono ?_
          rintro e w5 ⟨rfl, rfl⟩
          go_wp2
          go_roundw
          case rel => exact ⟨1, by omega, rfl, HB.out.alloc (HB.out.size) _, fun _ => PK, fun h => by omega, fun h => by omega⟩
          case measure => simp [intOf]
      · have he2 : (wRec.toList == wd.toList) = false := by simpa [eqW] using he
        have PK : Hid ((eqW wRec wd && fit0 i) = false) := by unfold Hid; rw [show eqW wRec wd = false by simpa using he, Bool.false_and]
        clear he
        go_wp2
        go_roundw
        case rel => exact ⟨1, by omega, rfl, HB.out.alloc (HB.out.size) _, fun _ => PK, fun h => by omega, fun h => by omega⟩
        case measure => simp [intOf]
    · have c0 := (HK.out.old HB.out).cell 3; have c1 := (HK.out.old HB.out).cell 4; have c2 := (HK.out.old HB.out).cell 5
      simp only [kindC, fn0, List.getElem?_cons_succ, List.getElem?_cons_zero] at c0 c1 c2
      have P0 := hk0 (by omega)
      clear hk0 hk1 hk2
      have hnew1 : ∀ o : Obj, (wr.alloc o).heap.size = wr.heap.size + 1 := fun o => by simp
      by_cases he : eqW wMark wd = true
      · have he2 : (wMark.toList == wd.toList) = true := he
        by_cases hfit : (fit1 i S) = true
        · skip
          have HO2 : Hid (out = (markOk ws.tail, markS S ws.tail, ws.tail.tail.tail)) := by unfold Hid; rw [HO.out, lineR, ← HWD.out, if_neg (Bool.eq_false_iff.1 P0.out), if_pos (by rw [he, hfit]; rfl)]
          have HF : Hid (∀ W, Below w2.heap.size w2 W → Calls Tryz.prog 202 #[.pointer (some ⟨R, 0, none⟩), .int .i64 i] W fun e w' => e = .returned (.bool true) ∧ w' = W) := fun W hW => by have := fits2_any w0 R g S ws.tail i W (H2.out.old hW); rw [show (decide (0 < i) && decide (S.2.2.1.length = 0)) = true from hfit] at this; exact this
          clear he hfit
          go_wp2_with fail
          refine (HF.out _ (HB.out.alloc (HB.out.size) _)).mono ?_
          rintro e w5 ⟨rfl, rfl⟩
          go_wp2_with fail
          refine (readMark_any w0 R g S ws.tail _ (H2.out.old (HB.out.alloc (HB.out.size) _)) (by simp; omega) (by omega)).mono ?_
          rintro e w6 ⟨rfl, h6⟩
          have H6 := Lib.hid h6
          clear h6
          go_wp2
          go_ret
          exact ⟨by rw [HO2.out]; rfl, by rw [HO2.out]; exact H6.out⟩
        · have hfit : (fit1 i S) = false := by simpa using hfit
          have PK : Hid ((eqW wMark wd && fit1 i S) = false) := by unfold Hid; rw [hfit, Bool.and_false]
          have HF : Hid (∀ W, Below w2.heap.size w2 W → Calls Tryz.prog 202 #[.pointer (some ⟨R, 0, none⟩), .int .i64 i] W fun e w' => e = .returned (.bool false) ∧ w' = W) := fun W hW => by have := fits2_any w0 R g S ws.tail i W (H2.out.old hW); rw [show (decide (0 < i) && decide (S.2.2.1.length = 0)) = false from hfit] at this; exact this
          clear he hfit; rename_i hfit; clear hfit
          go_wp2_with fail
          refine (HF.out _ (HB.out.alloc (HB.out.size) _)).mono ?_
          rintro e w5 ⟨rfl, rfl⟩
          go_wp2
          go_roundw
          case rel => exact ⟨2, by omega, rfl, HB.out.alloc (HB.out.size) _, fun _ => P0, fun _ => PK, fun h => by omega⟩
          case measure => simp [intOf]
      · have he2 : (wMark.toList == wd.toList) = false := by simpa [eqW] using he
        have PK : Hid ((eqW wMark wd && fit1 i S) = false) := by unfold Hid; rw [show eqW wMark wd = false by simpa using he, Bool.false_and]
        clear he
        go_wp2
        go_roundw
        case rel => exact ⟨2, by omega, rfl, HB.out.alloc (HB.out.size) _, fun _ => P0, fun _ => PK, fun h => by omega⟩
        case measure => simp [intOf]
    · have c0 := (HK.out.old HB.out).cell 6; have c1 := (HK.out.old HB.out).cell 7; have c2 := (HK.out.old HB.out).cell 8
      simp only [kindC, fn0, List.getElem?_cons_succ, List.getElem?_cons_zero] at c0 c1 c2
      have P0 := hk0 (by omega)
      have P1 := hk1 (by omega)
      clear hk0 hk1 hk2
      have hnew1 : ∀ o : Obj, (wr.alloc o).heap.size = wr.heap.size + 1 := fun o => by simp
      by_cases he : eqW wSamp wd = true
      · have he2 : (wSamp.toList == wd.toList) = true := he
        by_cases hfit : (fit2 i) = true
        · skip
          have HO2 : Hid (out = (sampOk ws.tail, sampS S ws.tail, ws.tail.tail)) := by unfold Hid; rw [HO.out, lineR, ← HWD.out, if_neg (Bool.eq_false_iff.1 P0.out), if_neg (Bool.eq_false_iff.1 P1.out), if_pos (by rw [he, hfit]; rfl)]
          have HF : Hid (∀ W, Below w2.heap.size w2 W → Calls Tryz.prog 204 #[.pointer (some ⟨R, 0, none⟩), .int .i64 i] W fun e w' => e = .returned (.bool true) ∧ w' = W) := fun W hW => by have := fits3_any (.pointer (some ⟨R, 0, none⟩)) i W; rw [show decide (0 < i) = true from hfit] at this; exact this
          clear he hfit
          go_wp2_with fail
          refine (HF.out _ (HB.out.alloc (HB.out.size) _)).mono ?_
          rintro e w5 ⟨rfl, rfl⟩
          go_wp2_with fail
          refine (readSample_any w0 R g S ws.tail _ (H2.out.old (HB.out.alloc (HB.out.size) _)) (by simp; omega) (by omega) HN.out).mono ?_
          rintro e w6 ⟨rfl, h6⟩
          have H6 := Lib.hid h6
          clear h6
          go_wp2
          go_ret
          exact ⟨by rw [HO2.out]; rfl, by rw [HO2.out]; exact H6.out⟩
        · have hfit : (fit2 i) = false := by simpa using hfit
          have PK : Hid ((eqW wSamp wd && fit2 i) = false) := by unfold Hid; rw [hfit, Bool.and_false]
          have HF : Hid (∀ W, Below w2.heap.size w2 W → Calls Tryz.prog 204 #[.pointer (some ⟨R, 0, none⟩), .int .i64 i] W fun e w' => e = .returned (.bool false) ∧ w' = W) := fun W hW => by have := fits3_any (.pointer (some ⟨R, 0, none⟩)) i W; rw [show decide (0 < i) = false from hfit] at this; exact this
          clear he hfit; rename_i hfit; clear hfit
          go_wp2_with fail
          refine (HF.out _ (HB.out.alloc (HB.out.size) _)).mono ?_
          rintro e w5 ⟨rfl, rfl⟩
          go_wp2
          go_roundw
          case rel => exact ⟨3, by omega, rfl, HB.out.alloc (HB.out.size) _, fun _ => P0, fun _ => P1, fun _ => PK⟩
          case measure => simp [intOf]
      · have he2 : (wSamp.toList == wd.toList) = false := by simpa [eqW] using he
        have PK : Hid ((eqW wSamp wd && fit2 i) = false) := by unfold Hid; rw [show eqW wSamp wd = false by simpa using he, Bool.false_and]
        clear he
        go_wp2
        go_roundw
        case rel => exact ⟨3, by omega, rfl, HB.out.alloc (HB.out.size) _, fun _ => P0, fun _ => P1, fun _ => PK⟩
        case measure => simp [intOf]
    · have P0 := hk0 (by omega); have P1 := hk1 (by omega); have P2 := hk2 (by omega)
      clear hk0 hk1 hk2
      have HO2 : Hid (out = (false, S, ws.tail)) := by unfold Hid; rw [HO.out, lineR, ← HWD.out, if_neg (Bool.eq_false_iff.1 P0.out), if_neg (Bool.eq_false_iff.1 P1.out), if_neg (Bool.eq_false_iff.1 P2.out)]
      have H6 := Lib.hid (H2.out.old HB.out)
      go_wp2
      go_ret
      exact ⟨by rw [HO2.out]; rfl, by rw [HO2.out]; exact H6.out⟩
end Go.Proofs.YtjgofnbfpoephaaGreatDoor
