import Derived.Test.YtjdniebjhilooaaGreatDoorM21
import Derived.Laws.EntriesVeiled
import Derived.Lib.SplitLaws
import Derived.Lib.IndexLaws
namespace Go.Proofs.YtjdniebjhilooaaGreatDoor
set_option linter.all false
open Go.RowKit Go.Fl
variable {lb : Nat} {L : List ByteArray}
def fn0 (k : Nat) : Value := .func (.func k) #[] #[]
def kindC : List Value := [.string wRec, fn0 146, fn0 147, .string wMark, fn0 148, fn0 149, .string wSamp, fn0 150, fn0 151]
set_option maxHeartbeats 400000 in
theorem kinds_any (w : World) : Calls Tryz.prog 119 #[] w fun e w' => e = .returned (.slice (some ⟨w.heap.size, 0, none⟩) 3 3) ∧ w' = w.alloc (.cells kindC.toArray 208) := by
 go_enter Tryz.func119, Tryz.ntmps119
 go_wp2
 go_ret
 exact ⟨rfl, rfl⟩
set_option maxHeartbeats 400000 in
theorem fits1_any (p : Value) (i : Int) (w : World) : Calls Tryz.prog 146 #[p, .int .i64 i] w fun e w' => e = .returned (.bool (decide (i = 0))) ∧ w' = w := by
 go_enter Tryz.func146, Tryz.ntmps146
 go_wp2
 go_ret
 exact ⟨rfl, rfl⟩
set_option maxHeartbeats 400000 in
theorem fits3_any (p : Value) (i : Int) (w : World) : Calls Tryz.prog 150 #[p, .int .i64 i] w fun e w' => e = .returned (.bool (decide (0 < i))) ∧ w' = w := by
 go_enter Tryz.func150, Tryz.ntmps150
 go_wp2
 go_ret
 exact ⟨rfl, rfl⟩
theorem lenZ (n : Nat) : decide (n = 0) = ((n : Int) == 0) := by cases n <;> rfl
set_option maxHeartbeats 400000 in
theorem fits2_any (w0 : World) (R g : Nat) (S : PaS) (ws : List ByteArray) (i : Int) (w : World) (h : PaI w0 lb L R g S ws w) : Calls Tryz.prog 148 #[.pointer (some ⟨R, 0, none⟩), .int .i64 i] w fun e w' => e = .returned (.bool (decide (0 < i) && decide (S.2.2.1.length = 0))) ∧ w' = w := by
 obtain ⟨k1, k2, vs, vm, k3, k4, k5, k6, k7⟩ := h
 obtain ⟨A', c', rfl, -⟩ := owned_slice k4
 have c2 := k3.cell 2
 simp only [paV, List.getElem?_cons_succ, List.getElem?_cons_zero] at c2
 clear k1 k2 k3 k4 k5 k6 k7
 by_cases hi : 0 < i
 · go_enter Tryz.func148, Tryz.ntmps148
   go_wp2
   go_ret
   exact ⟨by rw [decide_eq_true hi, Bool.true_and, lenZ]; rfl, rfl⟩
 · go_enter Tryz.func148, Tryz.ntmps148
   go_wp2
   go_ret
   exact ⟨by rw [decide_eq_false (show ¬ 0 < i by omega)]; rfl, rfl⟩
def eqW (k w : ByteArray) : Bool := k.toList == w.toList
def fit0 (i : Int) : Bool := decide (i = 0)
def fit1 (i : Int) (S : PaS) : Bool := decide (0 < i) && decide (S.2.2.1.length = 0)
def fit2 (i : Int) : Bool := decide (0 < i)
def lineR (i : Int) (S : PaS) (ws : List ByteArray) : Bool × PaS × List ByteArray :=
 if eqW wRec (headW ws) && fit0 i then (headOk ws.tail, headS S ws.tail, ws.tail.tail.tail)
 else if eqW wMark (headW ws) && fit1 i S then (markOk ws.tail, markS S ws.tail, ws.tail.tail.tail)
 else if eqW wSamp (headW ws) && fit2 i then (sampOk ws.tail, sampS S ws.tail, ws.tail.tail)
 else (false, S, ws.tail)
def smallN (ws : List ByteArray) : Prop := (intV (headW ws.tail).data.toList).natAbs < 2 ^ 30
set_option maxRecDepth 100000 in
set_option maxHeartbeats 4000000 in
theorem readLine_any (w0 : World) (R g : Nat) (S : PaS) (ws : List ByteArray) (i : Int) (w : World) (h : PaI w0 lb L R g S ws w) (hm : ws.length ≤ 100000) (hms : S.2.2.1.length ≤ 100000) (hmm : S.2.2.2.length ≤ 100000) (hn : smallN ws) :
 Calls Tryz.prog 55 #[.pointer (some ⟨R, 0, none⟩), .int .i64 i, .pointer (some ⟨g, 0, none⟩)] w fun e w' => e = .returned (.bool (lineR i S ws).1) ∧ PaI w0 lb L R g (lineR i S ws).2.1 (lineR i S ws).2.2 w' := by
 have H0 := Lib.hid h
 have HN := Lib.hid hn
 obtain ⟨out, hout⟩ : ∃ out, out = lineR i S ws := ⟨_, rfl⟩
 rw [← hout]
 have HO := Lib.hid hout
 clear h hn hout
 go_enter Tryz.func55, Tryz.ntmps55
 go_wp2_with fail
 refine (H0.out.takes (by omega)).mono ?_
 rintro e w1 ⟨rfl, h1⟩
 have H1 := Lib.hid h1
 clear h1
 go_wp2_with fail
 refine (kinds_any _).mono ?_
 rintro e w2 ⟨rfl, hw2⟩
 have H2 : Hid (PaI w0 lb L R g S ws.tail w2) := by rw [hw2]; exact H1.out.old ((Below.refl _ _).alloc (Nat.le_refl _) _)
 have HK : Hid (Row w2 w1.heap.size 208 kindC) := by rw [hw2]; exact Row.new _ _ _
 obtain ⟨kb, hkb⟩ : ∃ kb, kb = w1.heap.size := ⟨_, rfl⟩
 rw [← hkb] at HK ⊢
 clear hkb hw2
 obtain ⟨wd, hwd⟩ : ∃ wd, wd = headW ws := ⟨_, rfl⟩
 rw [← hwd]
 have HWD := Lib.hid hwd
 clear hwd
 go_wp2
 go_loopw [17] (fun u wr => ∃ k : Nat, k ≤ 3 ∧ u = .int .i64 k ∧ Hid (Below w2.heap.size w2 wr) ∧ (0 < k → Hid ((eqW wRec wd && fit0 i) = false)) ∧ (1 < k → Hid ((eqW wMark wd && fit1 i S) = false)) ∧ (2 < k → Hid ((eqW wSamp wd && fit2 i) = false))) (fun u _ => 3 - (intOf u).toNat)
 case atStart => exact ⟨0, by omega, rfl, Below.refl _ _, fun h => by omega, fun h => by omega, fun h => by omega⟩
 case round =>
  obtain ⟨k, hk, rfl, HB, hk0, hk1, hk2⟩ := hrel
  rcases (show k = 0 ∨ k = 1 ∨ k = 2 ∨ k = 3 by omega) with rfl | rfl | rfl | rfl
  · have c0 := (HK.out.old HB.out).cell 0; have c1 := (HK.out.old HB.out).cell 1; have c2 := (HK.out.old HB.out).cell 2
    simp only [kindC, fn0, List.getElem?_cons_succ, List.getElem?_cons_zero] at c0 c1 c2
    clear hk0 hk1 hk2
    have hnew1 : ∀ o : Obj, (wr.alloc o).heap.size = wr.heap.size + 1 := fun o => by simp
    by_cases he : eqW wRec wd = true
    · have he2 : (wRec.toList == wd.toList) = true := he
      by_cases hfit : (fit0 i) = true
      · skip
        have HO2 : Hid (out = (headOk ws.tail, headS S ws.tail, ws.tail.tail.tail)) := by unfold Hid; rw [HO.out, lineR, ← HWD.out, if_pos (by rw [he, hfit]; rfl)]
        have HF : Hid (∀ W, Below w2.heap.size w2 W → Calls Tryz.prog 146 #[.pointer (some ⟨R, 0, none⟩), .int .i64 i] W fun e w' => e = .returned (.bool true) ∧ w' = W) := fun W hW => by have := fits1_any (.pointer (some ⟨R, 0, none⟩)) i W; rw [show decide (i = 0) = true from hfit] at this; exact this
        clear he hfit
        go_wp2_with fail
        refine (HF.out _ (HB.out.alloc (HB.out.size) _)).mono ?_
        rintro e w5 ⟨rfl, rfl⟩
        go_wp2_with fail
        refine (readHead_any w0 R g S ws.tail _ (H2.out.old (HB.out.alloc (HB.out.size) _)) (by simp; omega)).mono ?_
        rintro e w6 ⟨rfl, h6⟩
        have H6 := Lib.hid h6
        clear h6
        go_wp2
        go_ret
        exact ⟨by rw [HO2.out]; rfl, by rw [HO2.out]; exact H6.out⟩
      · have hfit : (fit0 i) = false := by simpa using hfit
        have PK : Hid ((eqW wRec wd && fit0 i) = false) := by unfold Hid; rw [hfit, Bool.and_false]
        have HF : Hid (∀ W, Below w2.heap.size w2 W → Calls Tryz.prog 146 #[.pointer (some ⟨R, 0, none⟩), .int .i64 i] W fun e w' => e = .returned (.bool false) ∧ w' = W) := fun W hW => by have := fits1_any (.pointer (some ⟨R, 0, none⟩)) i W; rw [show decide (i = 0) = false from hfit] at this; exact this
        clear he hfit; rename_i hfit; clear hfit
        go_wp2_with fail
        refine (HF.out _ (HB.out.alloc (HB.out.size) _)).mono ?_
        rintro e w5 ⟨rfl, rfl⟩
        go_wp2
        go_roundw
        case rel => exact ⟨1, by omega, rfl, HB.out.alloc (HB.out.size) _, fun _ => PK, fun h => by omega, fun h => by omega⟩
        case measure => simp [intOf]
    · have he2 : (wRec.toList == wd.toList) = false := by simpa [eqW] using he
      have PK : Hid ((eqW wRec wd && fit0 i) = false) := by unfold Hid; rw [show eqW wRec wd = false by simpa using he, Bool.false_and]
      clear he
      go_wp2
      go_roundw
      case rel => exact ⟨1, by omega, rfl, HB.out.alloc (HB.out.size) _, fun _ => PK, fun h => by omega, fun h => by omega⟩
      case measure => simp [intOf]
  · have c0 := (HK.out.old HB.out).cell 3; have c1 := (HK.out.old HB.out).cell 4; have c2 := (HK.out.old HB.out).cell 5
    simp only [kindC, fn0, List.getElem?_cons_succ, List.getElem?_cons_zero] at c0 c1 c2
    have P0 := hk0 (by omega)
    clear hk0 hk1 hk2
    have hnew1 : ∀ o : Obj, (wr.alloc o).heap.size = wr.heap.size + 1 := fun o => by simp
    by_cases he : eqW wMark wd = true
    · have he2 : (wMark.toList == wd.toList) = true := he
      by_cases hfit : (fit1 i S) = true
      · skip
        have HO2 : Hid (out = (markOk ws.tail, markS S ws.tail, ws.tail.tail.tail)) := by unfold Hid; rw [HO.out, lineR, ← HWD.out, if_neg (Bool.eq_false_iff.1 P0.out), if_pos (by rw [he, hfit]; rfl)]
        have HF : Hid (∀ W, Below w2.heap.size w2 W → Calls Tryz.prog 148 #[.pointer (some ⟨R, 0, none⟩), .int .i64 i] W fun e w' => e = .returned (.bool true) ∧ w' = W) := fun W hW => by have := fits2_any w0 R g S ws.tail i W (H2.out.old hW); rw [show (decide (0 < i) && decide (S.2.2.1.length = 0)) = true from hfit] at this; exact this
        clear he hfit
        go_wp2_with fail
        refine (HF.out _ (HB.out.alloc (HB.out.size) _)).mono ?_
        rintro e w5 ⟨rfl, rfl⟩
        go_wp2_with fail
        refine (readMark_any w0 R g S ws.tail _ (H2.out.old (HB.out.alloc (HB.out.size) _)) (by simp; omega) (by omega)).mono ?_
        rintro e w6 ⟨rfl, h6⟩
        have H6 := Lib.hid h6
        clear h6
        go_wp2
        go_ret
        exact ⟨by rw [HO2.out]; rfl, by rw [HO2.out]; exact H6.out⟩
      · have hfit : (fit1 i S) = false := by simpa using hfit
        have PK : Hid ((eqW wMark wd && fit1 i S) = false) := by unfold Hid; rw [hfit, Bool.and_false]
        have HF : Hid (∀ W, Below w2.heap.size w2 W → Calls Tryz.prog 148 #[.pointer (some ⟨R, 0, none⟩), .int .i64 i] W fun e w' => e = .returned (.bool false) ∧ w' = W) := fun W hW => by have := fits2_any w0 R g S ws.tail i W (H2.out.old hW); rw [show (decide (0 < i) && decide (S.2.2.1.length = 0)) = false from hfit] at this; exact this
        clear he hfit; rename_i hfit; clear hfit
        go_wp2_with fail
        refine (HF.out _ (HB.out.alloc (HB.out.size) _)).mono ?_
        rintro e w5 ⟨rfl, rfl⟩
        go_wp2
        go_roundw
        case rel => exact ⟨2, by omega, rfl, HB.out.alloc (HB.out.size) _, fun _ => P0, fun _ => PK, fun h => by omega⟩
        case measure => simp [intOf]
    · have he2 : (wMark.toList == wd.toList) = false := by simpa [eqW] using he
      have PK : Hid ((eqW wMark wd && fit1 i S) = false) := by unfold Hid; rw [show eqW wMark wd = false by simpa using he, Bool.false_and]
      clear he
      go_wp2
      go_roundw
      case rel => exact ⟨2, by omega, rfl, HB.out.alloc (HB.out.size) _, fun _ => P0, fun _ => PK, fun h => by omega⟩
      case measure => simp [intOf]
  · have c0 := (HK.out.old HB.out).cell 6; have c1 := (HK.out.old HB.out).cell 7; have c2 := (HK.out.old HB.out).cell 8
    simp only [kindC, fn0, List.getElem?_cons_succ, List.getElem?_cons_zero] at c0 c1 c2
    have P0 := hk0 (by omega)
    have P1 := hk1 (by omega)
    clear hk0 hk1 hk2
    have hnew1 : ∀ o : Obj, (wr.alloc o).heap.size = wr.heap.size + 1 := fun o => by simp
    by_cases he : eqW wSamp wd = true
    · have he2 : (wSamp.toList == wd.toList) = true := he
      by_cases hfit : (fit2 i) = true
      · skip
        have HO2 : Hid (out = (sampOk ws.tail, sampS S ws.tail, ws.tail.tail)) := by unfold Hid; rw [HO.out, lineR, ← HWD.out, if_neg (Bool.eq_false_iff.1 P0.out), if_neg (Bool.eq_false_iff.1 P1.out), if_pos (by rw [he, hfit]; rfl)]
        have HF : Hid (∀ W, Below w2.heap.size w2 W → Calls Tryz.prog 150 #[.pointer (some ⟨R, 0, none⟩), .int .i64 i] W fun e w' => e = .returned (.bool true) ∧ w' = W) := fun W hW => by have := fits3_any (.pointer (some ⟨R, 0, none⟩)) i W; rw [show decide (0 < i) = true from hfit] at this; exact this
        clear he hfit
        go_wp2_with fail
        refine (HF.out _ (HB.out.alloc (HB.out.size) _)).mono ?_
        rintro e w5 ⟨rfl, rfl⟩
        go_wp2_with fail
        refine (readSample_any w0 R g S ws.tail _ (H2.out.old (HB.out.alloc (HB.out.size) _)) (by simp; omega) (by omega) HN.out).mono ?_
        rintro e w6 ⟨rfl, h6⟩
        have H6 := Lib.hid h6
        clear h6
        go_wp2
        go_ret
        exact ⟨by rw [HO2.out]; rfl, by rw [HO2.out]; exact H6.out⟩
      · have hfit : (fit2 i) = false := by simpa using hfit
        have PK : Hid ((eqW wSamp wd && fit2 i) = false) := by unfold Hid; rw [hfit, Bool.and_false]
        have HF : Hid (∀ W, Below w2.heap.size w2 W → Calls Tryz.prog 150 #[.pointer (some ⟨R, 0, none⟩), .int .i64 i] W fun e w' => e = .returned (.bool false) ∧ w' = W) := fun W hW => by have := fits3_any (.pointer (some ⟨R, 0, none⟩)) i W; rw [show decide (0 < i) = false from hfit] at this; exact this
        clear he hfit; rename_i hfit; clear hfit
        go_wp2_with fail
        refine (HF.out _ (HB.out.alloc (HB.out.size) _)).mono ?_
        rintro e w5 ⟨rfl, rfl⟩
        go_wp2
        go_roundw
        case rel => exact ⟨3, by omega, rfl, HB.out.alloc (HB.out.size) _, fun _ => P0, fun _ => P1, fun _ => PK⟩
        case measure => simp [intOf]
    · have he2 : (wSamp.toList == wd.toList) = false := by simpa [eqW] using he
      have PK : Hid ((eqW wSamp wd && fit2 i) = false) := by unfold Hid; rw [show eqW wSamp wd = false by simpa using he, Bool.false_and]
      clear he
      go_wp2
      go_roundw
      case rel => exact ⟨3, by omega, rfl, HB.out.alloc (HB.out.size) _, fun _ => P0, fun _ => P1, fun _ => PK⟩
      case measure => simp [intOf]
  · have P0 := hk0 (by omega); have P1 := hk1 (by omega); have P2 := hk2 (by omega)
    clear hk0 hk1 hk2
    have HO2 : Hid (out = (false, S, ws.tail)) := by unfold Hid; rw [HO.out, lineR, ← HWD.out, if_neg (Bool.eq_false_iff.1 P0.out), if_neg (Bool.eq_false_iff.1 P1.out), if_neg (Bool.eq_false_iff.1 P2.out)]
    have H6 := Lib.hid (H2.out.old HB.out)
    go_wp2
    go_ret
    exact ⟨by rw [HO2.out]; rfl, by rw [HO2.out]; exact H6.out⟩
def Mx (w : World) : Prop := ∃ m, w.cell? ⟨3, 0, none⟩ = some (.int .i64 m)
theorem Mx.old {w w' : World} (h : Mx w) (hb : Below w.heap.size w w') : Mx w' := by
 obtain ⟨m, hm⟩ := h
 exact ⟨m, (hb.cell (World.block_lt_of_cell? w _ hm)).trans hm⟩
def lf : ByteArray := ⟨#[10]⟩
def sp : ByteArray := ⟨#[32]⟩
def linesA (s : ByteArray) : List ByteArray := Lib.splitB lf 1 (Lib.countB s lf) s
def wordsL (s : ByteArray) : List ByteArray := Lib.splitB sp 0 (Lib.countB s sp) s
theorem linesA_length (s : ByteArray) : (linesA s).length = Lib.countB s lf + 1 := Lib.splitB_all lf (by decide) 1 _ s rfl
theorem wordsL_length (s : ByteArray) : (wordsL s).length = Lib.countB s sp + 1 := Lib.splitB_all sp (by decide) 0 _ s rfl
theorem linesA_le (s : ByteArray) : (linesA s).length ≤ s.size + 1 := by
 rw [linesA_length]; have := Lib.countB_le lf (by decide) _ s (Nat.le_refl _); omega
theorem wordsL_le (s : ByteArray) : (wordsL s).length ≤ s.size + 1 := by
 rw [wordsL_length]; have := Lib.countB_le sp (by decide) _ s (Nat.le_refl _); omega
theorem cellsOf_full (l : List ByteArray) : Lib.cellsOf l l.length = (strs l).toArray := by simp [Lib.cellsOf, strs]
theorem split_any (s : ByteArray) (w : World) (hs : s.size ≤ 100000) (hm : Mx w) : Calls Tryz.prog 117 #[.string s, .string ⟨#[32]⟩] w fun e w' => e = .returned (.slice (some ⟨w.heap.size, 0, none⟩) (wordsL s).length (wordsL s).length) ∧ w' = w.alloc (.cells (strs (wordsL s)).toArray 9) := by
 obtain ⟨m, hm⟩ := hm
 have := Tryz.strings_Split s sp m w (by omega) hm (by decide)
 rw [wordsL_length]
 exact this
set_option maxHeartbeats 400000 in
theorem splitAfter_any (s : ByteArray) (w : World) (hs : s.size ≤ 100000) (hm : Mx w) : Calls Tryz.prog 143 #[.string s, .string ⟨#[10]⟩] w fun e w' => e = .returned (.slice (some ⟨w.heap.size, 0, none⟩) (linesA s).length (linesA s).length) ∧ w' = w.alloc (.cells (strs (linesA s)).toArray 9) := by
 obtain ⟨m, hm⟩ := hm
 have HG : Hid (Calls Tryz.prog 145 #[.string s, .string ⟨#[10]⟩, .int .i64 1, .int .i64 (-1)] w fun e w' => e = .returned (.slice (some ⟨w.heap.size, 0, none⟩) (linesA s).length (linesA s).length) ∧ w' = w.alloc (.cells (strs (linesA s)).toArray 9)) := by
  have hle := Lib.countB_le lf (by decide) _ s (Nat.le_refl _)
  have := Tryz.strings_genSplit s lf 1 (-1) (Lib.countB s lf + 1) m w (by omega) hm (by decide) (by decide) (by decide) (by decide) (by rw [if_pos (by decide)]; omega)
  rw [Nat.add_sub_cancel] at this
  rw [← linesA_length, show Lib.splitB lf 1 (Lib.countB s lf) s = linesA s from rfl, cellsOf_full] at this
  exact this
 clear hm
 go_enter Tryz.func143, Tryz.ntmps143
 go_wp2_with fail
 refine HG.out.mono ?_
 rintro e w1 ⟨rfl, rfl⟩
 go_wp2
 go_ret
 exact ⟨rfl, rfl⟩
def lastE (s : ByteArray) : Bool := ((linesA s).getLastD ⟨#[]⟩).toList.isEmpty
def linesL (s : ByteArray) : List ByteArray := bif lastE s then (linesA s).dropLast else linesA s
set_option maxRecDepth 100000 in
set_option maxHeartbeats 1000000 in
theorem linesOf_any (s : ByteArray) (w : World) (hs : s.size ≤ 100000) (hm : Mx w) : Calls Tryz.prog 115 #[.string s] w fun e w' => ∃ c, e = .returned (.slice (some ⟨w.heap.size, 0, none⟩) (linesL s).length c) ∧ (linesL s).length ≤ c ∧ Row w' w.heap.size 9 (strs (linesA s)) ∧ Below w.heap.size w w' := by
 have HS := Lib.hid (splitAfter_any s w hs hm)
 have hl := linesA_length s
 obtain ⟨L, hL⟩ : ∃ L, L = linesA s := ⟨_, rfl⟩
 have hle : L.length ≤ 100001 := by rw [hL]; have := linesA_le s; omega
 obtain ⟨n, hn⟩ : ∃ n, L.length = n + 1 := ⟨_, by rw [hL]; exact hl⟩
 have hne : L ≠ [] := by intro h; rw [h] at hn; cases hn
 obtain ⟨la, hla⟩ : ∃ la, la = L.getLast hne := ⟨_, rfl⟩
 have hgl : (linesA s).getLastD ⟨#[]⟩ = la := by rw [← hL, hla, List.getLastD_eq_getLast?, List.getLast?_eq_some_getLast hne]; rfl
 have hla2 : L[n]? = some la := by rw [hla, List.getLast_eq_getElem, ← List.getElem?_eq_getElem]; congr 1; omega
 have HLE : Hid (lastE s = la.toList.isEmpty) := by unfold Hid lastE; rw [hgl]
 have R0 := Row.new w 9 (strs L)
 have HR0 := Lib.hid R0
 have cl : (w.alloc (.cells (strs L).toArray 9)).cell? ⟨w.heap.size, n, none⟩ = some (.string la) := by rw [R0.cell]; simp [strs, hla2]
 rw [← hL, hn] at HS
 have HLL : Hid (linesL s = bif la.toList.isEmpty then L.dropLast else L) := by unfold Hid linesL; rw [HLE.out, hL]
 have hdl : L.dropLast.length = n := by simp [hn]
 have hdt : L.dropLast = L.take n := by rw [List.dropLast_eq_take, hn]; rfl
 have HLe := Lib.hid hL
 clear hl hla hgl hla2 hm R0 HLE hL
 have hsl := fun W => slice_to (P := Tryz.prog) 78 (by kernel_rfl) 1 (fun W => by kernel_rfl) (some ⟨w.heap.size, 0, none⟩) (n + 1) (n + 1) (n : Int) (by omega) (by omega) W
 cases he : la.toList.isEmpty
 · go_enter Tryz.func115, Tryz.ntmps115
   go_wp2_with fail
   refine HS.out.mono ?_
   rintro e w1 ⟨rfl, rfl⟩
   go_wp2
   go_ret
   rw [he] at HLL
   exact ⟨_, by rw [HLL.out, cond_false, hn]; rfl, by rw [HLL.out, cond_false, hn]; exact Nat.le_refl _, by rw [← HLe.out]; exact HR0.out, (Below.refl _ _).alloc (Nat.le_refl _) _⟩
 · go_enter Tryz.func115, Tryz.ntmps115
   go_wp2_with fail
   refine HS.out.mono ?_
   rintro e w1 ⟨rfl, rfl⟩
   go_wp2
   go_ret
   rw [he] at HLL
   exact ⟨_, by rw [HLL.out, cond_true, hdl]; rfl, by rw [HLL.out, cond_true, hdl]; omega, by rw [← HLe.out]; exact HR0.out, (Below.refl _ _).alloc (Nat.le_refl _) _⟩
theorem linesL_get {s : ByteArray} {j : Nat} {x : ByteArray} (h : (linesL s)[j]? = some x) : (linesA s)[j]? = some x := by
 unfold linesL at h
 cases hl : lastE s
 · rw [hl] at h; exact h
 · rw [hl, cond_true, List.getElem?_dropLast] at h
   split at h
   · exact h
   · cases h
theorem linesL_le (s : ByteArray) : (linesL s).length ≤ s.size + 1 := by
 have := linesA_le s
 unfold linesL
 cases lastE s <;> simp <;> omega
theorem splitB_small (sep : ByteArray) (save : Nat) : ∀ (k : Nat) (s : ByteArray), ∀ x ∈ Lib.splitB sep save k s, x.size ≤ s.size
 | 0, s, x, hx => by
   rw [Lib.splitB_zero] at hx
   simp at hx; rw [hx]; exact Nat.le_refl _
 | k + 1, s, x, hx => by
   unfold Lib.splitB at hx
   split at hx
   · simp at hx; rw [hx]; exact Nat.le_refl _
   · rcases List.mem_cons.1 hx with rfl | hx
     · rw [ByteArray.size_extract]; omega
     · have := splitB_small sep save k _ x hx
       rw [ByteArray.size_extract] at this; omega
theorem linesL_small {s : ByteArray} {x : ByteArray} (h : x ∈ linesL s) : x.size ≤ s.size := by
 obtain ⟨j, hj, rfl⟩ := List.getElem_of_mem h
 have := linesL_get (List.getElem?_eq_getElem hj)
 exact splitB_small lf 1 _ s _ (List.mem_of_getElem? this)
def textL (l : ByteArray) : ByteArray := ⟨(Lib.trimSuffix l.data.toList [10]).toArray⟩
def endedL (l : ByteArray) : Bool := Lib.hasSuffix l.data.toList [10]
theorem textL_small (l : ByteArray) : (textL l).size ≤ l.size := by
 unfold textL Lib.trimSuffix
 have hx : l.data.toList.length = l.size := Array.length_toList
 split
 · show (List.toArray _).size ≤ _
   rw [List.size_toArray, List.length_take]; omega
 · exact Nat.le_of_eq hx
theorem cutSuffix_any (l : ByteArray) (w : World) (hs : l.size ≤ 100000) : Calls Tryz.prog 116 #[.string l, .string ⟨#[10]⟩] w fun e w' => e = .returned (.tuple #[.string (textL l), .bool (endedL l)]) ∧ w' = w := Tryz.strings_CutSuffix l lf w (by omega)
def RcI (w0 : World) (R : Nat) (S : PaS) (W : World) : Prop :=
 w0.heap.size ≤ R ∧ ∃ vs vm, Row W R 33 (paV S vs vm) ∧ W.ownsRow w0.heap.size 56 1 vs S.2.2.1.length (flts S.2.2.1) ∧ W.ownsRow w0.heap.size 117 2 vm S.2.2.2.length (markC S.2.2.2) ∧ Below w0.heap.size w0 W
theorem RcI.old {w0 : World} {R : Nat} {S : PaS} {W W' : World} (h : RcI w0 R S W) (hb : Below W.heap.size W W') : RcI w0 R S W' := by
 obtain ⟨h1, vs, vm, h3, h4, h5, h7⟩ := h
 exact ⟨h1, vs, vm, h3.old hb, owns_below h4 hb, owns_below h5 hb, h7.trans (hb.mono h7.size)⟩
theorem PaI.rc {w0 : World} {lb : Nat} {L : List ByteArray} {R g : Nat} {S : PaS} {ws : List ByteArray} {W : World} (h : PaI w0 lb L R g S ws W) : RcI w0 R S W ∧ Row W lb 9 (strs L) ∧ WdI lb L g ws W := by
 obtain ⟨h1, h2, vs, vm, h3, h4, h5, h6, h7⟩ := h
 exact ⟨⟨h1, vs, vm, h3, h4, h5, h7⟩, h6.1, h6⟩
theorem RcI.pa {w0 : World} {lb : Nat} {L : List ByteArray} {R g : Nat} {S : PaS} {ws : List ByteArray} {W : World} (h : RcI w0 R S W) (hg : w0.heap.size ≤ g) (hw : WdI lb L g ws W) : PaI w0 lb L R g S ws W := by
 obtain ⟨h1, vs, vm, h3, h4, h5, h7⟩ := h
 exact ⟨h1, hg, vs, vm, h3, h4, h5, hw, h7⟩
theorem RcI.below {w0 : World} {R : Nat} {S : PaS} {W : World} (h : RcI w0 R S W) : Below w0.heap.size w0 W := by
 obtain ⟨_, _, _, _, _, _, h7⟩ := h; exact h7
def stepR (i : Int) (S : PaS) (l : ByteArray) : Bool × PaS := if endedL l then ((lineR i S (wordsL (textL l))).1 && (lineR i S (wordsL (textL l))).2.2.isEmpty, (lineR i S (wordsL (textL l))).2.1) else (false, S)
def linesGo : Nat → PaS → List ByteArray → Nat × Bool × PaS
 | i, S, [] => (i, true, S)
 | i, S, l :: r => if (stepR i S l).1 then linesGo (i + 1) (stepR i S l).2 r else (i, false, (stepR i S l).2)
def zeroS : PaS := (0, 0, [], [])
set_option maxHeartbeats 400000 in
theorem parse1_any (w0 : World) (lb : Nat) (L : List ByteArray) (R g : Nat) (S : PaS) (ws : List ByteArray) (i : Int) (w : World) (h : PaI w0 lb L R g S ws w) (hm : ws.length ≤ 100000) (hms : S.2.2.1.length ≤ 100000) (hmm : S.2.2.2.length ≤ 100000) (hn : smallN ws) :
 Calls Tryz.prog 54 #[.int .i64 i, .pointer (some ⟨g, 0, none⟩), .pointer (some ⟨R, 0, none⟩)] w fun e w' => e = .returned (.bool (lineR i S ws).1) ∧ PaI w0 lb L R g (lineR i S ws).2.1 (lineR i S ws).2.2 w' := by
 have HR := Lib.hid (readLine_any w0 R g S ws i w h hm hms hmm hn)
 clear h hn
 go_enter Tryz.func54, Tryz.ntmps54
 go_wp2_with fail
 refine HR.out.mono ?_
 rintro e w1 ⟨rfl, h1⟩
 have H1 := Lib.hid h1
 clear h1
 go_wp2
 go_ret
 exact ⟨rfl, H1.out⟩
end Go.Proofs.YtjdniebjhilooaaGreatDoor
namespace Go.Proofs.YtjdniebjhilooaaGreatDoor
set_option linter.all false
open Go.RowKit Go.Lib
def consH (x : UInt8) : List (List UInt8) → List (List UInt8)
 | [] => [[x]]
 | w :: ws => (x :: w) :: ws
def cutG (c : UInt8) (sv : Nat) : List UInt8 → List (List UInt8)
 | [] => [[]]
 | x :: l => if x = c then [c].take sv :: cutG c sv l else consH x (cutG c sv l)
theorem cutG_ne (c : UInt8) (sv : Nat) : ∀ l, cutG c sv l ≠ []
 | [] => by simp [cutG]
 | x :: l => by
   unfold cutG
   split
   · simp
   · cases h : cutG c sv l <;> simp [consH]
theorem index_eq0 (c : UInt8) (l : List UInt8) : index (c :: l) [c] = 0 := by
 rw [index]; simp [List.isPrefixOf]
theorem index_ne1 {x c : UInt8} (h : x ≠ c) (l : List UInt8) : index (x :: l) [c] = if index l [c] == -1 then -1 else index l [c] + 1 := by
 have hp : ([c] : List UInt8).isPrefixOf (x :: l) = false := by simp [List.isPrefixOf, Ne.symm h]
 rw [index, hp]; simp
theorem splitK_cut (c : UInt8) {sv : Nat} (hs : sv ≤ 1) : ∀ s : List UInt8, splitK [c] sv (count s [c]) s = cutG c sv s
 | [] => by rw [count_one]; rfl
 | x :: l => by
   have ih := splitK_cut c hs l
   unfold cutG
   by_cases h : x = c
   · subst h
     rw [if_pos rfl, count_cons_eq, Nat.add_comm, splitK, index_eq0, if_neg (by decide)]
     show List.take (0 + sv) (x :: l) :: splitK [x] sv (count l [x]) (List.drop 1 (x :: l)) = _
     rw [Nat.zero_add, List.drop_one, List.tail_cons, ih]
     congr 1
     match sv, hs with
     | 0, _ => rfl
     | 1, _ => rfl
   · rw [if_neg h, count_cons_ne x c l h]
     cases hk : count l [c] with
     | zero =>
       rw [hk] at ih
       rw [← ih]; rfl
     | succ k =>
       rw [hk] at ih
       have hm : ¬ index l [c] = -1 := fun e => by rw [count_miss e] at hk; cases hk
       have hge := index_ge l [c]
       obtain ⟨i, hi⟩ : ∃ i : Nat, index l [c] = i := ⟨(index l [c]).toNat, by omega⟩
       have hb : (index l [c] == -1) = false := by rw [beq_eq_false_iff_ne]; exact hm
       have hx : index (x :: l) [c] = ((i + 1 : Nat) : Int) := by rw [index_ne1 h, hb, hi]; simp
       rw [← ih]
       have n1 : ¬ (index (x :: l) [c] == -1) = true := by rw [beq_iff_eq, hx]; omega
       have n2 : ¬ (index l [c] == -1) = true := by rw [hb]; simp
       unfold splitK
       rw [if_neg n1, if_neg n2, hx, hi]
       show List.take (i + 1 + sv) (x :: l) :: splitK [c] sv k (List.drop (i + 1 + 1) (x :: l)) = (x :: List.take (i + sv) l) :: splitK [c] sv k (List.drop (i + 1) l)
       rw [show i + 1 + sv = (i + sv) + 1 by omega]
       rfl
def bl (s : ByteArray) : List UInt8 := s.data.toList
def lb (l : List UInt8) : ByteArray := ⟨l.toArray⟩
theorem lb_bl (s : ByteArray) : lb (bl s) = s := by
 unfold lb bl
 rfl
theorem bl_lb (l : List UInt8) : bl (lb l) = l := rfl
theorem splitB_cut (c : UInt8) {sv : Nat} (hs : sv ≤ 1) (s : ByteArray) : splitB ⟨#[c]⟩ sv (countB s ⟨#[c]⟩) s = (cutG c sv (bl s)).map lb := by
 have h := splitB_data ⟨#[c]⟩ sv (countB s ⟨#[c]⟩) s
 have e : splitK [c] sv (countB s ⟨#[c]⟩) (bl s) = cutG c sv (bl s) := splitK_cut c hs (bl s)
 have h2 : (splitB ⟨#[c]⟩ sv (countB s ⟨#[c]⟩) s).map bl = cutG c sv (bl s) := h.trans e
 rw [← h2, List.map_map]
 have e2 : (lb ∘ bl) = id := funext lb_bl
 rw [e2, List.map_id]
theorem linesA_cut (s : ByteArray) : linesA s = (cutG 10 1 (bl s)).map lb := splitB_cut 10 (Nat.le_refl _) s
theorem wordsL_cut (s : ByteArray) : wordsL s = (cutG 32 0 (bl s)).map lb := splitB_cut 32 (Nat.zero_le _) s
theorem digC_iff {c : UInt8} : digC c = true ↔ 48 ≤ c.toNat ∧ c.toNat ≤ 57 := by unfold digC; simp
theorem dec_small {u : Nat} (h : u < 10) : decDigits u = [UInt8.ofNat (48 + u)] := decDigits_one h
theorem dec_big {u : Nat} (h : ¬ u < 10) : decDigits u = decDigits (u / 10) ++ [UInt8.ofNat (48 + u % 10)] := by rw [decDigits, dif_neg h]
theorem dig_nat {d : Nat} (h : d < 10) : (UInt8.ofNat (48 + d)).toNat = 48 + d := by rw [UInt8.toNat_ofNat_of_lt' (by show 48 + d < 256; omega)]
theorem headD_app {l m : List UInt8} (h : l ≠ []) : (l ++ m).headD 0 = l.headD 0 := by
 cases l with
 | nil => exact absurd rfl h
 | cons a l => rfl
theorem dec_len : ∀ (k u : Nat), u < 10 ^ (k + 1) → (decDigits u).length ≤ k + 1
 | 0, u, h => by rw [dec_small (by omega)]; simp
 | k + 1, u, h => by
   by_cases h1 : u < 10
   · rw [dec_small h1]; simp
   · rw [dec_big h1, List.length_append]
     have := dec_len k (u / 10) (by rw [Nat.pow_succ] at h; omega)
     simp only [List.length_cons, List.length_nil]; omega
theorem dec_canon : ∀ (l : List UInt8), l ≠ [] → l.all digC = true → (l.headD 0 = 48 → l = [48]) → decDigits (valI l).toNat = l := by
 intro l
 obtain ⟨n, hn⟩ : ∃ n, l.length = n := ⟨_, rfl⟩
 induction n generalizing l with
 | zero => intro h; exact absurd (List.eq_nil_of_length_eq_zero hn) h
 | succ n ih =>
   intro hne ha hz
   have e := List.dropLast_concat_getLast hne
   obtain ⟨c, hc⟩ : ∃ c, c = l.getLast hne := ⟨_, rfl⟩
   obtain ⟨m, hm⟩ : ∃ m, m = l.dropLast := ⟨_, rfl⟩
   rw [← hc, ← hm] at e
   have hml : m.length = n := by rw [hm]; simp [hn]
   rw [← e, List.all_append] at ha
   simp only [Bool.and_eq_true, List.all_cons, List.all_nil, Bool.and_true] at ha
   obtain ⟨ha1, ha2⟩ := ha
   rw [digC_iff] at ha2
   have hcd : UInt8.ofNat (48 + (c.toNat - 48)) = c := by rw [show 48 + (c.toNat - 48) = c.toNat by omega, UInt8.ofNat_toNat]
   rw [← e, valI_snoc]
   by_cases hm0 : m = []
   · rw [hm0]
     show decDigits (10 * 0 + ((c.toNat : Int) - 48)).toNat = [c]
     rw [show (10 * 0 + ((c.toNat : Int) - 48)).toNat = c.toNat - 48 by omega, dec_small (by omega), hcd]
   · have hh : m.headD 0 ≠ 48 := by
      intro h48
      have h1 : l.headD 0 = 48 := by rw [← e, headD_app hm0]; exact h48
      have h2 := hz h1
      have h3 : l.length = 1 := by rw [h2]; rfl
      have h4 : m.length = 0 := by omega
      exact hm0 (List.eq_nil_of_length_eq_zero h4)
     have ih2 := ih m hml hm0 ha1 (fun h => absurd h hh)
     obtain ⟨hv0, -⟩ := valI_bd m.length m rfl ha1
     have hv1 : (valI m).toNat ≠ 0 := by
      intro h0
      rw [h0, dec_small (by decide)] at ih2
      apply hh
      rw [← ih2]; rfl
     have hu : (10 * valI m + ((c.toNat : Int) - 48)).toNat = 10 * (valI m).toNat + (c.toNat - 48) := by omega
     rw [hu, dec_big (by omega), show (10 * (valI m).toNat + (c.toNat - 48)) / 10 = (valI m).toNat by omega, show (10 * (valI m).toNat + (c.toNat - 48)) % 10 = c.toNat - 48 by omega, ih2, hcd]
theorem count_canon {l : List UInt8} (h : countOk l = true) : decDigits (countV l).toNat = l := by
 have h0 := h
 unfold countOk at h0
 simp only [Bool.and_eq_true, decide_eq_true_eq, Bool.not_eq_true'] at h0
 obtain ⟨⟨⟨h1, h2⟩, h3⟩, h4⟩ := h0
 unfold countV
 rw [if_pos h]
 refine dec_canon l (by intro e; subst e; cases h1) h4 fun h48 => ?_
 unfold zeroHead at h3
 rw [decide_eq_true h48, Bool.true_and, decide_eq_false_iff_not] at h3
 exact Classical.not_not.1 h3
theorem itoa_nat (u : Nat) : itoa (u : Int) = decDigits u := itoa_nonneg u
theorem count_itoa {l : List UInt8} (h : countOk l = true) : itoa (countV l) = l := by
 obtain ⟨h1, -⟩ := countV_bd l
 obtain ⟨u, hu⟩ : ∃ u : Nat, countV l = u := ⟨(countV l).toNat, by omega⟩
 have := count_canon h
 rw [hu] at this ⊢
 rw [itoa_nat]
 exact this
theorem tail_neg (l : List UInt8) : tailL (45 :: l) = l := by
 unfold tailL Lib.trimPrefix; simp [Lib.hasPrefix, List.isPrefixOf]
theorem neg_cons (l : List UInt8) : negL (45 :: l) = true := by
 unfold negL; simp [Lib.hasPrefix, List.isPrefixOf]
theorem tail_not {l : List UInt8} (h : negL l = false) : tailL l = l := by
 unfold negL at h
 unfold tailL Lib.trimPrefix
 rw [h]; rfl
end Go.Proofs.YtjdniebjhilooaaGreatDoor
namespace Go.Proofs.YtjdniebjhilooaaGreatDoor
set_option linter.all false
open Go.RowKit Go.Fl
theorem lineR_len (i : Int) (S : PaS) (ws : List ByteArray) : (lineR i S ws).2.1.2.2.1.length ≤ S.2.2.1.length + 1 ∧ (lineR i S ws).2.1.2.2.2.length ≤ S.2.2.2.length + 1 := by
 unfold lineR
 split
 · exact ⟨Nat.le_succ _, Nat.le_succ _⟩
 · split
   · exact ⟨Nat.le_succ _, by simp [markS]⟩
   · split
     · exact ⟨by simp [sampS], Nat.le_succ _⟩
     · exact ⟨Nat.le_succ _, Nat.le_succ _⟩
def okE (b : Bool) : Int := bif b then 0 else 25
theorem linesGo_cons {i : Nat} {S : PaS} {l : ByteArray} {r : List ByteArray} : linesGo i S (l :: r) = if (stepR i S l).1 then linesGo (i + 1) (stepR i S l).2 r else (i, false, (stepR i S l).2) := rfl
theorem stepR_not {i : Int} {S : PaS} {l : ByteArray} (h : endedL l = false) : stepR i S l = (false, S) := by unfold stepR; rw [h]; rfl
theorem stepR_is {i : Int} {S : PaS} {l : ByteArray} (h : endedL l = true) : stepR i S l = ((lineR i S (wordsL (textL l))).1 && (lineR i S (wordsL (textL l))).2.2.isEmpty, (lineR i S (wordsL (textL l))).2.1) := by unfold stepR; rw [h]; rfl
theorem newWords {w0 wr : World} {R lb : Nat} {S : PaS} {all ws : List ByteArray} (h : RcI w0 R S wr) (hl : Row wr lb 9 (strs all)) :
 PaI w0 lb all R (wr.heap.size + 1) S ws ((wr.alloc (.cells (strs ws).toArray 9)).alloc (.cells #[.slice (some ⟨wr.heap.size, 0, none⟩) ws.length ws.length] 202)) := by
 have hb : Below wr.heap.size wr ((wr.alloc (.cells (strs ws).toArray 9)).alloc (.cells #[.slice (some ⟨wr.heap.size, 0, none⟩) ws.length ws.length] 202)) := ((Below.refl _ _).alloc (Nat.le_refl _) _).alloc (by simp) _
 have h2 := Row.new (wr.alloc (.cells (strs ws).toArray 9)) 202 [.slice (some ⟨wr.heap.size, 0, none⟩) ws.length ws.length]
 rw [World.size_alloc] at h2
 exact (h.old hb).pa (by have := h.below.size; omega) ⟨hl.old hb, wr.heap.size, 0, ws.length, ws, h2, (Row.new wr 9 (strs ws)).alloc _, fun j x hx => by rw [Nat.zero_add]; exact hx, Nat.le_refl _⟩
set_option maxRecDepth 100000 in
set_option maxHeartbeats 4000000 in
theorem readLines_any (w0 : World) (R : Nat) (s : ByteArray) (w : World) (hR : RcI w0 R zeroS w) (hM : Mx w0) (hs : s.size ≤ 4096) (hn : ∀ l ∈ linesL s, smallN (wordsL (textL l))) :
 Calls Tryz.prog 53 #[.string s, .func (.func 54) #[] #[.pointer (some ⟨R, 0, none⟩)]] w fun e w' => e = .returned (.tuple #[.int .i64 (linesGo 0 zeroS (linesL s)).1, .int .i64 (okE (linesGo 0 zeroS (linesL s)).2.1)]) ∧ RcI w0 R (linesGo 0 zeroS (linesL s)).2.2 w' := by
 have HM : Hid (∀ W, Below w0.heap.size w0 W → Mx W) := fun W h => hM.old h
 have HR := Lib.hid hR
 have HNN := Lib.hid hn
 have HLO := Lib.hid (linesOf_any s w (by omega) (hM.old hR.below))
 have hll := linesL_le s
 obtain ⟨out, hout⟩ : ∃ out, out = linesGo 0 zeroS (linesL s) := ⟨_, rfl⟩
 rw [← hout]
 have HO := Lib.hid hout
 obtain ⟨LL, hLL⟩ : ∃ LL, LL = linesL s := ⟨_, rfl⟩
 obtain ⟨AL, hAL⟩ : ∃ AL, AL = linesA s := ⟨_, rfl⟩
 have HGet : Hid (∀ (j : Nat) x, LL[j]? = some x → AL[j]? = some x) := by rw [hLL, hAL]; exact fun j x h => linesL_get h
 have HSm : Hid (∀ x ∈ LL, x.size ≤ 4096) := by rw [hLL]; exact fun x h => Nat.le_trans (linesL_small h) hs
 rw [← hLL] at HO HLO HNN hll
 rw [← hAL] at HLO
 clear hR hM hn hout hLL hAL
 go_enter Tryz.func53, Tryz.ntmps53
 go_wp2_with fail
 refine HLO.out.mono ?_
 rintro e w1 ⟨c, rfl, hc, hrow, hb1⟩
 obtain ⟨lb, hlb⟩ : ∃ lb, lb = w.heap.size := ⟨_, rfl⟩
 rw [← hlb] at hrow ⊢
 have HR1 := Lib.hid (HR.out.old hb1)
 have HL1 := Lib.hid hrow
 clear hlb hb1 hrow HR HLO
 go_wp2
 go_loopw [19] (fun u wr => ∃ (k : Nat) (S : PaS), k ≤ LL.length ∧ u = .int .i64 k ∧ Hid (RcI w0 R S wr) ∧ Hid (Row wr lb 9 (strs AL)) ∧ Hid (S.2.2.1.length ≤ k ∧ S.2.2.2.length ≤ k) ∧ Hid (linesGo k S (LL.drop k) = out)) (fun u _ => LL.length - (intOf u).toNat)
 case atStart => exact ⟨0, zeroS, Nat.zero_le _, rfl, HR1.out, HL1.out, ⟨Nat.le_refl _, Nat.le_refl _⟩, HO.out.symm⟩
 case round =>
  clear HR1 HL1
  obtain ⟨k, S, hk, rfl, HI, HLr, HSl, Hgo⟩ := hrel
  by_cases hlt : k < LL.length
  · obtain ⟨l, hl⟩ : ∃ l, l = LL[k] := ⟨_, rfl⟩
    have hgl : LL[k]? = some l := by rw [List.getElem?_eq_getElem hlt, hl]
    have hmem : l ∈ LL := List.mem_of_getElem? hgl
    have hdrop : LL.drop k = l :: LL.drop (k + 1) := by rw [List.drop_eq_getElem_cons hlt, hl]
    have hsm := HSm.out l hmem
    have HN := Lib.hid (HNN.out l hmem)
    have q0 : wr.cell? ⟨lb, k, none⟩ = some (.string l) := by rw [HLr.out.cell]; simp only [strs, List.getElem?_map]; rw [HGet.out k l hgl]; rfl
    have Hgo2 : Hid ((if (stepR k S l).1 then linesGo (k + 1) (stepR k S l).2 (LL.drop (k + 1)) else (k, false, (stepR k S l).2)) = out) := by
     have := Hgo.out; rw [hdrop, linesGo_cons] at this; exact this
    have hts := textL_small l
    have hwl := wordsL_le (textL l)
    have HP : Hid _ := Lib.hid (newWords (ws := wordsL (textL l)) HI.out HLr.out)
    have HSP := Lib.hid (split_any (textL l) wr (by omega) (HM.out _ HI.out.below))
    obtain ⟨ws, hws⟩ : ∃ ws, ws = wordsL (textL l) := ⟨_, rfl⟩
    have Hst : Hid (endedL l = true → stepR k S l = ((lineR k S ws).1 && (lineR k S ws).2.2.isEmpty, (lineR k S ws).2.1)) := by rw [hws]; exact stepR_is
    have Hst2 : Hid (endedL l = false → stepR k S l = (false, S)) := stepR_not
    rw [← hws] at HP HSP HN hwl
    clear hl hgl hmem hdrop hws Hgo
    have hsz1 : ∀ o : Obj, (wr.alloc o).heap.size = wr.heap.size + 1 := fun o => by simp
    obtain ⟨en, hen⟩ : ∃ en, en = endedL l := ⟨_, rfl⟩
    have HCS := fun W => Lib.hid (cutSuffix_any l W (by omega))
    rw [← hen] at HCS Hst Hst2
    clear hen
    cases en
    · go_wp2_with fail
      refine (HCS _).out.mono ?_
      rintro e w5 ⟨rfl, rfl⟩
      go_wp2_with fail
      refine HSP.out.mono ?_
      rintro e w6 ⟨rfl, rfl⟩
      go_wp2
      have HOut : Hid (out = (k, false, S)) := by have := Hgo2.out; rw [Hst2.out trivial] at this; exact this.symm
      go_ret2
      exact ⟨by rw [HOut.out]; rfl, by rw [HOut.out]; exact HP.out.rc.1⟩
    · have HPC : Hid (Calls Tryz.prog 54 #[.int .i64 k, .pointer (some ⟨wr.heap.size + 1, 0, none⟩), .pointer (some ⟨R, 0, none⟩)] ((wr.alloc (.cells (strs ws).toArray 9)).alloc (.cells #[.slice (some ⟨wr.heap.size, 0, none⟩) ws.length ws.length] 202)) fun e w' => e = .returned (.bool (lineR k S ws).1) ∧ PaI w0 lb AL R (wr.heap.size + 1) (lineR k S ws).2.1 (lineR k S ws).2.2 w') := parse1_any w0 lb AL R _ S ws k _ HP.out (by omega) (by have := HSl.out.1; omega) (by have := HSl.out.2; omega) HN.out
      have hlen := lineR_len k S ws
      obtain ⟨⟨ok, S2, rest⟩, hr⟩ : ∃ r, r = lineR k S ws := ⟨_, rfl⟩
      rw [← hr] at HPC Hst hlen
      clear hr
      dsimp only at hlen
      have HSl2 : Hid (S2.2.2.1.length ≤ k + 1 ∧ S2.2.2.2.length ≤ k + 1) := ⟨by have := HSl.out.1; have := hlen.1; omega, by have := HSl.out.2; have := hlen.2; omega⟩
      clear hlen
      go_wp2_with fail
      refine (HCS _).out.mono ?_
      rintro e w5 ⟨rfl, rfl⟩
      go_wp2_with fail
      refine HSP.out.mono ?_
      rintro e w6 ⟨rfl, rfl⟩
      go_wp2_with fail
      refine HPC.out.mono ?_
      rintro e w7 ⟨rfl, h7⟩
      have H7 := Lib.hid h7.rc.1
      have H8 := Lib.hid h7.rc.2.1
      obtain ⟨-, rb, off, c7, all7, h8, -⟩ := h7.words
      have c8 := h8.cell 0
      simp only [List.getElem?_cons_zero] at c8
      clear h7 h8
      cases ok
      · have HOut : Hid (out = (k, false, S2)) := by have := Hgo2.out; rw [Hst.out trivial] at this; exact this.symm
        go_wp2
        go_ret2
        exact ⟨by rw [HOut.out]; rfl, by rw [HOut.out]; exact H7.out⟩
      · cases rest with
        | nil =>
          have HOut : Hid (linesGo (k + 1) S2 (LL.drop (k + 1)) = out) := by have := Hgo2.out; rw [Hst.out trivial] at this; exact this
          go_wp2
          go_roundw
          case rel => exact ⟨k + 1, S2, by omega, by go_num, H7.out, H8.out, HSl2.out, HOut.out⟩
          case measure => simp [intOf]; omega
        | cons x rest =>
          have HOut : Hid (out = (k, false, S2)) := by have := Hgo2.out; rw [Hst.out trivial] at this; exact this.symm
          have hpos : 0 < (x :: rest).length := by simp
          obtain ⟨n7, hn7⟩ : ∃ n7, n7 = (x :: rest).length := ⟨_, rfl⟩
          rw [← hn7] at c8 hpos
          clear hn7
          have hpos2 : ¬ n7 = 0 := by omega
          have hpos3 : ¬ (n7 : Int) ≤ 0 := by omega
          have hpos4 : (0 : Int) < (n7 : Int) := by omega
          go_wp2
          go_ret2
          exact ⟨by rw [HOut.out]; rfl, by rw [HOut.out]; exact H7.out⟩
  · obtain rfl : k = LL.length := by omega
    have HOut : Hid (out = (LL.length, true, S)) := by have := Hgo.out; rw [List.drop_length] at this; exact this.symm
    go_wp2
    go_ret2
    exact ⟨by rw [HOut.out]; rfl, by rw [HOut.out]; exact HI.out⟩
theorem results_ctt {P : Program} {fn : Func} {p t1 t2 : Tmp} {ty : TypeId} (h : fn.results = #[.cell p ty, .tmp t1, .tmp t2]) (tmps : Array Value) (w : World) (g : Nat) (e : TypeId) (cs : Array Value) (fr : Nat × Nat) (d : TypeDesc)
 (hp : tmps.getD p undef = .pointer (some ⟨g, 0, none⟩)) (hg : w.heap[g]? = some (.cells cs e fr))
 (hu : P.underlying ty = some d) (hd : (match d with | .struct _ | .array _ _ => true | _ => false) = true) (hi : (P.info? ty).map (·.size) = some cs.size) :
 (results fn tmps).run P w = .ok (.tuple #[.agg cs, tmps.getD t1 undef, tmps.getD t2 undef]) w := by
 have hp' : tmps[p]?.getD undef = .pointer (some ⟨g, 0, none⟩) := by simpa using hp
 simp [results, h, hp', asAddr, run_loadVar_row w g e ty cs fr d hg hu hd hi]
theorem Rd.far {W : World} {A : Option Addr} {vs : List Value} {g : Nat} (h : Rd W A vs) (hA : ∀ b off, A = some ⟨b, off, none⟩ → b ≠ g) (i : Nat) (u : Value) : Rd (W.setCell ⟨g, i, none⟩ u) A vs := by
 intro j v hv
 obtain ⟨b, off, h1, h2⟩ := h j v hv
 exact ⟨b, off, h1, (World.cell?_setCell_other W _ _ u (fun e => hA b off h1 (by cases e; rfl))).trans h2⟩
set_option maxRecDepth 100000 in
set_option maxHeartbeats 4000000 in
theorem parse_ok (s : ByteArray) (w : World) (st sp : Int) (xs : List Nat) (ms : List (Int × ByteArray)) (n : Nat) (hM : Mx w) (hs : s.size ≤ 4096) (hn : ∀ l ∈ linesL s, smallN (wordsL (textL l))) (hg : linesGo 0 zeroS (linesL s) = (n + 1, true, (st, sp, xs, ms))) (h0 : recI st sp xs ms = 0) :
 Calls Tryz.prog 11 #[.string s] w fun e w' => ∃ A c B d, e = .returned (.tuple #[.agg #[.int .i64 st, .int .i64 sp, .slice A xs.length c, .slice B ms.length d], .int .i64 0, .int .i64 0]) ∧ Rd w' A (flts xs) ∧ Rd w' B (markC ms) ∧ Below w.heap.size w w' := by
 have hlx := (goodR_of h0).many
 obtain ⟨w0, hw0⟩ : ∃ w0, w0 = w.alloc (.cells zero4.toArray 33) := ⟨_, rfl⟩
 have hz0 : w0.heap.size = w.heap.size + 1 := by rw [hw0, World.size_alloc]
 have hb0 : Below w.heap.size w w0 := by rw [hw0]; exact (Below.refl _ _).alloc (Nat.le_refl _) _
 have hr0 : Row w0 w.heap.size 33 zero4 := by rw [hw0]; exact Row.new _ _ _
 have hb1 : Below w0.heap.size w0 (w0.alloc (.cells zero4.toArray 33)) := (Below.refl _ _).alloc (Nat.le_refl _) _
 have HI : Hid (RcI w0 (w.heap.size + 1) zeroS (w0.alloc (.cells zero4.toArray 33))) := by
  have h := Row.new w0 33 zero4
  rw [hz0] at h
  exact ⟨by omega, _, _, h, World.ownsRow_nil _ _ _ _, World.ownsRow_nil _ _ _ _, hb1⟩
 have HL : Hid (Calls Tryz.prog 53 #[.string s, .func (.func 54) #[] #[.pointer (some ⟨w.heap.size + 1, 0, none⟩)]] ((w.alloc (.cells zero4.toArray 33)).alloc (.cells zero4.toArray 33)) fun e w' => e = .returned (.tuple #[.int .i64 (n + 1 : Nat), .int .i64 0]) ∧ RcI w0 (w.heap.size + 1) (st, sp, xs, ms) w') := by
  have := readLines_any w0 (w.heap.size + 1) s _ HI.out (hM.old hb0) hs hn
  rw [hg] at this; rw [← hw0]; exact this
 have Hr0 := Lib.hid hr0; have Hb0 := Lib.hid hb0; have Hz0 := Lib.hid hz0
 have HE := Lib.hid h0
 clear hw0 hz0 hb0 hr0 hb1 HI hn hg h0 hM
 go_enter Tryz.func11, Tryz.ntmps11
 go_wp2_with fail
 refine HL.out.mono ?_
 rintro e w1 ⟨rfl, h1⟩
 obtain ⟨k1, vs, vm, k3, k4, k5, k6⟩ := h1
 obtain ⟨A, c, rfl, hA⟩ := owned_slice k4
 obtain ⟨B, d, rfl, hB⟩ := owned_slice k5
 have HAb : Hid (∀ b off, A = some ⟨b, off, none⟩ → b ≠ w.heap.size) := fun b off e => by
  have := (k4.lt b (by rw [e]; rfl)).1
  have := Hz0.out; omega
 have HBb : Hid (∀ b off, B = some ⟨b, off, none⟩ → b ≠ w.heap.size) := fun b off e => by
  have := (k5.lt b (by rw [e]; rfl)).1
  have := Hz0.out; omega
 have hr1 : Row w1 w.heap.size 33 zero4 := Hr0.out.below k6 (by have := Hz0.out; omega)
 have HB1 : Hid (Below w.heap.size w w1) := Hb0.out.trans (k6.mono (by have := Hz0.out; omega))
 have q0 := k3.cell 0; have q1 := k3.cell 1; have q2 := k3.cell 2; have q3 := k3.cell 3
 have HC : Hid (Calls Tryz.prog 45 #[.agg #[.int .i64 st, .int .i64 sp, .slice A xs.length c, .slice B ms.length d]] w1 fun e w' => e = .returned (.int .i64 0) ∧ Below w1.heap.size w1 w') := by
  have := checkRecording_any st sp A B xs.length c ms.length d xs ms w1 hA hB rfl rfl (by omega)
  rw [HE.out] at this; exact this
 have HA := Lib.hid hA; have HB := Lib.hid hB; have K3 := Lib.hid k3; have R1 := Lib.hid hr1
 simp only [paV, List.getElem?_cons_succ, List.getElem?_cons_zero] at q0 q1 q2 q3
 clear k1 k3 k4 k5 k6 hA hB hr1
 go_wp2_with fail
 refine HC.out.mono ?_
 rintro e w2 ⟨rfl, hb2⟩
 have k3 := K3.out.old hb2
 have r2 := R1.out.old hb2
 have p0 := k3.cell 0; have p1 := k3.cell 1; have p2 := k3.cell 2; have p3 := k3.cell 3
 have z0 := r2.cell 0; have z1 := r2.cell 1; have z2 := r2.cell 2; have z3 := r2.cell 3
 have f0 := r2.free 0; have f1 := r2.free 1; have f2 := r2.free 2; have f3 := r2.free 3
 have HA2 := Lib.hid (HA.out.below hb2); have HB2 := Lib.hid (HB.out.below hb2)
 have HB3 := Lib.hid (HB1.out.trans (hb2.mono HB1.out.size))
 have R2 := Lib.hid r2
 simp only [paV, zero4, List.getElem?_cons_succ, List.getElem?_cons_zero] at p0 p1 p2 p3 z0 z1 z2 z3
 clear k3 r2 hb2 q0 q1 q2 q3 K3 R1
 go_wp2
 have hrow := (((R2.out.set 0 (.int .i64 st)).set 1 (.int .i64 sp)).set 2 (.slice A xs.length c)).set 3 (.slice B ms.length d)
 have hbb := (((HB3.out.setCell (p := ⟨w.heap.size, 0, none⟩) (Nat.le_refl _) (.int .i64 st)).setCell (p := ⟨w.heap.size, 1, none⟩) (Nat.le_refl _) (.int .i64 sp)).setCell (p := ⟨w.heap.size, 2, none⟩) (Nat.le_refl _) (.slice A xs.length c)).setCell (p := ⟨w.heap.size, 3, none⟩) (Nat.le_refl _) (.slice B ms.length d)
 refine bodyPost_ret (results_ctt rfl _ _ w.heap.size 33 #[.int .i64 st, .int .i64 sp, .slice A xs.length c, .slice B ms.length d] (0, 0) _ rfl hrow Tryz.underlying33 rfl (by kernel_rfl)) rfl ⟨A, c, B, d, rfl, ?_, ?_, hbb⟩
 · exact (((HA2.out.far HAb.out _ _).far HAb.out _ _).far HAb.out _ _).far HAb.out _ _
 · exact (((HB2.out.far HBb.out _ _).far HBb.out _ _).far HBb.out _ _).far HBb.out _ _
end Go.Proofs.YtjdniebjhilooaaGreatDoor
namespace Go.Proofs.YtjdniebjhilooaaGreatDoor
set_option linter.all false
open Go.RowKit Go.Lib Go.Fl
theorem lineB_bl (ws : List ByteArray) : bl (lineB ws) = Lib.join (ws.map bl) [32] ++ [10] := lineB_list ws
theorem suffix_snoc (l : List UInt8) (c : UInt8) : Lib.hasSuffix (l ++ [c]) [c] = true := by
 unfold Lib.hasSuffix
 rw [List.isSuffixOf_iff_suffix]
 exact List.suffix_append l [c]
theorem trim_snoc (l : List UInt8) (c : UInt8) : Lib.trimSuffix (l ++ [c]) [c] = l := by
 unfold Lib.trimSuffix
 rw [suffix_snoc, if_pos rfl]
 simp
theorem ended_snoc {l : ByteArray} {t : List UInt8} (h : bl l = t ++ [10]) : endedL l = true ∧ textL l = lb t := by
 unfold endedL textL
 have h2 : l.data.toList = t ++ [10] := h
 rw [h2, suffix_snoc, trim_snoc]
 exact ⟨rfl, rfl⟩
theorem ended_is {l : ByteArray} (h : endedL l = true) : bl l = bl (textL l) ++ [10] := by
 unfold endedL Lib.hasSuffix at h
 rw [List.isSuffixOf_iff_suffix] at h
 obtain ⟨t, ht⟩ := h
 have h2 : bl l = t ++ [10] := ht.symm
 rw [(ended_snoc h2).2, bl_lb, h2]
theorem lastE_map {l : List (List UInt8)} {a : List UInt8} : ((l ++ [a]).map lb).getLastD ⟨#[]⟩ = lb a := by simp
theorem emp_lb (a : List UInt8) : (lb a).toList.isEmpty = a.isEmpty := by rw [ByteArray.toList_eq]; rfl
theorem eqW_self (k : ByteArray) : eqW k k = true := by unfold eqW; simp
theorem eqW_is {k w : ByteArray} (h : eqW k w = true) : w = k := by
 unfold eqW at h
 rw [beq_iff_eq, ByteArray.toList_eq, ByteArray.toList_eq] at h
 have h2 : bl k = bl w := h
 have h3 := congrArg lb h2
 rw [lb_bl, lb_bl] at h3
 exact h3.symm
theorem eqW_ms : eqW wMark wSamp = false := by decide +kernel
theorem count_ne {l : List UInt8} (h : countOk l = true) : l ≠ [] := by
 intro e; subst e; cases h
theorem int_ne {l : List UInt8} (h : intOk l = true) : l ≠ [] := by
 intro e; subst e; exact absurd h (by decide)
theorem countB {w : ByteArray} (h : countOk w.data.toList = true) : itoaB (countV w.data.toList) = w := by
 have := count_itoa h
 show lb (itoa _) = w
 rw [this]; exact lb_bl w

theorem smallN_all (ws : List ByteArray) : smallN ws := by
 unfold smallN
 have := intV_bd (headW ws.tail).data.toList
 omega
theorem step_len (i : Int) (S : PaS) (l : ByteArray) : (stepR i S l).2.2.2.1.length ≤ S.2.2.1.length + 1 := by
 unfold stepR
 split
 · exact (lineR_len i S _).1
 · exact Nat.le_succ _
theorem go_len : ∀ (ls : List ByteArray) (i : Nat) (S : PaS), (linesGo i S ls).2.2.2.2.1.length ≤ S.2.2.1.length + ls.length
 | [], i, S => Nat.le_refl _
 | l :: ls, i, S => by
   have h1 := step_len i S l
   show (if (stepR i S l).1 then linesGo (i + 1) (stepR i S l).2 ls else (i, false, (stepR i S l).2)).2.2.2.2.1.length ≤ _
   rw [List.length_cons]
   split
   · have h2 := go_len ls (i + 1) (stepR i S l).2
     omega
   · show (stepR i S l).2.2.2.1.length ≤ _
     omega
end Go.Proofs.YtjdniebjhilooaaGreatDoor
namespace Go.Proofs.YtjdniebjhilooaaGreatDoor
set_option linter.all false
open Go.RowKit Go.Fl
def zaggV : Value := .agg #[.int .i64 0, .int .i64 0, .slice none 0 0, .slice none 0 0]
set_option maxRecDepth 100000 in
set_option maxHeartbeats 4000000 in
theorem parse_bad (s : ByteArray) (w : World) (i : Nat) (S : PaS) (hM : Mx w) (hs : s.size ≤ 4096) (hg : linesGo 0 zeroS (linesL s) = (i, false, S)) :
 Calls Tryz.prog 11 #[.string s] w fun e w' => e = .returned (.tuple #[zaggV, .int .i64 i, .int .i64 25]) ∧ Below w.heap.size w w' := by
 obtain ⟨w0, hw0⟩ : ∃ w0, w0 = w.alloc (.cells zero4.toArray 33) := ⟨_, rfl⟩
 have hz0 : w0.heap.size = w.heap.size + 1 := by rw [hw0, World.size_alloc]
 have hb0 : Below w.heap.size w w0 := by rw [hw0]; exact (Below.refl _ _).alloc (Nat.le_refl _) _
 have hr0 : Row w0 w.heap.size 33 zero4 := by rw [hw0]; exact Row.new _ _ _
 have hb1 : Below w0.heap.size w0 (w0.alloc (.cells zero4.toArray 33)) := (Below.refl _ _).alloc (Nat.le_refl _) _
 have HI : Hid (RcI w0 (w.heap.size + 1) zeroS (w0.alloc (.cells zero4.toArray 33))) := by
  have h := Row.new w0 33 zero4
  rw [hz0] at h
  exact ⟨by omega, _, _, h, World.ownsRow_nil _ _ _ _, World.ownsRow_nil _ _ _ _, hb1⟩
 have HL : Hid (Calls Tryz.prog 53 #[.string s, .func (.func 54) #[] #[.pointer (some ⟨w.heap.size + 1, 0, none⟩)]] ((w.alloc (.cells zero4.toArray 33)).alloc (.cells zero4.toArray 33)) fun e w' => e = .returned (.tuple #[.int .i64 i, .int .i64 25]) ∧ RcI w0 (w.heap.size + 1) S w') := by
  have := readLines_any w0 (w.heap.size + 1) s _ HI.out (hM.old hb0) hs (fun l _ => smallN_all _)
  rw [hg] at this; rw [← hw0]; exact this
 have Hr0 := Lib.hid hr0; have Hb0 := Lib.hid hb0; have Hz0 := Lib.hid hz0
 clear hw0 hz0 hb0 hr0 hb1 HI hg hM
 go_enter Tryz.func11, Tryz.ntmps11
 go_wp2_with fail
 refine HL.out.mono ?_
 rintro e w1 ⟨rfl, h1⟩
 obtain ⟨k1, vs, vm, k3, k4, k5, k6⟩ := h1
 have hr1 : Row w1 w.heap.size 33 zero4 := Hr0.out.below k6 (by have := Hz0.out; omega)
 have HB1 : Hid (Below w.heap.size w w1) := Hb0.out.trans (k6.mono (by have := Hz0.out; omega))
 have z0 := hr1.cell 0; have z1 := hr1.cell 1; have z2 := hr1.cell 2; have z3 := hr1.cell 3
 have f0 := hr1.free 0; have f1 := hr1.free 1; have f2 := hr1.free 2; have f3 := hr1.free 3
 have R1 := Lib.hid hr1
 simp only [zero4, List.getElem?_cons_succ, List.getElem?_cons_zero] at z0 z1 z2 z3
 clear hr1 k1 k3 k4 k5 k6
 go_wp2
 have hrow := (((R1.out.set 0 (.int .i64 0)).set 1 (.int .i64 0)).set 2 (.slice none 0 0)).set 3 (.slice none 0 0)
 have hbb := (((HB1.out.setCell (p := ⟨w.heap.size, 0, none⟩) (Nat.le_refl _) (.int .i64 0)).setCell (p := ⟨w.heap.size, 1, none⟩) (Nat.le_refl _) (.int .i64 0)).setCell (p := ⟨w.heap.size, 2, none⟩) (Nat.le_refl _) (.slice none 0 0)).setCell (p := ⟨w.heap.size, 3, none⟩) (Nat.le_refl _) (.slice none 0 0)
 exact bodyPost_ret (results_ctt rfl _ _ w.heap.size 33 #[.int .i64 0, .int .i64 0, .slice none 0 0, .slice none 0 0] (0, 0) _ rfl hrow Tryz.underlying33 rfl (by kernel_rfl)) rfl ⟨rfl, hbb⟩
set_option maxRecDepth 100000 in
set_option maxHeartbeats 4000000 in
theorem parse_empty (s : ByteArray) (w : World) (S : PaS) (hM : Mx w) (hs : s.size ≤ 4096) (hg : linesGo 0 zeroS (linesL s) = (0, true, S)) :
 Calls Tryz.prog 11 #[.string s] w fun e w' => e = .returned (.tuple #[zaggV, .int .i64 0, .int .i64 25]) ∧ Below w.heap.size w w' := by
 obtain ⟨w0, hw0⟩ : ∃ w0, w0 = w.alloc (.cells zero4.toArray 33) := ⟨_, rfl⟩
 have hz0 : w0.heap.size = w.heap.size + 1 := by rw [hw0, World.size_alloc]
 have hb0 : Below w.heap.size w w0 := by rw [hw0]; exact (Below.refl _ _).alloc (Nat.le_refl _) _
 have hr0 : Row w0 w.heap.size 33 zero4 := by rw [hw0]; exact Row.new _ _ _
 have hb1 : Below w0.heap.size w0 (w0.alloc (.cells zero4.toArray 33)) := (Below.refl _ _).alloc (Nat.le_refl _) _
 have HI : Hid (RcI w0 (w.heap.size + 1) zeroS (w0.alloc (.cells zero4.toArray 33))) := by
  have h := Row.new w0 33 zero4
  rw [hz0] at h
  exact ⟨by omega, _, _, h, World.ownsRow_nil _ _ _ _, World.ownsRow_nil _ _ _ _, hb1⟩
 have HL : Hid (Calls Tryz.prog 53 #[.string s, .func (.func 54) #[] #[.pointer (some ⟨w.heap.size + 1, 0, none⟩)]] ((w.alloc (.cells zero4.toArray 33)).alloc (.cells zero4.toArray 33)) fun e w' => e = .returned (.tuple #[.int .i64 0, .int .i64 0]) ∧ RcI w0 (w.heap.size + 1) S w') := by
  have := readLines_any w0 (w.heap.size + 1) s _ HI.out (hM.old hb0) hs (fun l _ => smallN_all _)
  rw [hg] at this; rw [← hw0]; exact this
 have Hr0 := Lib.hid hr0; have Hb0 := Lib.hid hb0; have Hz0 := Lib.hid hz0
 clear hw0 hz0 hb0 hr0 hb1 HI hg hM
 go_enter Tryz.func11, Tryz.ntmps11
 go_wp2_with fail
 refine HL.out.mono ?_
 rintro e w1 ⟨rfl, h1⟩
 obtain ⟨k1, vs, vm, k3, k4, k5, k6⟩ := h1
 have hr1 : Row w1 w.heap.size 33 zero4 := Hr0.out.below k6 (by have := Hz0.out; omega)
 have HB1 : Hid (Below w.heap.size w w1) := Hb0.out.trans (k6.mono (by have := Hz0.out; omega))
 have z0 := hr1.cell 0; have z1 := hr1.cell 1; have z2 := hr1.cell 2; have z3 := hr1.cell 3
 have f0 := hr1.free 0; have f1 := hr1.free 1; have f2 := hr1.free 2; have f3 := hr1.free 3
 have R1 := Lib.hid hr1
 simp only [zero4, List.getElem?_cons_succ, List.getElem?_cons_zero] at z0 z1 z2 z3
 clear hr1 k1 k3 k4 k5 k6
 go_wp2
 have hrow := (((R1.out.set 0 (.int .i64 0)).set 1 (.int .i64 0)).set 2 (.slice none 0 0)).set 3 (.slice none 0 0)
 have hbb := (((HB1.out.setCell (p := ⟨w.heap.size, 0, none⟩) (Nat.le_refl _) (.int .i64 0)).setCell (p := ⟨w.heap.size, 1, none⟩) (Nat.le_refl _) (.int .i64 0)).setCell (p := ⟨w.heap.size, 2, none⟩) (Nat.le_refl _) (.slice none 0 0)).setCell (p := ⟨w.heap.size, 3, none⟩) (Nat.le_refl _) (.slice none 0 0)
 exact bodyPost_ret (results_ctt rfl _ _ w.heap.size 33 #[.int .i64 0, .int .i64 0, .slice none 0 0, .slice none 0 0] (0, 0) _ rfl hrow Tryz.underlying33 rfl (by kernel_rfl)) rfl ⟨rfl, hbb⟩
set_option maxRecDepth 100000 in
set_option maxHeartbeats 4000000 in
theorem parse_err (s : ByteArray) (w : World) (n : Nat) (st sp : Int) (xs : List Nat) (ms : List (Int × ByteArray)) (hx : xs.length ≤ 1000000000) (h0 : recI st sp xs ms ≠ 0) (hM : Mx w) (hs : s.size ≤ 4096) (hg : linesGo 0 zeroS (linesL s) = (n + 1, true, (st, sp, xs, ms))) :
 Calls Tryz.prog 11 #[.string s] w fun e w' => e = .returned (.tuple #[zaggV, .int .i64 (n + 1 : Nat), .int .i64 (recI st sp xs ms)]) ∧ Below w.heap.size w w' := by
 obtain ⟨w0, hw0⟩ : ∃ w0, w0 = w.alloc (.cells zero4.toArray 33) := ⟨_, rfl⟩
 have hz0 : w0.heap.size = w.heap.size + 1 := by rw [hw0, World.size_alloc]
 have hb0 : Below w.heap.size w w0 := by rw [hw0]; exact (Below.refl _ _).alloc (Nat.le_refl _) _
 have hr0 : Row w0 w.heap.size 33 zero4 := by rw [hw0]; exact Row.new _ _ _
 have hb1 : Below w0.heap.size w0 (w0.alloc (.cells zero4.toArray 33)) := (Below.refl _ _).alloc (Nat.le_refl _) _
 have HI : Hid (RcI w0 (w.heap.size + 1) zeroS (w0.alloc (.cells zero4.toArray 33))) := by
  have h := Row.new w0 33 zero4
  rw [hz0] at h
  exact ⟨by omega, _, _, h, World.ownsRow_nil _ _ _ _, World.ownsRow_nil _ _ _ _, hb1⟩
 have HL : Hid (Calls Tryz.prog 53 #[.string s, .func (.func 54) #[] #[.pointer (some ⟨w.heap.size + 1, 0, none⟩)]] ((w.alloc (.cells zero4.toArray 33)).alloc (.cells zero4.toArray 33)) fun e w' => e = .returned (.tuple #[.int .i64 (n + 1 : Nat), .int .i64 0]) ∧ RcI w0 (w.heap.size + 1) (st, sp, xs, ms) w') := by
  have := readLines_any w0 (w.heap.size + 1) s _ HI.out (hM.old hb0) hs (fun l _ => smallN_all _)
  rw [hg] at this; rw [← hw0]; exact this
 obtain ⟨E, hE⟩ : ∃ E, E = recI st sp xs ms := ⟨_, rfl⟩
 rw [← hE] at h0 ⊢
 have HE := Lib.hid hE; have HE0 := Lib.hid h0; have HX := Lib.hid hx
 clear hE h0 hx
 have Hr0 := Lib.hid hr0; have Hb0 := Lib.hid hb0; have Hz0 := Lib.hid hz0
 clear hw0 hz0 hb0 hr0 hb1 HI hg hM
 go_enter Tryz.func11, Tryz.ntmps11
 go_wp2_with fail
 refine HL.out.mono ?_
 rintro e w1 ⟨rfl, h1⟩
 obtain ⟨k1, vs, vm, k3, k4, k5, k6⟩ := h1
 obtain ⟨A, c, rfl, hA⟩ := owned_slice k4
 obtain ⟨B, d, rfl, hB⟩ := owned_slice k5
 have hr1 : Row w1 w.heap.size 33 zero4 := Hr0.out.below k6 (by have := Hz0.out; omega)
 have HB1 : Hid (Below w.heap.size w w1) := Hb0.out.trans (k6.mono (by have := Hz0.out; omega))
 have q0 := k3.cell 0; have q1 := k3.cell 1; have q2 := k3.cell 2; have q3 := k3.cell 3
 have HC : Hid (Calls Tryz.prog 45 #[.agg #[.int .i64 st, .int .i64 sp, .slice A xs.length c, .slice B ms.length d]] w1 fun e w' => e = .returned (.int .i64 E) ∧ Below w1.heap.size w1 w') := by
  have := checkRecording_any st sp A B xs.length c ms.length d xs ms w1 hA hB rfl rfl (HX.out)
  rw [← HE.out] at this; exact this
 simp only [paV, List.getElem?_cons_succ, List.getElem?_cons_zero] at q0 q1 q2 q3
 have R0 := Lib.hid hr1
 have hn2 : ((n : Int) + 1 == 0) = false := by rw [beq_eq_false_iff_ne]; omega
 have hn3 : (((n + 1 : Nat) : Int) == 0) = false := by rw [beq_eq_false_iff_ne]; omega
 clear k1 k3 k4 k5 k6 hA hB hr1
 go_wp2_with fail
 refine HC.out.mono ?_
 rintro e w2 ⟨rfl, hb2⟩
 have hr1 := R0.out.old hb2
 have HB2 := Lib.hid (HB1.out.trans (hb2.mono HB1.out.size))
 clear HB1 hb2 q0 q1 q2 q3 R0
 have HB1 := HB2
 clear HB2
 have he : (E != 0) = true := by rw [bne_iff_ne]; exact HE0.out
 have z0 := hr1.cell 0; have z1 := hr1.cell 1; have z2 := hr1.cell 2; have z3 := hr1.cell 3
 have f0 := hr1.free 0; have f1 := hr1.free 1; have f2 := hr1.free 2; have f3 := hr1.free 3
 have R1 := Lib.hid hr1
 simp only [zero4, List.getElem?_cons_succ, List.getElem?_cons_zero] at z0 z1 z2 z3
 clear hr1
 go_wp2
 have hrow := (((R1.out.set 0 (.int .i64 0)).set 1 (.int .i64 0)).set 2 (.slice none 0 0)).set 3 (.slice none 0 0)
 have hbb := (((HB1.out.setCell (p := ⟨w.heap.size, 0, none⟩) (Nat.le_refl _) (.int .i64 0)).setCell (p := ⟨w.heap.size, 1, none⟩) (Nat.le_refl _) (.int .i64 0)).setCell (p := ⟨w.heap.size, 2, none⟩) (Nat.le_refl _) (.slice none 0 0)).setCell (p := ⟨w.heap.size, 3, none⟩) (Nat.le_refl _) (.slice none 0 0)
 exact bodyPost_ret (results_ctt rfl _ _ w.heap.size 33 #[.int .i64 0, .int .i64 0, .slice none 0 0, .slice none 0 0] (0, 0) _ rfl hrow Tryz.underlying33 rfl (by kernel_rfl)) rfl ⟨rfl, hbb⟩
theorem cut_count (c : UInt8) : ∀ l : List UInt8, (cutG c 0 l).length = l.count c + 1
 | [] => rfl
 | x :: l => by
   unfold cutG
   by_cases h : x = c
   · subst h
     rw [if_pos rfl, List.length_cons, cut_count x l, List.count_cons_self]
   · have hl : ∀ ls : List (List UInt8), ls ≠ [] → (consH x ls).length = ls.length := by
      intro ls h
      cases ls with
      | nil => exact absurd rfl h
      | cons a b => rfl
     rw [if_neg h, hl _ (cutG_ne c 0 l), cut_count c l, List.count_cons_of_ne (by simpa using h)]
theorem get_bl {s : ByteArray} {k : Nat} (h : k < s.size) : (bl s)[k]? = some s[k] := by
 show s.data.toList[k]? = _
 rw [Array.getElem?_toList]
 exact Array.getElem?_eq_getElem h
end Go.Proofs.YtjdniebjhilooaaGreatDoor
