import Derived.Test.YtaknlhepgeiekaaGreatDoorH23
import Derived.Test.YtaknlhepgeiekaaGreatDoorH25
namespace Go.Proofs.YtaknlhepgeiekaaGreatDoor
set_option linter.all false
open Go.RowKit Go.Fl
def flatC (l : List ByteArray) : List UInt8 := l.flatMap fun s => s.data.toList
theorem flatC_len (l : List ByteArray) (k : Nat) (h : ∀ x ∈ l, x.size ≤ k) : (flatC l).length ≤ l.length * k := by
 induction l with
 | nil => simp [flatC]
 | cons x l ih =>
   have h1 := h x (by simp)
   have h2 := ih (fun y hy => h y (by simp [hy]))
   have hx : x.data.toList.length = x.size := Array.length_toList
   unfold flatC at *
   rw [List.flatMap_cons, List.length_append, List.length_cons, Nat.succ_mul, hx]
   omega
theorem numLineB_size (wd : ByteArray) (l : List Int) (hs : ∀ x ∈ l, -9223372036854775808 ≤ x ∧ x ≤ 9223372036854775807) : (numLineB wd l).size ≤ wd.size + l.length * 22 + 1 := by
 unfold numLineB; rw [lineB_size]; exact numLine_len wd l hs
def cellsL (l : List ByteArray) : List Value := Lib.byteCells (flatC l)
theorem cellsL_snoc (l : List ByteArray) (s : ByteArray) : cellsL (l ++ [s]) = cellsL l ++ Lib.strCells s := by
 simp [cellsL, flatC, Lib.byteCells, Lib.strCells]
theorem cellsL_len (l : List ByteArray) : (cellsL l).length = (flatC l).length := by simp [cellsL, Lib.byteCells]
variable {lb : Nat} {L : List ByteArray}
theorem own_ne {W : World} {g : Nat} {t e : TypeId} {us : List Value} {B s n : Nat} {v : Value} {xs : List Value} (h : Row W g t us) (hr : W.ownsRow B e s v n xs) (hte : t ≠ e) : v.ownBlock = none ∨ v.ownBlock ≠ some g := by
 rcases hr.2 with ⟨h1, _⟩ | ⟨k, cap, cur, h1, _, h3, _⟩
 · exact .inl (by rw [h1]; rfl)
 · refine .inr ?_
   rw [h1]
   intro e2
   have e3 : k = g := by simpa [Value.ownBlock] using e2
   subst e3
   rw [show W.heap[k]? = _ from h] at h3
   cases h3; exact hte rfl
theorem grew_row {W W1 : World} {o : Obj} {v : Value} {e t : TypeId} {B s n g : Nat} {xs us : List Value} (h : Row W g t us) (hv : W.ownsRow B e s v n xs) (hg : (W.alloc o).grownBy W1 v.ownBlock) (ht : t ≠ e) : Row W1 g t us := by
 refine (h.alloc o).grown hg ?_
 rcases own_ne h hv ht with h1 | h1
 · rw [h1]; simp
 · exact fun e => h1 e.symm
theorem grew_wd {W W1 : World} {o : Obj} {v : Value} {e : TypeId} {B s n g : Nat} {xs : List Value} {ws : List ByteArray} (h : WdI lb L g ws W) (hv : W.ownsRow B e s v n xs) (hg : (W.alloc o).grownBy W1 v.ownBlock) (h1 : 225 ≠ e) (h2 : 9 ≠ e) : WdI lb L g ws W1 := by
 obtain ⟨k0, rb, off, c, all, k1, k2, k3⟩ := h
 exact ⟨grew_row k0 hv hg h2, rb, off, c, all, grew_row k1 hv hg h1, grew_row k2 hv hg h2, k3⟩
end Go.Proofs.YtaknlhepgeiekaaGreatDoor
