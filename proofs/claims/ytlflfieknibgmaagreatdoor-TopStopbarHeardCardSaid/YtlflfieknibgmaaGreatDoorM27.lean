import Derived.Test.YtlflfieknibgmaaGreatDoorM22
import Derived.Test.YtlflfieknibgmaaGreatDoorM26
namespace Go.Proofs.YtlflfieknibgmaaGreatDoor
set_option linter.all false
open Go.RowKit Go.Fl
def flatC (l : List ByteArray) : List UInt8 := l.flatMap fun s => s.data.toList
def cellsL (l : List ByteArray) : List Value := Lib.byteCells (flatC l)
theorem cellsL_snoc (l : List ByteArray) (s : ByteArray) : cellsL (l ++ [s]) = cellsL l ++ Lib.strCells s := by
  simp [cellsL, flatC, Lib.byteCells, Lib.strCells]
theorem cellsL_len (l : List ByteArray) : (cellsL l).length = (flatC l).length := by simp [cellsL, Lib.byteCells]
structure PrI (w : World) (b : Nat) (rv : List Value) (ls : List ByteArray) (W : World) : Prop where
  built : Lib.BuilderAtF 161 5 b b (.pointer (some ⟨b, 0, none⟩)) (cellsL ls) W
  below : Below w.heap.size w W
  row : Row W w.heap.size 64 rv
theorem PrI.old {w : World} {b : Nat} {rv : List Value} {ls : List ByteArray} {W W' : World} (h : PrI w b rv ls W) (hb : Below W.heap.size W W') : PrI w b rv ls W' := ⟨builder_old h.built hb, h.below.trans (hb.mono h.below.size), h.row.old hb⟩
theorem PrI.drew {w : World} {b : Nat} {rv : List Value} {ls : List ByteArray} {W : World} (h : PrI w b rv ls W) : PrI w b rv ls W.drew := ⟨h.built.drew, h.below.drew, h.row.drew⟩
theorem PrI.write {w : World} {b : Nat} {rv : List Value} {ls : List ByteArray} {W : World} {k : Nat} (l : ByteArray) (h : PrI w b rv ls W) (hwb : w.heap.size + 1 ≤ b) (hl : (flatC ls).length ≤ k) (hk : k + l.size ≤ 140737488355328) :
    Calls Tryz.prog 72 #[.pointer (some ⟨b, 0, none⟩), .string l] W fun e w' => e = .returned (.tuple #[.int .i64 l.size, .nilIface]) ∧ PrI w b rv (ls ++ [l]) w' ∧ Lib.OthersKept 5 (some b) W w' :=
  (writeString b b (cellsL ls) l W (.inr h.built) (by rw [cellsL_len]; omega) (by have := h.built.lt; omega)).mono fun e w' ⟨h1, h2, h3, h4⟩ => ⟨h1, ⟨by rw [cellsL_snoc]; exact h2, h.below.trans (h3.mono (by omega)), h.row.below h3 (by omega)⟩, h4⟩
end Go.Proofs.YtlflfieknibgmaaGreatDoor
