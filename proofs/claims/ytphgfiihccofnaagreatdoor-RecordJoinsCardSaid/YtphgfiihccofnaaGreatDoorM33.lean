import Derived.Test.YtphgfiihccofnaaGreatDoorM31
import Derived.Test.YtphgfiihccofnaaGreatDoorM23
import Derived.Test.YtphgfiihccofnaaGreatDoorM21
/- Contracts: a part of a recording by the reference. -/
namespace Go.Proofs.YtphgfiihccofnaaGreatDoor
set_option linter.all false
open Go.RowKit Go.Fl
set_option linter.unusedVariables false
set_option linter.unusedSimpArgs false

theorem cell_grown {w w' : World} {own : Option Nat} {g i : Nat} {v : Value} (h : w.cell? ⟨g, i, none⟩ = some v) (hg : w.grownBy w' own) (hne : some g ≠ own) : w'.cell? ⟨g, i, none⟩ = some v :=
  (World.cell?_of_block (hg.block g (World.block_lt_of_cell? _ _ h) hne)).trans h
theorem cell_setfar {w : World} {g i : Nat} {p : Addr} (v : Value) (h : g ≠ p.block) : (w.setCell p v).cell? ⟨g, i, none⟩ = w.cell? ⟨g, i, none⟩ := World.cell?_of_block (heap_setCell_other w p g v h)
theorem own_nb {w : World} {B g : Nat} {e : TypeId} {s n : Nat} {v : Value} {xs : List Value} (h : w.ownsRow B e s v n xs) (hg : g < B) : some g ≠ v.ownBlock := fun hh => by have := (h.lt g hh.symm).1; omega
theorem flts_app1 (l : List Nat) (x : Nat) : flts (l ++ [x]) = flts l ++ [.float .f32 x] := by simp [flts]
end Go.Proofs.YtphgfiihccofnaaGreatDoor
