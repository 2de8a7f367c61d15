import Derived.Test.YtoclnlimnjnbkaaGreatDoorM01
import Derived.Deep.QuietTactic
import Derived.BigQuiet
namespace Go.Proofs.YtoclnlimnjnbkaaGreatDoor
set_option linter.all false
open Go.RowKit
def Rd (w : World) (A : Option Addr) (xs : List Value) : Prop := ∀ j v, xs[j]? = some v → ∃ b off, A = some ⟨b, off, none⟩ ∧ w.cell? ⟨b, off + j, none⟩ = some v
theorem Rd.at {w : World} {A : Option Addr} {xs : List Value} (h : Rd w A xs) {j : Nat} (hj : j < xs.length) : ∃ b off, A = some ⟨b, off, none⟩ ∧ w.cell? ⟨b, off + j, none⟩ = some xs[j] :=
  h j _ (List.getElem?_eq_getElem hj)
def ints (zs : List Int) : List Value := zs.map (.int .i64)
theorem Rd.int {w : World} {A : Option Addr} {zs : List Int} (h : Rd w A (ints zs)) {j : Nat} (hj : j < zs.length) : ∃ b off, A = some ⟨b, off, none⟩ ∧ w.cell? ⟨b, off + j, none⟩ = some (.int .i64 (zs[j])) := by
  obtain ⟨b, off, h1, h2⟩ := Rd.at h (j := j) (by simpa [ints] using hj)
  refine ⟨b, off, h1, ?_⟩
  rw [h2]; simp [ints]
def firstI : List Int → Int
  | [] => 0
  | z :: zs => if z = 0 then firstI zs else z
theorem firstI_drop {zs : List Int} {k : Nat} (hk : k < zs.length) : firstI (zs.drop k) = if zs[k] = 0 then firstI (zs.drop (k + 1)) else zs[k] := by
  rw [List.drop_eq_getElem_cons hk, firstI]
end Go.Proofs.YtoclnlimnjnbkaaGreatDoor
