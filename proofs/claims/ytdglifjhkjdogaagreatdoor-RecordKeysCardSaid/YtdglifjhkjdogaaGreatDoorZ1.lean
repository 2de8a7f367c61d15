import Derived.Test.YtdglifjhkjdogaaGreatDoorM08
/- Lists that are the same as themselves; what an owned row holds. -/
namespace Go.Proofs.YtdglifjhkjdogaaGreatDoor
set_option linter.all false
open Go.RowKit Go.Fl
set_option linter.unusedVariables false

theorem sameW_self (l : List ByteArray) : sameW l l = true := by
  induction l with
  | nil => rfl
  | cons p l ih => simp [sameW, ih]
theorem sameF_self : ∀ (xs : List Nat), (∀ x ∈ xs, sampI x = 0) → sameF xs xs = true
  | [], _ => rfl
  | x :: xs, h => by
    have hx := h x (by simp)
    obtain ⟨V, hV, _, _⟩ := unit_of hx
    rw [sameF, sameF_self xs (fun y hy => h y (by simp [hy])), Bool.and_true]
    show (Ieee.single.order x x == some .eq) = true
    rw [order_eq_iff hV hV]; simp
theorem own_cap {w : World} {B : Nat} {e : TypeId} {s n m c : Nat} {A : Option Addr} {vs : List Value} (h : w.ownsRow B e s (.slice A n c) m vs) : n ≤ c ∧ (A = none → c = 0) := by
  rcases h.2 with ⟨h1, hn⟩ | ⟨g, cap, cur, h1, _, _, hcap, _⟩
  · cases h1; exact ⟨Nat.le_refl _, fun _ => rfl⟩
  · cases h1; exact ⟨hcap, fun h => by cases h⟩
end Go.Proofs.YtdglifjhkjdogaaGreatDoor
