import Derived.Test.YtjdniebjhilooaaGreatDoorM03
import Derived.Test.YtjdniebjhilooaaGreatDoorM06
namespace Go.Proofs.YtjdniebjhilooaaGreatDoor
set_option linter.all false
open Go.RowKit
theorem slice_mid {P : Program} (t : TypeId) (ht : P.underlying t = some (.slice (P.elem t))) (hs : ∀ w, (sizeOf (P.elem t)).run P w = .ok 1 w) (A : Option Addr) (n c f h : Nat) (hf : f ≤ h) (hh : h ≤ n) (hn : n ≤ c) (hA : A = none → c = 0) :
 ∃ A', (∀ W, (Instr.slice t (.slice A n c) (some (.int .i64 (f : Int))) (some (.int .i64 (h : Int))) none).run P W = .ok (.slice A' (h - f) (c - f)) W) ∧ (∀ W xs, Rd W A xs → Rd W A' ((xs.drop f).take (h - f))) ∧ (A' = none → c - f = 0) := by
 refine ⟨if c = f then A else A.map (·.add f), fun W => ?_, fun W xs hR => ?_, fun h0 => ?_⟩
 · rw [run_slice_lh W t A n c ht .i64 .i64 (f : Int) (h : Int) (by omega) (by omega) (by omega), hs]
   simp only [Result.andThen, sliced, Nat.mul_one, Int.toNat_natCast]
 · by_cases hc : c = f
   · have : h - f = 0 := by omega
     rw [this, List.take_zero]
     intro j v hv; cases hv
   · rw [if_neg hc]
     cases A with
     | none => exact absurd (hA rfl) (by omega)
     | some a =>
       intro j v hv
       rw [List.getElem?_take] at hv
       split at hv
       · rw [List.getElem?_drop] at hv
         obtain ⟨b, off, h1, h2⟩ := hR (f + j) v hv
         cases h1
         refine ⟨b, off + f, ?_, by rw [Nat.add_assoc]; exact h2⟩
         by_cases h0 : f = 0
         · simp [Addr.add, h0]
         · simp [Addr.add, h0]
       · cases hv
 · split at h0
   · rename_i hc; omega
   · cases A with
     | none => have := hA rfl; omega
     | some a => cases h0
end Go.Proofs.YtjdniebjhilooaaGreatDoor
