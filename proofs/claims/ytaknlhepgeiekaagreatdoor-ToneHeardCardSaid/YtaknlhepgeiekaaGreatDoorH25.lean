import Derived.Test.YtaknlhepgeiekaaGreatDoorH22
import Derived.Lib.SlBytesConst
import Derived.ArgAppend
namespace Go.Proofs.YtaknlhepgeiekaaGreatDoor
set_option linter.all false
open Go.RowKit Go.Fl
theorem Rd.owned {w : World} {B : Nat} {e : TypeId} {v : Value} {n : Nat} {A : Option Addr} {m c : Nat} {vs : List Value} (h : w.ownsRow B e 1 v n vs) (hv : v = .slice A m c) : Rd w A vs := by
 rcases h.2 with ⟨h1, h2⟩ | ⟨g, cap, cur, h1, h2, h3, h4, h5, h6, h7⟩
 · rw [h1] at hv; cases hv
   have : vs = [] := List.eq_nil_of_length_eq_zero (by rw [h.1, h2])
   subst this
   intro j u hu; cases hu
 · rw [h1] at hv; cases hv
   intro j u hu
   have hj : j < n * 1 := by rw [← h.1]; exact (List.getElem?_eq_some_iff.1 hu).1
   refine ⟨g, 0, rfl, ?_⟩
   rw [Nat.zero_add, cell_of_row w g j cur e (0, 0) h3, ← Array.getElem?_toList]
   rw [← h7, List.getElem?_take, if_pos hj] at hu
   exact hu

end Go.Proofs.YtaknlhepgeiekaaGreatDoor
