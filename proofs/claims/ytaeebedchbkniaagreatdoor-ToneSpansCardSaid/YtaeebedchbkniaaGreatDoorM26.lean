import Derived.Test.YtaeebedchbkniaaGreatDoorM25
import Derived.Maps.OwnSet
import Derived.Maps.StringElems
import Derived.StringKeys
import Derived.Lib.Hide
import Derived.Test.YtaeebedchbkniaaGreatDoorM27
namespace Go.Proofs.YtaeebedchbkniaaGreatDoor
set_option linter.all false
open Go.RowKit Go.Maps

end Go.Proofs.YtaeebedchbkniaaGreatDoor
namespace Go.Proofs.YtaeebedchbkniaaGreatDoor
set_option linter.all false
open Go.RowKit Go.Fl

theorem flat_get {α : Type} (f : α → List Value) (s : Nat) : ∀ (l : List α) (hs : ∀ p ∈ l, (f p).length = s) (k : Nat) (hk : k < l.length) (j : Nat) (hj : j < s), (l.flatMap f)[k * s + j]? = (f l[k])[j]?
 | p :: l, hs, 0, hk, j, hj => by
   have := hs p (by simp)
   simp only [List.flatMap_cons, Nat.zero_mul, Nat.zero_add, List.getElem_cons_zero]
   rw [List.getElem?_append_left (by omega)]
 | p :: l, hs, k + 1, hk, j, hj => by
   have h1 := hs p (by simp)
   have ih := flat_get f s l (fun q hq => hs q (by simp [hq])) k (by simpa using hk) j hj
   simp only [List.flatMap_cons, List.getElem_cons_succ]
   rw [List.getElem?_append_right (by rw [h1, Nat.succ_mul]; omega), h1, ← ih]
   congr 1
   rw [Nat.succ_mul]; omega
theorem flat_length {α : Type} (f : α → List Value) (s : Nat) : ∀ (l : List α) (hs : ∀ p ∈ l, (f p).length = s), (l.flatMap f).length = l.length * s
 | [], _ => by simp
 | p :: l, hs => by
   have h1 := hs p (by simp)
   have ih := flat_length f s l (fun q hq => hs q (by simp [hq]))
   rw [List.flatMap_cons, List.length_append, ih, h1, List.length_cons, Nat.succ_mul]; omega
end Go.Proofs.YtaeebedchbkniaaGreatDoor
namespace Go.Proofs.YtaeebedchbkniaaGreatDoor
set_option linter.all false
open Go.RowKit Go.Fl Ieee

end Go.Proofs.YtaeebedchbkniaaGreatDoor
