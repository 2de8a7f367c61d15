import Derived.Test.YtlflfieknibgmaaGreatDoorM14
import Derived.WideMake
import Derived.WalkMore
namespace Go.Proofs.YtlflfieknibgmaaGreatDoor
set_option linter.all false
open Go.RowKit Go.Fl
def MapAt (w : World) (g : Nat) (es : Array MapEntry) (n : Nat) : Prop := w.heap[g]? = some (.map es n)
def putMap (w : World) (g : Nat) (es : Array MapEntry) (n : Nat) : World := { w with heap := w.heap.setIfInBounds g (.map es n) }
theorem MapAt.new (w : World) : MapAt (w.alloc (.map #[] 0)) w.heap.size #[] 0 := heap_alloc_new w _
theorem MapAt.lt {w : World} {g n : Nat} {es : Array MapEntry} (h : MapAt w g es n) : g < w.heap.size := (Array.getElem?_eq_some_iff.1 h).1
theorem MapAt.old {w w' : World} {g n : Nat} {es : Array MapEntry} (h : MapAt w g es n) (hb : Below w.heap.size w w') : MapAt w' g es n := (hb.block g h.lt).trans h
theorem MapAt.drew {w : World} {g n : Nat} {es : Array MapEntry} (h : MapAt w g es n) : MapAt w.drew g es n := h
theorem MapAt.put {w : World} {g n n' : Nat} {es es' : Array MapEntry} (h : MapAt w g es n) : MapAt (putMap w g es' n') g es' n' := by
  unfold MapAt putMap
  show (w.heap.setIfInBounds g (.map es' n'))[g]? = _
  rw [Array.getElem?_setIfInBounds_self_of_lt h.lt]



end Go.Proofs.YtlflfieknibgmaaGreatDoor
