import Derived.Test.YtaknlhepgeiekaaGreatDoorH05
import Derived.Test.YtaknlhepgeiekaaGreatDoorH01
import Derived.BigRegion
namespace Go.Proofs.YtaknlhepgeiekaaGreatDoor
set_option linter.all false
open Go.RowKit Go.Fl
theorem Rd.below {w w' : World} {A : Option Addr} {xs : List Value} (h : Rd w A xs) (hb : Below w.heap.size w w') : Rd w' A xs := by
 intro j v hv
 obtain ⟨b, off, h1, h2⟩ := h j v hv
 exact ⟨b, off, h1, (hb.cell (World.block_lt_of_cell? w _ h2)).trans h2⟩
theorem Rd.row {w : World} {g : Nat} {t : TypeId} {vs : List Value} (h : Row w g t vs) : Rd w (some ⟨g, 0, none⟩) vs := fun j v hv => ⟨g, 0, rfl, by rw [Nat.zero_add, h.cell]; exact hv⟩
theorem Rd.own {w : World} {B : Nat} {e : TypeId} {g n cap : Nat} {vs : List Value} (h : w.ownsRow B e 1 (.slice (some ⟨g, 0, none⟩) n cap) n vs) : Rd w (some ⟨g, 0, none⟩) vs := by
 intro j v hv
 have hj : j < n := by have := (List.getElem?_eq_some_iff.1 hv).1; have := h.1; omega
 exact ⟨g, 0, rfl, by rw [Nat.zero_add, h.cellAt j (by omega)]; exact hv⟩
theorem Rd.take {w : World} {A : Option Addr} {xs : List Value} (h : Rd w A xs) (k : Nat) : Rd w A (xs.take k) := by
 intro j v hv
 rw [List.getElem?_take] at hv
 split at hv
 · exact h j v hv
 · cases hv
theorem part_set (f : List Int) (n k : Nat) (hk : k < f.length) (hn : n = f.length) : (ints (f.take k) ++ List.replicate (n - k) (Value.int .i64 0)).set k (.int .i64 f[k]) = ints (f.take (k + 1)) ++ List.replicate (n - (k + 1)) (.int .i64 0) := by
 subst hn
 have hl : (ints (f.take k)).length = k := by simp [ints]; omega
 have he : f.length - k = (f.length - (k + 1)) + 1 := by omega
 rw [he, List.replicate_succ, List.set_append_right _ _ (by omega), hl, Nat.sub_self, List.take_succ_eq_append_getElem hk]
 simp only [ints, List.map_append, List.append_assoc, List.map_cons, List.map_nil, List.cons_append, List.nil_append, List.set_cons_zero]
theorem mid_get (ys : List Value) (n k : Nat) (z : Value) (hy : ys.length = k) (hk : k < n) : (ys ++ List.replicate (n - k) z)[k]? = some z := by
 rw [List.getElem?_append_right (by omega), hy, Nat.sub_self, List.getElem?_replicate, if_pos (by omega)]
theorem info27 : (Tryz.prog.info? 32).map (fun i => (i.zero, i.size, i.bytes)) = some (some (.int .i64 0), 1, 8) := by kernel_rfl
end Go.Proofs.YtaknlhepgeiekaaGreatDoor
namespace Go.Proofs.YtaknlhepgeiekaaGreatDoor
set_option linter.all false
open Go.RowKit
theorem info3 : (Tryz.prog.info? 3).map (fun i => (i.zero, i.size, i.bytes)) = some (some (.int .i64 0), 1, 8) := by kernel_rfl
end Go.Proofs.YtaknlhepgeiekaaGreatDoor
namespace Go.Proofs.YtaknlhepgeiekaaGreatDoor
set_option linter.all false
open Go.RowKit Go.Fl
theorem Rd.alloc {w : World} {A : Option Addr} {xs : List Value} (h : Rd w A xs) (o : Obj) : Rd (w.alloc o) A xs := h.below ((Below.refl _ _).alloc (Nat.le_refl _) o)
end Go.Proofs.YtaknlhepgeiekaaGreatDoor
