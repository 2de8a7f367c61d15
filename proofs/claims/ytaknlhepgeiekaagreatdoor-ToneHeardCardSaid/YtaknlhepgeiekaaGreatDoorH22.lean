import Derived.Test.YtaknlhepgeiekaaGreatDoorH21
import Derived.IntWalk
import Derived.Deep.DeepCutAuto
import Derived.Test.YtaknlhepgeiekaaGreatDoorH09
import Derived.Deep.LoopGhost
import Derived.Outline
import Derived.Lib.OthersKept
import Derived.WalkLawsBesides
import Derived.Deep.RegionLaw
namespace Go.Proofs.YtaknlhepgeiekaaGreatDoor
set_option linter.all false
open Go.RowKit Go.Fl
def byteAt (bs : List UInt8) (i : Nat) : Int := ((bs.getD i 0).toNat : Int)
theorem Row.bytes {w : World} {g : Nat} {t : TypeId} {bs : List UInt8} (h : Row w g t (byts bs)) {i : Nat} (hi : i < bs.length) : w.cell? ⟨g, i, none⟩ = some (.int .u8 (byteAt bs i)) := by
 rw [h.cell]; simp [byts, byteAt, hi]

theorem Rd.drop {w : World} {b off : Nat} {xs : List Value} (h : Rd w (some ⟨b, off, none⟩) xs) (k : Nat) : Rd w (some ⟨b, off + k, none⟩) (xs.drop k) := by
 intro j v hv
 rw [List.getElem?_drop] at hv
 obtain ⟨b', off', h1, h2⟩ := h (k + j) v hv
 cases h1
 exact ⟨b, off + k, rfl, by rw [Nat.add_assoc]; exact h2⟩
theorem news11 (w : World) (vs : List Value) (t : TypeId) (a : Addr) (ha : a = ⟨w.heap.size, 0, none⟩) : ∀ j x, vs[j]? = some x → (w.alloc (.cells vs.toArray t)).cell? (a.add j) = some x := by
 subst ha
 intro j x hx
 have h := (Row.new w t vs).cell j
 rw [hx] at h
 by_cases hj : j = 0
 · subst hj; simpa [Addr.add] using h
 · simpa [Addr.add, hj] using h
theorem owns_below {w w' : World} {B : Nat} {e : TypeId} {s n : Nat} {v : Value} {xs : List Value} (h : w.ownsRow B e s v n xs) (hb : Below w.heap.size w w') : w'.ownsRow B e s v n xs := by
 refine ⟨h.1, ?_⟩
 rcases h.2 with h2 | ⟨g, cap, cur, h1, h2, h3, h4⟩
 · exact .inl h2
 · exact .inr ⟨g, cap, cur, h1, h2, (hb.block g (Array.getElem?_eq_some_iff.1 h3).1).trans h3, h4⟩




theorem Step.refl (w : World) (v : Value) : Step w w v v := ⟨World.grownBy.refl w _, .inl rfl⟩
theorem Step.trans {w w1 w2 : World} {v v1 v2 : Value} (h : Step w w1 v v1) (k : Step w1 w2 v1 v2) : Step w w2 v v2 := by
 have hs := h.1.size
 refine ⟨⟨k.1.os.trans h.1.os, k.1.tape.trans h.1.tape, k.1.output.trans h.1.output, Nat.le_trans hs k.1.size, fun j hj hne => ?_⟩, ?_⟩
 · have e1 := h.1.block j hj hne
   refine (k.1.block j (Nat.lt_of_lt_of_le hj hs) ?_).trans e1
   rcases h.2 with h2 | ⟨m, hm, hle⟩
   · rw [h2]; exact hne
   · rw [hm]; intro hh; cases hh; omega
 · rcases k.2 with k2 | ⟨m, hm, hle⟩
   · rcases h.2 with h2 | ⟨m', hm', hle'⟩
     · exact .inl (k2.trans h2)
     · exact .inr ⟨m', k2.trans hm', hle'⟩
   · exact .inr ⟨m, hm, by omega⟩
theorem Step.iter {w w1 : World} {v v1 : Value} (h : Step w w1 v v1) {k : Nat} (hk : w.heap.size ≤ k) (s : ByteArray) (pos : Nat) : Step w (w1.iterAt k s pos) v v1 :=
 ⟨⟨h.1.os, h.1.tape, h.1.output, by rw [Lib.iterAt_size]; exact h.1.size, fun j hj hne => (Lib.iterAt_other w1 k j s pos (by omega)).trans (h.1.block j hj hne)⟩, h.2⟩
theorem Step.alloc {w w1 : World} {v v1 : Value} (h : Step w w1 v v1) (o : Obj) : Step w (w1.alloc o) v v1 :=
 ⟨⟨h.1.os, h.1.tape, h.1.output, by rw [World.size_alloc]; have := h.1.size; omega, fun j hj hne => ((Below.heap_alloc w1 o j (by have := h.1.size; omega))).trans (h.1.block j hj hne)⟩, h.2⟩
theorem Step.heap {w w1 : World} {v v1 : Value} (h : Step w w1 v v1) {j : Nat} {o : Obj} (ho : w.heap[j]? = some o) (hj : some j ≠ v.ownBlock) : w1.heap[j]? = some o :=
 (h.1.block j (Array.getElem?_eq_some_iff.1 ho).1 hj).trans ho
theorem owned_slice {w : World} {B : Nat} {e : TypeId} {s : Nat} {v : Value} {n : Nat} {vs : List Value} (h : w.ownsRow B e s v n vs) : ∃ A c, v = .slice A n c ∧ Rd w A vs := by
 rcases h.2 with ⟨h1, h2⟩ | ⟨g, cap, cur, h1, h2, h3, h4, h5, h6, h7⟩
 · subst h1; subst h2
   refine ⟨none, 0, rfl, ?_⟩
   have : vs = [] := List.eq_nil_of_length_eq_zero (by rw [h.1, Nat.zero_mul])
   subst this
   intro j v hv; cases hv
 · refine ⟨_, _, h1, ?_⟩
   intro j u hu
   have hj : j < n * s := by rw [← h.1]; exact (List.getElem?_eq_some_iff.1 hu).1
   refine ⟨g, 0, rfl, ?_⟩
   rw [Nat.zero_add, cell_of_row w g j cur e (0, 0) h3, ← Array.getElem?_toList]
   rw [← h7, List.getElem?_take, if_pos hj] at hu
   exact hu
theorem row_owns {w : World} {g : Nat} {e : TypeId} {vs : List Value} (h : Row w g e vs) (size n B : Nat) (hl : vs.length = n * size) (hn : n ≤ maxLen) (hB : B ≤ g) : w.ownsRow B e size (.slice (some ⟨g, 0, none⟩) n n) n vs :=
 ⟨hl, .inr ⟨g, n, vs.toArray, rfl, hB, h, Nat.le_refl _, hn, by simpa using hl, by rw [← hl]; simp⟩⟩
end Go.Proofs.YtaknlhepgeiekaaGreatDoor
namespace Go.Proofs.YtaknlhepgeiekaaGreatDoor
set_option linter.all false
open Go.RowKit Go.Maps Go.Fl
theorem info9 : (Tryz.prog.info? 9).map (fun i => (i.zero, i.size, i.bytes)) = some (some (.string ⟨#[]⟩), 1, 16) := by kernel_rfl
end Go.Proofs.YtaknlhepgeiekaaGreatDoor
namespace Go.Proofs.YtaknlhepgeiekaaGreatDoor
set_option linter.all false
open Go.RowKit Go.Fl

theorem owned_rd {w : World} {B : Nat} {e : TypeId} {s n m c : Nat} {A : Option Addr} {vs : List Value} (h : w.ownsRow B e s (.slice A n c) m vs) : Rd w A vs := by
 obtain ⟨A', c', h1, h2⟩ := owned_slice h
 cases h1; exact h2
def bools (bs : List Bool) : List Value := bs.map Value.bool
theorem Rd.bool {w : World} {A : Option Addr} {xs : List Bool} (h : Rd w A (bools xs)) {j : Nat} (hj : j < xs.length) : ∃ b off, A = some ⟨b, off, none⟩ ∧ w.cell? ⟨b, off + j, none⟩ = some (.bool xs[j]) := by
 obtain ⟨b, off, h1, h2⟩ := Rd.at h (j := j) (by simpa [bools] using hj)
 exact ⟨b, off, h1, by rw [h2]; simp [bools]⟩
end Go.Proofs.YtaknlhepgeiekaaGreatDoor
