import Derived.Test.YtkfkmnfejeocpaaGreatDoorM09
import Derived.Test.YtkfkmnfejeocpaaGreatDoorM14
import Derived.Test.YtkfkmnfejeocpaaGreatDoorM05
/- Contracts: lists of packets, and their errors. -/
namespace Go.Proofs.YtkfkmnfejeocpaaGreatDoor
set_option linter.all false
open Go.RowKit Go.Fl
set_option linter.unusedVariables false
set_option linter.unusedSimpArgs false

/-- a packet: station, counter, length, samples -/
abbrev PkT := Int × Int × Int × List Nat
def pkV (p : PkT) : List Value := pkC p.1 p.2.1 p.2.2.1 p.2.2.2
def pkE (p : PkT) : Int := pkI p.1 p.2.1 p.2.2.1 p.2.2.2
def pksC (l : List PkT) : List Value := l.flatMap pkV
def pks8 (l : List PkT) : Prop := ∀ p ∈ l, p.2.2.2.length = 8
def pksI (l : List PkT) : Int := if 1024 < l.length then 5 else firstI (l.map pkE)

theorem flat_get {α : Type} (f : α → List Value) (s : Nat) : ∀ (l : List α) (hs : ∀ p ∈ l, (f p).length = s) (k : Nat) (hk : k < l.length) (j : Nat) (hj : j < s), (l.flatMap f)[k * s + j]? = (f l[k])[j]?
  | p :: l, hs, 0, hk, j, hj => by
    have := hs p (by simp)
    simp only [List.flatMap_cons, Nat.zero_mul, Nat.zero_add, List.getElem_cons_zero]
    rw [List.getElem?_append_left (by omega)]
  | p :: l, hs, k + 1, hk, j, hj => by
    have h1 := hs p (by simp)
    have ih := flat_get f s l (fun q hq => hs q (by simp [hq])) k (by simpa using hk) j hj
    simp only [List.flatMap_cons, List.getElem_cons_succ]
    rw [List.getElem?_append_right (by rw [h1, Nat.succ_mul]; omega), h1, ← ih]
    congr 1
    rw [Nat.succ_mul]; omega
theorem flat_length {α : Type} (f : α → List Value) (s : Nat) : ∀ (l : List α) (hs : ∀ p ∈ l, (f p).length = s), (l.flatMap f).length = l.length * s
  | [], _ => by simp
  | p :: l, hs => by
    have h1 := hs p (by simp)
    have ih := flat_length f s l (fun q hq => hs q (by simp [hq]))
    rw [List.flatMap_cons, List.length_append, ih, h1, List.length_cons, Nat.succ_mul]; omega
theorem Rd.flat {α : Type} {f : α → List Value} {s : Nat} {w : World} {A : Option Addr} {l : List α} (h : Rd w A (l.flatMap f)) (hs : ∀ p ∈ l, (f p).length = s) (h0 : 0 < s) {k : Nat} (hk : k < l.length) :
    ∃ b off, A = some ⟨b, off, none⟩ ∧ ∀ j v, (f l[k])[j]? = some v → w.cell? ⟨b, off + k * s + j, none⟩ = some v := by
  have hl := hs _ (List.getElem_mem hk)
  obtain ⟨v0, hv0⟩ : ∃ v, (f l[k])[0]? = some v := ⟨(f l[k])[0]'(by omega), List.getElem?_eq_getElem (by omega)⟩
  obtain ⟨b, off, hA, _⟩ := h (k * s + 0) v0 ((flat_get f s l hs k hk 0 h0).trans hv0)
  refine ⟨b, off, hA, fun j v hv => ?_⟩
  have hj : j < s := by have := (List.getElem?_eq_some_iff.1 hv).1; omega
  obtain ⟨b', off', hA', hc⟩ := h (k * s + j) v ((flat_get f s l hs k hk j hj).trans hv)
  rw [hA] at hA'; cases hA'
  rw [Nat.add_assoc]; exact hc
theorem pkV_length {p : PkT} (h : p.2.2.2.length = 8) : (pkV p).length = 11 := by simp [pkV, pkC_length, h]
theorem pk_form {p : PkT} (h : p.2.2.2.length = 8) : ∃ (st ct ln : Int) (x0 x1 x2 x3 x4 x5 x6 x7 : Nat), p = (st, ct, ln, [x0, x1, x2, x3, x4, x5, x6, x7]) := by
  obtain ⟨st, ct, ln, xs⟩ := p
  match xs, h with
  | [a, b, c, d, e, f, g, h], _ => exact ⟨st, ct, ln, a, b, c, d, e, f, g, h, rfl⟩

set_option maxRecDepth 100000 in
set_option maxHeartbeats 1000000 in
theorem mappedPkE_any (A : Option Addr) (n c : Nat) (ps : List PkT) (w : World) (hA : Rd w A (pksC ps)) (h8 : pks8 ps) (hn : n = ps.length) (hm : ps.length ≤ 1024) :
    Calls Tryz.prog 117 #[.slice A n c, .func (.func 63) #[] #[]] w fun e w' => ∃ g, e = .returned (.slice (some ⟨g, 0, none⟩) n n) ∧ Row w' g 32 (ints (ps.map pkE)) ∧ w.heap.size ≤ g ∧ Below w.heap.size w w' := by
  subst hn
  have hmk := fun W : World => make1 (P := Tryz.prog) 202 32 (.int .i64 0) 8 Tryz.underlying202 info27 rfl ps.length (by omega) (by omega) W
  have HA := Lib.hid hA; have H8 := Lib.hid h8
  clear hA h8
  go_enter Tryz.func117, Tryz.ntmps117
  go_wp2
  go_loopw [13] (fun i wr => ∃ k : Nat, k ≤ ps.length ∧ i = .int .i64 k ∧ Hid (Row wr w.heap.size 32 (ints ((ps.map pkE).take k) ++ List.replicate (ps.length - k) (.int .i64 0))) ∧ Hid (Below w.heap.size w wr)) (fun i _ => ps.length - (intOf i).toNat)
  case atStart => exact ⟨0, Nat.zero_le _, rfl, by have := Row.new w 32 (List.replicate ps.length (.int .i64 0)); show Row _ _ _ _; simpa [ints] using this, (Below.refl _ _).alloc (Nat.le_refl _) _⟩
  case round =>
    obtain ⟨k, hk, rfl, Hrow, Hb⟩ := hrel
    by_cases hlt : k < ps.length
    · obtain ⟨b, off, hAb, hc⟩ := Rd.flat (HA.out.below Hb.out) (fun p hp => pkV_length (H8.out p hp)) (by decide) hlt
      subst hAb
      obtain ⟨st, ct, ln, x0, x1, x2, x3, x4, x5, x6, x7, hp⟩ := pk_form (H8.out _ (List.getElem_mem hlt))
      rw [hp] at hc
      have c0 := hc 0 _ rfl
      have c1 := hc 1 _ rfl
      have c2 := hc 2 _ rfl
      have c3 := hc 3 _ rfl
      have c4 := hc 4 _ rfl
      have c5 := hc 5 _ rfl
      have c6 := hc 6 _ rfl
      have c7 := hc 7 _ rfl
      have c8 := hc 8 _ rfl
      have c9 := hc 9 _ rfl
      have c10 := hc 10 _ rfl
      rw [Nat.add_zero] at c0
      have hset := Lib.hid (part_set (ps.map pkE) ps.length k (by simpa using hlt) (by simp))
      have hfk : Hid ((ps.map pkE)[k]'(by simpa using hlt) = pkI st ct ln [x0, x1, x2, x3, x4, x5, x6, x7]) := by unfold Hid; rw [List.getElem_map, hp]; rfl
      clear hc hp
      go_wp2_with fail
      refine (checkPacket_any st ct ln x0 x1 x2 x3 x4 x5 x6 x7 _).mono ?_
      rintro e w1 ⟨rfl, hb1⟩
      have Hb1 : Hid (Below w.heap.size w w1) := (Hb.out.alloc Hb.out.size _).trans (hb1.mono (by have := Hb.out.size; simp; omega))
      have Hrow1 := Lib.hid ((Hrow.out.alloc _).old hb1)
      have hc1 : w1.cell? ⟨w.heap.size, k, none⟩ = some (.int .i64 0) := by
        rw [Hrow1.out.cell]
        exact mid_get _ _ _ _ (by simp [ints]; omega) hlt
      have hf1 := Hrow1.out.free k
      clear hb1
      go_wp2
      go_roundw
      case rel => exact ⟨k + 1, by omega, by go_num, by show Row _ _ _ _; rw [← hset.out, hfk.out]; exact Hrow1.out.set k _, Hb1.out.setCell (by simp) _⟩
      case measure => simp [intOf]; omega
    · obtain rfl : k = ps.length := by omega
      go_wp2
      go_ret
      exact ⟨_, rfl, by have h := Hrow.out; rw [Nat.sub_self, List.replicate_zero, List.append_nil, List.take_of_length_le (by simp)] at h; exact h, Nat.le_refl _, Hb.out⟩

set_option maxRecDepth 100000 in
set_option maxHeartbeats 400000 in
theorem checkListPk_any (A : Option Addr) (n c : Nat) (ps : List PkT) (w : World) (hA : Rd w A (pksC ps)) (h8 : pks8 ps) (hn : n = ps.length) :
    Calls Tryz.prog 69 #[.slice A n c, .int .i64 1024, .func (.func 63) #[] #[]] w fun e w' => e = .returned (.int .i64 (pksI ps)) ∧ Below w.heap.size w w' := by
  subst hn
  by_cases hl : 1024 < ps.length
  · go_enter Tryz.func69, Tryz.ntmps69
    go_wp2
    go_ret
    exact ⟨ret_int (by rw [pksI, if_pos hl]), Below.refl _ _⟩
  · have hm : ps.length ≤ 1024 := by omega
    go_enter Tryz.func69, Tryz.ntmps69
    go_wp2_with fail
    refine (mappedPkE_any _ _ _ ps _ hA h8 rfl hm).mono ?_
    rintro e w1 ⟨g, rfl, hrow, hg, hb⟩
    go_wp2_with fail
    refine (firstV_any _ _ _ (ps.map pkE) _ (Rd.row hrow) (by simp) (by simp; omega)).mono ?_
    rintro e w2 ⟨rfl, rfl⟩
    go_wp2
    go_ret
    exact ⟨ret_int (by rw [pksI, if_neg hl]), hb⟩
end Go.Proofs.YtkfkmnfejeocpaaGreatDoor
