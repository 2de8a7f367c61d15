import Derived.Test.YtipligklkkiejaaGreatDoorM07
import Derived.Maps.AppendAt
import Derived.Laws.OwnMore
import Derived.IntWalk
import Derived.Test.YtipligklkkiejaaGreatDoorM13
import Derived.Test.YtipligklkkiejaaGreatDoorM05
/- Contracts: small functions of records. -/
namespace Go.Proofs.YtipligklkkiejaaGreatDoor
set_option linter.all false
open Go.RowKit Go.Fl
set_option linter.unusedVariables false
set_option linter.unusedSimpArgs false


theorem results_row_tmp {P : Program} {fn : Func} {p t : Tmp} {ty : TypeId} (h : fn.results = #[.cell p ty, .tmp t]) (tmps : Array Value) (w : World) (g : Nat) (e : TypeId) (cs : Array Value) (fr : Nat × Nat) (d : TypeDesc)
    (hp : tmps.getD p undef = .pointer (some ⟨g, 0, none⟩)) (hg : w.heap[g]? = some (.cells cs e fr))
    (hu : P.underlying ty = some d) (hd : (match d with | .struct _ | .array _ _ => true | _ => false) = true) (hi : (P.info? ty).map (·.size) = some cs.size) :
    (results fn tmps).run P w = .ok (.tuple #[.agg cs, tmps.getD t undef]) w := by
  have hp' : tmps[p]?.getD undef = .pointer (some ⟨g, 0, none⟩) := by simpa using hp
  simp [results, h, hp', asAddr, run_loadVar_row w g e ty cs fr d hg hu hd hi]

set_option maxRecDepth 100000 in
set_option maxHeartbeats 400000 in
theorem seal_any (k0 k1 k2 k3 k4 k5 k6 k7 : Int) (A : Option Addr) (n c : Nat) (bs : List UInt8) (w : World) (hA : Rd w A (byts bs)) (hn : n = bs.length) (hm : bs.length ≤ 400000) (hkeys : ∀ j (h : j < 8), isByte ([k0, k1, k2, k3, k4, k5, k6, k7][j])) :
    Calls Tryz.prog 8 #[.agg #[.int .u8 k0, .int .u8 k1, .int .u8 k2, .int .u8 k3, .int .u8 k4, .int .u8 k5, .int .u8 k6, .int .u8 k7], .slice A n c] w fun e w' => e = .returned (.tuple #[keyV (sealL [k0, k1, k2, k3, k4, k5, k6, k7] bs), .int .i64 0]) ∧ Below w.heap.size w w' := by
  subst hn
  have Hk := Lib.hid hkeys; clear hkeys
  go_enter Tryz.func8, Tryz.ntmps8
  go_wp2_with fail
  refine (sealed_any k0 k1 k2 k3 k4 k5 k6 k7 A _ c bs _ (hA.below (by repeat (first | exact Below.refl _ _ | refine Below.alloc ?_ (by simp) _))) rfl (by omega) Hk.out).mono ?_
  rintro e w1 ⟨rfl, hb⟩
  have hres : Row w1 (w.heap.size + 1) 23 (u8s [0, 0, 0, 0, 0, 0, 0, 0]) := by
    have h2 := Row.new (w.alloc (.cells (u8s [k0, k1, k2, k3, k4, k5, k6, k7]).toArray 23)) 23 (u8s [0, 0, 0, 0, 0, 0, 0, 0])
    rw [World.size_alloc] at h2
    exact h2.old hb
  have hb0 : Below w.heap.size w w1 := (((Below.refl w.heap.size w).alloc (Nat.le_refl _) _).alloc (by simp) _).trans (hb.mono (by simp; omega))
  obtain ⟨l, hl⟩ : ∃ l, l = sealL [k0, k1, k2, k3, k4, k5, k6, k7] bs := ⟨_, rfl⟩
  have hlen : l.length = 8 := by rw [hl]; simp [sealL, sealGo_length]
  rw [← hl]
  have He := Lib.hid hl
  have Hlen := Lib.hid hlen
  have Hres := Lib.hid hres
  have Hb0 := Lib.hid hb0
  clear hl hlen hres hb hb0
  unfold keyV
  go_wp2_with (refine wpList_store_row rfl 23 _ _ rfl (w.heap.size + 1) (u8s l).toArray rfl rfl 23 _ Hres.out ?_ ?_ ?_ ?_; (rw [info47]; simp [u8s, Hlen.out]); (simp [u8s, Hlen.out]); (simp [u8s, Value.oneCell']))
  refine bodyPost_ret (results_row_tmp rfl _ _ (w.heap.size + 1) 23 (u8s l).toArray (0, 0) _ rfl (Hres.out.setRow (u8s l)) Tryz.underlying23 rfl ?_) rfl ?_
  · rw [info47]; simp [u8s, Hlen.out]
  · exact ⟨by rw [← He.out]; rfl, Below.setRow Hb0.out (by simp) _⟩

set_option maxHeartbeats 400000 in
theorem to_any (a b : Int) (w : World) : Calls Tryz.prog 48 #[.int .i64 a, .int .i64 b] w fun e w' => e = .returned (.agg #[.int .i64 a, .int .i64 b]) ∧ w' = w.alloc (.cells #[.int .i64 a, .int .i64 b] 93) := by
  go_enter Tryz.func48, Tryz.ntmps48
  go_wp2
  exact bodyPost_ret (v := .agg #[.int .i64 a, .int .i64 b]) (by simp [results, Tryz.results48, go_sem]) rfl ⟨rfl, rfl⟩

set_option maxHeartbeats 400000 in
theorem isLess_any (a b c d : Int) (w : World) (h1 : -4611686018427387904 ≤ a * d) (h2 : a * d ≤ 4611686018427387904) (h3 : -4611686018427387904 ≤ c * b) (h4 : c * b ≤ 4611686018427387904) : Calls Tryz.prog 88 #[.agg #[.int .i64 a, .int .i64 b], .agg #[.int .i64 c, .int .i64 d]] w fun e w' => e = .returned (.bool (decide (a * d < c * b))) ∧ Below w.heap.size w w' := by
  go_enter Tryz.func88, Tryz.ntmps88
  go_wp2
  go_ret
  exact ⟨rfl, ((Below.refl _ _).alloc (Nat.le_refl _) _).alloc (by simp) _⟩
end Go.Proofs.YtipligklkkiejaaGreatDoor

/- Contracts: spans with one more index. -/
namespace Go.Proofs.YtipligklkkiejaaGreatDoor
set_option linter.all false
open Go.RowKit Go.Fl
set_option linter.unusedVariables false
set_option linter.unusedSimpArgs false

def spanC (l : List (Int × Int)) : List Value := l.flatMap fun p => [.int .i64 p.1, .int .i64 p.2]
theorem spanC_length (l : List (Int × Int)) : (spanC l).length = l.length * 2 := by
  induction l with
  | nil => rfl
  | cons p l ih => simp only [spanC, List.flatMap_cons, List.length_append, List.length_cons, List.length_nil] at ih ⊢; omega
theorem spanC_app (l m : List (Int × Int)) : spanC (l ++ m) = spanC l ++ spanC m := by simp [spanC]
def widL (l : List (Int × Int)) (i : Int) : List (Int × Int) := match l.getLast? with
  | some p => if p.2 = i then l.dropLast ++ [(p.1, i + 1)] else l ++ [(i, i + 1)]
  | none => [(i, i + 1)]

/-- what was done to the slice v, which is now v': nothing but its own row has changed, and its row is the same, or new -/
def Step (w w' : World) (v v' : Value) : Prop := w.grownBy w' v.ownBlock ∧ (v'.ownBlock = v.ownBlock ∨ ∃ k, v'.ownBlock = some k ∧ w.heap.size ≤ k)
theorem Step.keep {w w' : World} {v v' u : Value} {B : Nat} {e : TypeId} {s n : Nat} {xs : List Value} (h : Step w w' v v') (hu : w.ownsRow B e s u n xs) (hd : u.ownBlock = none ∨ u.ownBlock ≠ v.ownBlock) : w'.ownsRow B e s u n xs ∧ (u.ownBlock = none ∨ u.ownBlock ≠ v'.ownBlock) := by
  refine ⟨hu.kept h.1 hd, ?_⟩
  rcases h.2 with h2 | ⟨k, hk, hk2⟩
  · rw [h2]; exact hd
  · rcases hd with hd | hd
    · exact .inl hd
    · cases hub : u.ownBlock with
      | none => exact .inl rfl
      | some j =>
        refine .inr ?_
        have := (hu.lt j hub).2
        rw [hk]
        intro hh
        cases hh
        omega
theorem Step.below {w w' : World} {v v' : Value} {B : Nat} {e : TypeId} {s n : Nat} {xs : List Value} (h : Step w w' v v') (hv : w.ownsRow B e s v n xs) (hB : B ≤ w.heap.size) : Below B w w' :=
  (Below.refl B w).grown h.1 hB (fun k hk => (hv.lt k hk).1)
theorem Step.of_alloc {w w' : World} {v v' : Value} {o : Obj} (h : (w.alloc o).grownBy w' v.ownBlock) (h2 : v'.ownBlock = v.ownBlock ∨ v'.ownBlock = some (w.alloc o).heap.size) : Step w w' v v' := by
  refine ⟨⟨h.os, h.tape, h.output, by have := h.size; simp at this; omega, fun k hk hne => (h.block k (by simp; omega) hne).trans ((Below.heap_alloc w o k hk))⟩, ?_⟩
  rcases h2 with h2 | h2
  · exact .inl h2
  · exact .inr ⟨_, h2, by simp⟩

theorem news2 (w : World) (u u' : Value) (t : TypeId) (a : Addr) (ha : a = ⟨w.heap.size, 0, none⟩) : ∀ j x, [u, u'][j]? = some x → (w.alloc (.cells #[u, u'] t)).cell? (a.add j) = some x := by
  subst ha
  intro j x hx
  match j, hx with
  | 0, hx => simp at hx; subst hx; simp [Addr.add]
  | 1, hx => simp at hx; subst hx; simp [Addr.add]
theorem info94 : (Tryz.prog.info? 93).map (fun i => (i.zero, i.size, i.bytes)) = some (some (.agg #[.int .i64 0, .int .i64 0]), 2, 16) := by kernel_rfl

set_option maxRecDepth 100000 in
set_option maxHeartbeats 600000 in
theorem widened_any (B : Nat) (v : Value) (l : List (Int × Int)) (i : Int) (w : World) (hown : w.ownsRow B 93 2 v l.length (spanC l)) (hB : B ≤ w.heap.size) (hl : l.length ≤ 1000000) (hi : 0 ≤ i ∧ i ≤ 1000000000) :
    Calls Tryz.prog 65 #[v, .int .i64 i] w fun e w' => ∃ v', e = .returned v' ∧ w'.ownsRow B 93 2 v' (widL l i).length (spanC (widL l i)) ∧ Step w w' v v' := by
  obtain ⟨i0, hi0, hz0, hz1, hz2⟩ := info_parts info94
  rcases List.eq_nil_or_concat l with rfl | ⟨init, p, rfl⟩
  · have hv : v = .slice none 0 0 ∨ ∃ g cap, v = .slice (some ⟨g, 0, none⟩) 0 cap := by
      rcases hown.2 with ⟨h, _⟩ | ⟨g, cap, cur, h, _⟩
      · exact .inl h
      · exact .inr ⟨g, cap, h⟩
    have hw : Hid (widL [] i = [] ++ [(i, i + 1)]) := rfl
    have Hown := Lib.hid hown
    clear hown
    obtain ⟨A, c, rfl⟩ : ∃ A c, v = .slice A 0 c := by
      rcases hv with rfl | ⟨g, cap, rfl⟩
      · exact ⟨_, _, rfl⟩
      · exact ⟨_, _, rfl⟩
    clear hv
    go_enter Tryz.func65, Tryz.ntmps65
    go_wp2_with (at_builtin; refine wpList_append_own_at _ rfl _ _ 47 rfl B 93 i0 (.agg #[.int .i64 0, .int .i64 0]) 2 16 Tryz.underlying47 hi0 hz0 hz1 hz2 rfl (by decide) _ 0 [] rfl (Hown.out.alloc _) ⟨w.heap.size, 0, none⟩ 1 1 [.int .i64 i, .int .i64 (i + 1)] rfl rfl (news2 _ _ _ _ _ rfl) (by simp [Value.oneCell']) ?c3 ?c4 ?c5 ?_)
    case c3 => unfold maxLen; omega
    case c4 => omega
    case c5 => simp; omega
    intro v' w1 ho hg _ hat
    have Ho : Hid (w1.ownsRow B 93 2 v' (widL [] i).length (spanC (widL [] i))) := by unfold Hid; rw [hw.out, spanC_app]; simpa [spanC] using ho
    have Hs := Lib.hid (Step.of_alloc hg (by rw [World.size_alloc]; exact hat))
    clear ho hg hat
    go_wp2
    go_ret
    exact ⟨_, rfl, Ho.out, Hs.out⟩
  · obtain ⟨f, t⟩ := p
    rw [List.concat_eq_append] at *
    obtain ⟨g, cap, rfl, hBg, hgs⟩ := ownsRow.addr hown (by simp)
    have hlen : (init ++ [(f, t)]).length = init.length + 1 := by simp
    rw [hlen] at hown hl
    have hcell : w.cell? ⟨g, init.length * 2 + 1, none⟩ = some (.int .i64 t) := by
      rw [hown.cellAt _ (by omega), spanC_app, List.getElem?_append_right (by rw [spanC_length]; omega), spanC_length]
      have : init.length * 2 + 1 - init.length * 2 = 1 := by omega
      rw [this]; rfl
    have hfree := hown.frozenAt (init.length * 2 + 1)
    have hst := hown.stored (init.length * 2 + 1) (.int .i64 (i + 1))
    have Hown := Lib.hid hown
    have Hst := Lib.hid hst
    clear hown hst
    obtain ⟨k, hk⟩ : ∃ k, init.length = k := ⟨_, rfl⟩
    have Hk := Lib.hid hk
    rw [hk] at hcell hfree hl hlen
    clear hk
    have h1 : IntKind.i64.wrap ((k : Int) + 1 - 1) = (k : Int) := by rw [show (k : Int) + 1 - 1 = k by omega]; exact IntWalk.i64_in _ (by omega)
    by_cases hti : t = i
    · subst hti
      have hw : Hid (widL (init ++ [(f, t)]) t = init ++ [(f, t + 1)]) := by unfold Hid widL; simp
      rw [hlen]
      clear hlen
      go_enter Tryz.func65, Tryz.ntmps65
      go_wp2
      go_ret
      have e : (widL (init ++ [(f, t)]) t).length = k + 1 := by rw [hw.out, ← Hk.out]; simp
      have e2 : (spanC (init ++ [(f, t)])).set (k * 2 + 1) (.int .i64 (t + 1)) = spanC (widL (init ++ [(f, t)]) t) := by
        rw [hw.out, spanC_app, spanC_app, List.set_append_right _ _ (by rw [spanC_length, Hk.out]; omega), spanC_length, Hk.out]
        have : k * 2 + 1 - k * 2 = 1 := by omega
        rw [this]; rfl
      have h := Hst.out
      rw [Hk.out, e2] at h
      exact ⟨_, rfl, by rw [e]; exact h.1, h.2, .inl rfl⟩
    · have hti2 : (t == i) = false := by simpa using hti
      have hw : Hid (widL (init ++ [(f, t)]) i = (init ++ [(f, t)]) ++ [(i, i + 1)]) := by unfold Hid widL; simp [hti]
      have Hti := Lib.hid hti
      rw [Hk.out] at Hown
      rw [hlen]
      clear hlen hti Hst
      go_enter Tryz.func65, Tryz.ntmps65
      go_wp2_with (at_builtin; refine wpList_append_own_at _ rfl _ _ 47 rfl B 93 i0 (.agg #[.int .i64 0, .int .i64 0]) 2 16 Tryz.underlying47 hi0 hz0 hz1 hz2 rfl (by decide) _ (k + 1) (spanC (init ++ [(f, t)])) rfl (Hown.out.alloc _) ⟨w.heap.size, 0, none⟩ 1 1 [.int .i64 i, .int .i64 (i + 1)] rfl rfl (news2 _ _ _ _ _ rfl) (by simp [Value.oneCell']) ?c3 ?c4 ?c5 ?_)
      case c3 => unfold maxLen; omega
      case c4 => omega
      case c5 => simp; omega
      intro v' w1 ho hg _ hat
      have Ho : Hid (w1.ownsRow B 93 2 v' (widL (init ++ [(f, t)]) i).length (spanC (widL (init ++ [(f, t)]) i))) := by
        unfold Hid; rw [hw.out, spanC_app]
        have e : (init ++ [(f, t)] ++ [(i, i + 1)]).length = k + 1 + 1 := by rw [← Hk.out]; simp
        rw [e]; exact ho
      have Hs := Lib.hid (Step.of_alloc hg (by rw [World.size_alloc]; exact hat))
      clear ho hg hat
      go_wp2
      go_ret
      exact ⟨_, rfl, Ho.out, Hs.out⟩
end Go.Proofs.YtipligklkkiejaaGreatDoor

/- Contracts: lists of packets, and their errors. -/
namespace Go.Proofs.YtipligklkkiejaaGreatDoor
set_option linter.all false
open Go.RowKit Go.Fl
set_option linter.unusedVariables false
set_option linter.unusedSimpArgs false

/-- a packet: station, counter, length, samples -/
abbrev PkT := Int × Int × Int × List Nat
def pkV (p : PkT) : List Value := pkC p.1 p.2.1 p.2.2.1 p.2.2.2
def pkE (p : PkT) : Int := pkI p.1 p.2.1 p.2.2.1 p.2.2.2
def pksC (l : List PkT) : List Value := l.flatMap pkV
def pks8 (l : List PkT) : Prop := ∀ p ∈ l, p.2.2.2.length = 8
def pksI (l : List PkT) : Int := if 1024 < l.length then 5 else firstI (l.map pkE)

theorem flat_get {α : Type} (f : α → List Value) (s : Nat) : ∀ (l : List α) (hs : ∀ p ∈ l, (f p).length = s) (k : Nat) (hk : k < l.length) (j : Nat) (hj : j < s), (l.flatMap f)[k * s + j]? = (f l[k])[j]?
  | p :: l, hs, 0, hk, j, hj => by
    have := hs p (by simp)
    simp only [List.flatMap_cons, Nat.zero_mul, Nat.zero_add, List.getElem_cons_zero]
    rw [List.getElem?_append_left (by omega)]
  | p :: l, hs, k + 1, hk, j, hj => by
    have h1 := hs p (by simp)
    have ih := flat_get f s l (fun q hq => hs q (by simp [hq])) k (by simpa using hk) j hj
    simp only [List.flatMap_cons, List.getElem_cons_succ]
    rw [List.getElem?_append_right (by rw [h1, Nat.succ_mul]; omega), h1, ← ih]
    congr 1
    rw [Nat.succ_mul]; omega
theorem flat_length {α : Type} (f : α → List Value) (s : Nat) : ∀ (l : List α) (hs : ∀ p ∈ l, (f p).length = s), (l.flatMap f).length = l.length * s
  | [], _ => by simp
  | p :: l, hs => by
    have h1 := hs p (by simp)
    have ih := flat_length f s l (fun q hq => hs q (by simp [hq]))
    rw [List.flatMap_cons, List.length_append, ih, h1, List.length_cons, Nat.succ_mul]; omega
theorem Rd.flat {α : Type} {f : α → List Value} {s : Nat} {w : World} {A : Option Addr} {l : List α} (h : Rd w A (l.flatMap f)) (hs : ∀ p ∈ l, (f p).length = s) (h0 : 0 < s) {k : Nat} (hk : k < l.length) :
    ∃ b off, A = some ⟨b, off, none⟩ ∧ ∀ j v, (f l[k])[j]? = some v → w.cell? ⟨b, off + k * s + j, none⟩ = some v := by
  have hl := hs _ (List.getElem_mem hk)
  obtain ⟨v0, hv0⟩ : ∃ v, (f l[k])[0]? = some v := ⟨(f l[k])[0]'(by omega), List.getElem?_eq_getElem (by omega)⟩
  obtain ⟨b, off, hA, _⟩ := h (k * s + 0) v0 ((flat_get f s l hs k hk 0 h0).trans hv0)
  refine ⟨b, off, hA, fun j v hv => ?_⟩
  have hj : j < s := by have := (List.getElem?_eq_some_iff.1 hv).1; omega
  obtain ⟨b', off', hA', hc⟩ := h (k * s + j) v ((flat_get f s l hs k hk j hj).trans hv)
  rw [hA] at hA'; cases hA'
  rw [Nat.add_assoc]; exact hc
theorem pkV_length {p : PkT} (h : p.2.2.2.length = 8) : (pkV p).length = 11 := by simp [pkV, pkC_length, h]
theorem pk_form {p : PkT} (h : p.2.2.2.length = 8) : ∃ (st ct ln : Int) (x0 x1 x2 x3 x4 x5 x6 x7 : Nat), p = (st, ct, ln, [x0, x1, x2, x3, x4, x5, x6, x7]) := by
  obtain ⟨st, ct, ln, xs⟩ := p
  match xs, h with
  | [a, b, c, d, e, f, g, h], _ => exact ⟨st, ct, ln, a, b, c, d, e, f, g, h, rfl⟩

set_option maxRecDepth 100000 in
set_option maxHeartbeats 1000000 in
theorem mappedPkE_any (A : Option Addr) (n c : Nat) (ps : List PkT) (w : World) (hA : Rd w A (pksC ps)) (h8 : pks8 ps) (hn : n = ps.length) (hm : ps.length ≤ 1024) :
    Calls Tryz.prog 116 #[.slice A n c, .func (.func 29) #[] #[]] w fun e w' => ∃ g, e = .returned (.slice (some ⟨g, 0, none⟩) n n) ∧ Row w' g 29 (ints (ps.map pkE)) ∧ w.heap.size ≤ g ∧ Below w.heap.size w w' := by
  subst hn
  have hmk := fun W : World => make1 (P := Tryz.prog) 193 29 (.int .i64 0) 8 Tryz.underlying193 info27 rfl ps.length (by omega) (by omega) W
  have HA := Lib.hid hA; have H8 := Lib.hid h8
  clear hA h8
  go_enter Tryz.func116, Tryz.ntmps116
  go_wp2
  go_loopw [13] (fun i wr => ∃ k : Nat, k ≤ ps.length ∧ i = .int .i64 k ∧ Hid (Row wr w.heap.size 29 (ints ((ps.map pkE).take k) ++ List.replicate (ps.length - k) (.int .i64 0))) ∧ Hid (Below w.heap.size w wr)) (fun i _ => ps.length - (intOf i).toNat)
  case atStart => exact ⟨0, Nat.zero_le _, rfl, by have := Row.new w 29 (List.replicate ps.length (.int .i64 0)); show Row _ _ _ _; simpa [ints] using this, (Below.refl _ _).alloc (Nat.le_refl _) _⟩
  case round =>
    obtain ⟨k, hk, rfl, Hrow, Hb⟩ := hrel
    by_cases hlt : k < ps.length
    · obtain ⟨b, off, hAb, hc⟩ := Rd.flat (HA.out.below Hb.out) (fun p hp => pkV_length (H8.out p hp)) (by decide) hlt
      subst hAb
      obtain ⟨st, ct, ln, x0, x1, x2, x3, x4, x5, x6, x7, hp⟩ := pk_form (H8.out _ (List.getElem_mem hlt))
      rw [hp] at hc
      have c0 := hc 0 _ rfl
      have c1 := hc 1 _ rfl
      have c2 := hc 2 _ rfl
      have c3 := hc 3 _ rfl
      have c4 := hc 4 _ rfl
      have c5 := hc 5 _ rfl
      have c6 := hc 6 _ rfl
      have c7 := hc 7 _ rfl
      have c8 := hc 8 _ rfl
      have c9 := hc 9 _ rfl
      have c10 := hc 10 _ rfl
      rw [Nat.add_zero] at c0
      have hset := Lib.hid (part_set (ps.map pkE) ps.length k (by simpa using hlt) (by simp))
      have hfk : Hid ((ps.map pkE)[k]'(by simpa using hlt) = pkI st ct ln [x0, x1, x2, x3, x4, x5, x6, x7]) := by unfold Hid; rw [List.getElem_map, hp]; rfl
      clear hc hp
      go_wp2_with fail
      refine (checkPacket_any st ct ln x0 x1 x2 x3 x4 x5 x6 x7 _).mono ?_
      rintro e w1 ⟨rfl, hb1⟩
      have Hb1 : Hid (Below w.heap.size w w1) := (Hb.out.alloc Hb.out.size _).trans (hb1.mono (by have := Hb.out.size; simp; omega))
      have Hrow1 := Lib.hid ((Hrow.out.alloc _).old hb1)
      have hc1 : w1.cell? ⟨w.heap.size, k, none⟩ = some (.int .i64 0) := by
        rw [Hrow1.out.cell]
        exact mid_get _ _ _ _ (by simp [ints]; omega) hlt
      have hf1 := Hrow1.out.free k
      clear hb1
      go_wp2
      go_roundw
      case rel => exact ⟨k + 1, by omega, by go_num, by show Row _ _ _ _; rw [← hset.out, hfk.out]; exact Hrow1.out.set k _, Hb1.out.setCell (by simp) _⟩
      case measure => simp [intOf]; omega
    · obtain rfl : k = ps.length := by omega
      go_wp2
      go_ret
      exact ⟨_, rfl, by have h := Hrow.out; rw [Nat.sub_self, List.replicate_zero, List.append_nil, List.take_of_length_le (by simp)] at h; exact h, Nat.le_refl _, Hb.out⟩

set_option maxRecDepth 100000 in
set_option maxHeartbeats 400000 in
theorem checkListPk_any (A : Option Addr) (n c : Nat) (ps : List PkT) (w : World) (hA : Rd w A (pksC ps)) (h8 : pks8 ps) (hn : n = ps.length) :
    Calls Tryz.prog 68 #[.slice A n c, .int .i64 1024, .func (.func 29) #[] #[]] w fun e w' => e = .returned (.int .i64 (pksI ps)) ∧ Below w.heap.size w w' := by
  subst hn
  by_cases hl : 1024 < ps.length
  · go_enter Tryz.func68, Tryz.ntmps68
    go_wp2
    go_ret
    exact ⟨ret_int (by rw [pksI, if_pos hl]), Below.refl _ _⟩
  · have hm : ps.length ≤ 1024 := by omega
    go_enter Tryz.func68, Tryz.ntmps68
    go_wp2_with fail
    refine (mappedPkE_any _ _ _ ps _ hA h8 rfl hm).mono ?_
    rintro e w1 ⟨g, rfl, hrow, hg, hb⟩
    go_wp2_with fail
    refine (firstV_any _ _ _ (ps.map pkE) _ (Rd.row hrow) (by simp) (by simp; omega)).mono ?_
    rintro e w2 ⟨rfl, rfl⟩
    go_wp2
    go_ret
    exact ⟨ret_int (by rw [pksI, if_neg hl]), hb⟩
end Go.Proofs.YtipligklkkiejaaGreatDoor

/- Contracts: samples that are held; where a span ends. -/
namespace Go.Proofs.YtipligklkkiejaaGreatDoor
set_option linter.all false
open Go.RowKit Go.Fl
set_option linter.unusedVariables false
set_option linter.unusedSimpArgs false


theorem Below.app0 {B : Nat} {w wr w1 : World} {v : Value} {e : TypeId} {size n : Nat} {xs : List Value} {o : Obj} (hb : Below B w wr) (hB : B ≤ wr.heap.size) (hown : wr.ownsRow B e size v n xs) (hg : (wr.alloc o).grownBy w1 v.ownBlock) : Below B w w1 := Below.app hb hB hown hg
theorem flts_snoc (xs : List Nat) (b k : Nat) : flts (xs ++ List.replicate (k + 1) b) = flts (xs ++ List.replicate k b) ++ [.float .f32 b] := by
  rw [List.replicate_succ', ← List.append_assoc]; simp [flts]

set_option maxRecDepth 100000 in
set_option maxHeartbeats 1000000 in
theorem held_any (B : Nat) (v : Value) (xs : List Nat) (b : Nat) (m : Int) (w : World) (hown : w.ownsRow B 24 1 v xs.length (flts xs)) (hB : B ≤ w.heap.size) (hm : m ≤ 1000000) (hx : xs.length ≤ 1000000) :
    Calls Tryz.prog 90 #[v, .float .f32 b, .int .i64 m] w fun e w' => ∃ v', e = .returned v' ∧ w'.ownsRow B 24 1 v' (xs ++ List.replicate m.toNat b).length (flts (xs ++ List.replicate m.toNat b)) ∧ Below B w w' := by
  by_cases hneg : m ≤ 0
  · have h0 : m.toNat = 0 := by omega
    have H0 := Lib.hid h0; clear h0
    go_enter Tryz.func90, Tryz.ntmps90
    go_wp2
    refine wp_loop_rounds 1 ?_
    rw [rounds_succ]
    go_wp2
    go_ret
    exact ⟨_, rfl, by rw [H0.out]; simpa using hown, Below.refl _ _⟩
  · obtain ⟨q, rfl⟩ := Int.eq_ofNat_of_zero_le (show 0 ≤ m by omega)
    obtain ⟨i0, hi, hz0, hz1, hz2⟩ := info_parts info37
    go_enter Tryz.func90, Tryz.ntmps90
    go_wp2
    go_loopw [0, 8] (fun u i wr => ∃ k : Nat, k ≤ q ∧ i = .int .i64 k ∧ wr.ownsRow B 24 1 u (xs.length + k) (flts (xs ++ List.replicate k b)) ∧ Below B w wr) (fun _ i _ => q - (intOf i).toNat)
    case atStart => exact ⟨0, Nat.zero_le _, rfl, by simpa using hown, Below.refl _ _⟩
    case round =>
      clear hown
      obtain ⟨k, hk, rfl, hown, hb⟩ := hrel
      have hsz := hb.size
      by_cases hlt : k < q
      · go_wp2_with (at_builtin; refine wpList_append_own _ rfl _ _ 59 rfl B 24 i0 (.float .f32 0) 1 4 Tryz.underlying59 hi hz0 hz1 hz2 rfl (by decide) _ _ _ rfl (hown.alloc _) ⟨wr.heap.size, 0, none⟩ 1 1 [.float .f32 b] rfl rfl (news1 _ _ _ _ rfl) ?c2 ?c3 ?c4 ?c5 ?_)
        case c2 => simp [Value.oneCell']
        case c3 => unfold maxLen; omega
        case c4 => omega
        case c5 => simp; omega
        intro v' w1 hown' hgrow _
        have hu := Lib.hid (flts_snoc xs b k)
        have hb1 := Lib.hid (Below.app hb (by omega) hown hgrow)
        have ho1 := Lib.hid hown'
        clear hown' hgrow hown hb
        go_wp2
        go_roundw
        case rel => exact ⟨k + 1, by omega, by go_num, by rw [hu.out]; exact ho1.out, hb1.out⟩
        case measure => simp [intOf]; omega
      · obtain rfl : k = q := by omega
        go_wp2
        go_ret
        exact ⟨_, rfl, by simpa using hown, hb⟩

def onB (x : Nat) : Bool := FloatKind.f32.format.order x 1056964608 == some .gt || FloatKind.f32.format.order x 1056964608 == some .eq
set_option maxHeartbeats 400000 in
theorem isOn_any (x : Nat) (w : World) : Calls Tryz.prog 95 #[.float .f32 x] w fun e w' => e = .returned (.bool (onB x)) ∧ w = w' := by
  go_enter Tryz.func95, Tryz.ntmps95
  go_wp2
  go_ret
  exact ⟨rfl, rfl⟩

/-- how many samples from the head on are on (or off) as the flag says -/
def runL (on : Bool) : List Nat → Nat
  | [] => 0
  | x :: xs => if onB x = on then runL on xs + 1 else 0
def spanEndL (xs : List Nat) (i : Nat) : Nat := i + 1 + runL (onB (xs.getD i 0)) (xs.drop (i + 1))
theorem runL_drop (on : Bool) (xs : List Nat) (k : Nat) (hk : k < xs.length) : runL on (xs.drop k) = if onB xs[k] = on then runL on (xs.drop (k + 1)) + 1 else 0 := by
  rw [List.drop_eq_getElem_cons hk, runL]
theorem runL_le (on : Bool) (xs : List Nat) : runL on xs ≤ xs.length := by
  induction xs with
  | nil => simp [runL]
  | cons x xs ih => rw [runL]; split <;> simp <;> omega

theorem quiet_same {P : Program} {f : FuncId} {args : Array Value} {w : World} {v : Value} {n : Nat} (h : Calls P f args (w.drewN n) fun e w' => e = .returned v ∧ w.drewN n = w') : Calls P f args (w.drewN n) fun e w'' => e = .returned v ∧ ∃ m, w'' = w.drewN m :=
  h.mono fun _ _ ⟨he, hm⟩ => ⟨he, n, hm.symm⟩

theorem quiet_same2 {P : Program} {f : FuncId} {args : Array Value} {w : World} {v : Value} {a n : Nat} (h : Calls P f args (w.drewN (a + n)) fun e w' => e = .returned v ∧ w.drewN (a + n) = w') : Calls P f args (w.drewN (a + n)) fun e w'' => e = .returned v ∧ ∃ m, w'' = w.drewN (a + m) :=
  h.mono fun _ _ ⟨he, hm⟩ => ⟨he, n, hm.symm⟩

set_option maxRecDepth 100000 in
set_option maxHeartbeats 1000000 in
theorem spanEnd_any (A : Option Addr) (n c : Nat) (xs : List Nat) (i : Nat) (w : World) (hA : Rd w A (flts xs)) (hn : n = xs.length) (hi : i < xs.length) (hm : xs.length ≤ 9223372036854775806) :
    Calls Tryz.prog 94 #[.slice A n c, .int .i64 i] w fun e w' => e = .returned (.int .i64 (spanEndL xs i : Nat)) ∧ ∃ q, w' = w.drewN q := by
  subst hn
  obtain ⟨b, off, rfl, hci⟩ := Rd.flt hA hi
  have hgi := Lib.hid (show xs.getD i 0 = xs[i] by simp [hi])
  go_enter Tryz.func94, Tryz.ntmps94
  go_wp2
  go_loopw [5] (fun t wr => ∃ k : Nat, i + 1 ≤ k ∧ k ≤ xs.length ∧ t = .int .i64 k ∧ Hid (k + runL (onB xs[i]) (xs.drop k) = spanEndL xs i) ∧ ∃ q, wr = w.drewN q) (fun t _ => xs.length - (intOf t).toNat)
  case atStart => exact ⟨i + 1, Nat.le_refl _, hi, by go_num, by show _ = _; rw [spanEndL, hgi.out], 0, rfl⟩
  case round =>
    obtain ⟨k, hk1, hk, rfl, H, q, rfl⟩ := hrel
    by_cases hlt : k < xs.length
    · obtain ⟨b', off', hab, hck⟩ := Rd.flt hA hlt
      cases hab
      have hr := Lib.hid (runL_drop (onB xs[i]) xs k hlt)
      have i1 : (k : Int) < (xs.length : Int) := by omega
      have i2 : (i : Int) < (xs.length : Int) := by omega
      cases hon : (onB xs[k] == onB xs[i])
      · have Hon := Lib.hid (show onB xs[k] ≠ onB xs[i] by simpa using hon)
        go_wp2
        go_quiet ((go_at_call 95; exact quiet_same2 (isOn_any _ _)))
        go_wp2
        go_ret
        exact ⟨ret_int (by rw [← H.out, hr.out, if_neg Hon.out]; rfl), q + _, by rw [World.drewN_drewN]⟩
      · have Hon := Lib.hid (show onB xs[k] = onB xs[i] by simpa using hon)
        go_wp2
        go_quiet ((go_at_call 95; exact quiet_same2 (isOn_any _ _)))
        go_wp2
        go_roundw
        case rel => exact ⟨k + 1, by omega, by omega, by go_num, by show _ = _; rw [← H.out, hr.out, if_pos Hon.out]; omega, _, rfl⟩
        case measure => simp [intOf]; omega
    · have hd : decide ((k : Int) < (xs.length : Int)) = false := by simp; omega
      go_wp2
      go_quiet (fail)
      go_wp2
      go_ret
      exact ⟨ret_int (by rw [← H.out, List.drop_of_length_le (by omega)]; rfl), q + _, by rw [World.drewN_drewN]⟩
end Go.Proofs.YtipligklkkiejaaGreatDoor

/- Contracts: spans, words and marks are compared; samples are made. -/
namespace Go.Proofs.YtipligklkkiejaaGreatDoor
set_option linter.all false
open Go.RowKit Go.Fl
set_option linter.unusedVariables false
set_option linter.unusedSimpArgs false

theorem spanC_get (l : List (Int × Int)) (k : Nat) (hk : k < l.length) : (spanC l)[k * 2]? = some (.int .i64 l[k].1) ∧ (spanC l)[k * 2 + 1]? = some (.int .i64 l[k].2) := by
  induction l generalizing k with
  | nil => simp at hk
  | cons p l ih =>
    match k, hk with
    | 0, _ => exact ⟨rfl, rfl⟩
    | k + 1, hk =>
      have h := ih k (by simpa using hk)
      have e1 : (k + 1) * 2 = k * 2 + 2 := by omega
      have e2 : (k + 1) * 2 + 1 = k * 2 + 1 + 2 := by omega
      rw [e1, show k * 2 + 2 + 1 = k * 2 + 1 + 2 by omega]
      exact ⟨by simpa [spanC] using h.1, by simpa [spanC] using h.2⟩
theorem Rd.span {w : World} {A : Option Addr} {l : List (Int × Int)} (h : Rd w A (spanC l)) {k : Nat} (hk : k < l.length) : ∃ b off, A = some ⟨b, off, none⟩ ∧ w.cell? ⟨b, off + k * 2, none⟩ = some (.int .i64 l[k].1) ∧ w.cell? ⟨b, off + k * 2 + 1, none⟩ = some (.int .i64 l[k].2) := by
  obtain ⟨h1, h2⟩ := spanC_get l k hk
  obtain ⟨b, off, hA, hc1⟩ := h _ _ h1
  obtain ⟨b', off', hA', hc2⟩ := h _ _ h2
  rw [hA] at hA'
  cases hA'
  exact ⟨b, off, hA, hc1, by rw [Nat.add_assoc]; exact hc2⟩

def sameSp : List (Int × Int) → List (Int × Int) → Bool
  | [], [] => true
  | p :: l, q :: m => (p.1 == q.1 && p.2 == q.2) && sameSp l m
  | _, _ => false
theorem sameSp_length {l m : List (Int × Int)} (h : l.length ≠ m.length) : sameSp l m = false := by
  induction l generalizing m with
  | nil => cases m with
    | nil => exact absurd rfl h
    | cons q m => rfl
  | cons p l ih => cases m with
    | nil => rfl
    | cons q m => rw [sameSp, ih (by simpa using h), Bool.and_false]
theorem sameSp_drop {l m : List (Int × Int)} {k : Nat} (hx : k < l.length) (hy : k < m.length) : sameSp (l.drop k) (m.drop k) = ((l[k].1 == m[k].1 && l[k].2 == m[k].2) && sameSp (l.drop (k + 1)) (m.drop (k + 1))) := by
  rw [List.drop_eq_getElem_cons hx, List.drop_eq_getElem_cons hy, sameSp]
theorem sameSp_refl (l : List (Int × Int)) : sameSp l l = true := by
  induction l with
  | nil => rfl
  | cons p l ih => simp [sameSp, ih]
theorem sameSp_eq {l m : List (Int × Int)} : sameSp l m = decide (l = m) := by
  induction l generalizing m with
  | nil => cases m <;> simp [sameSp]
  | cons p l ih => cases m with
    | nil => simp [sameSp]
    | cons q m =>
      rw [sameSp, ih]
      rcases p with ⟨a, b⟩; rcases q with ⟨c, d⟩
      by_cases h1 : a = c <;> by_cases h2 : b = d <;> by_cases h3 : l = m <;> simp [h1, h2, h3]

theorem fields94 : ((Tryz.prog.fieldsOf 93).toList.map fun f => (f.name, f.type, f.offset)) = [("From", 3, 0), ("To", 3, 1)] := by kernel_rfl
theorem neqSpan (a b c d : Int) (w : World) : (binOp .neq 93 (.agg #[.int .i64 a, .int .i64 b]) (.agg #[.int .i64 c, .int .i64 d])).run Tryz.prog w = .ok (.bool (!(a == c && b == d))) w := by
  have i3 := Tryz.underlying3
  have e1 : ∀ a b : Int, (part 3 #[.int .i64 a, .int .i64 b] 0).run Tryz.prog w = .ok (.int .i64 a) w := fun a b => part_int _ _ _ rfl w
  have e2 : ∀ a b : Int, (part 3 #[.int .i64 a, .int .i64 b] 1).run Tryz.prog w = .ok (.int .i64 b) w := fun a b => part_int _ _ _ rfl w
  have e4 := fun (a b : Int) => run_equalIn_int (P := Tryz.prog) w 9998 3 .i64 .i64 a b i3
  have n1 : ("From" : String) ≠ "_" := by decide
  have n2 : ("To" : String) ≠ "_" := by decide
  rw [run_neq_struct, run_eqStruct w 9999 _ _ _ _ (by kernel_rfl) (by kernel_rfl) fields94]
  simp only [eqTriples, if_pos n1, if_pos n2, Sem.run_bind, e1, e2, e4, Result.andThen_ok, Sem.run_ite, Sem.run_pure]
  cases a == c <;> cases b == d <;> simp [e1, e2, e4]

set_option maxHeartbeats 400000 in
theorem sameSpans_any (A B : Option Addr) (n m c d : Nat) (xs ys : List (Int × Int)) (w : World) (hA : Rd w A (spanC xs)) (hB : Rd w B (spanC ys)) (hn : n = xs.length) (hm : m = ys.length) (hx : xs.length ≤ 4611686018427387903) :
    Calls Tryz.prog 20 #[.slice A n c, .slice B m d] w fun e w' => e = .returned (.bool (sameSp xs ys)) ∧ ∃ q, w' = w.drewN q := by
  subst hn; subst hm
  by_cases hl : xs.length = ys.length
  · have hl1 : ((xs.length : Int) != (ys.length : Int)) = false := by rw [bne_eq_false_iff_eq]; omega
    have HL := Lib.hid hl; clear hl
    go_enter Tryz.func20, Tryz.ntmps20
    go_wp2
    go_loopw [5] (fun i wr => ∃ k : Nat, k ≤ xs.length ∧ i = .int .i64 k ∧ Hid (sameSp (xs.drop k) (ys.drop k) = sameSp xs ys) ∧ ∃ q, wr = w.drewN q) (fun i _ => xs.length - (intOf i).toNat)
    case atStart => exact ⟨0, Nat.zero_le _, rfl, rfl, 0, rfl⟩
    case round =>
      obtain ⟨k, hk, rfl, H, q, rfl⟩ := hrel
      by_cases hlt : k < xs.length
      · have hlt2 : k < ys.length := by rw [← HL.out]; exact hlt
        obtain ⟨b, off, rfl, hc1, hc2⟩ := Rd.span hA hlt
        obtain ⟨b', off', rfl, hc1', hc2'⟩ := Rd.span hB hlt2
        have i1 : (k : Int) < (xs.length : Int) := by omega
        have i2 : (k : Int) < (ys.length : Int) := by omega
        have HS := Lib.hid (sameSp_drop hlt hlt2)
        have hneq := neqSpan xs[k].1 xs[k].2 ys[k].1 ys[k].2
        cases ho : (xs[k].1 == ys[k].1 && xs[k].2 == ys[k].2)
        · have Ho := Lib.hid ho
          rw [ho] at hneq
          clear ho
          go_wp2
          go_quiet (fail)
          go_wp2
          go_ret
          exact ⟨ret_bool (by rw [← H.out, HS.out, Ho.out]; rfl), q + _, by rw [World.drewN_drewN]⟩
        · have Ho := Lib.hid ho
          rw [ho] at hneq
          clear ho
          go_wp2
          go_quiet (fail)
          go_wp2
          go_roundw
          case rel => exact ⟨k + 1, by omega, by go_num, by show _ = _; rw [← H.out, HS.out, Ho.out]; rfl, _, rfl⟩
          case measure => simp [intOf]; omega
      · go_wp2
        go_ret
        exact ⟨ret_bool (by rw [← H.out, List.drop_of_length_le (by omega), List.drop_of_length_le (by rw [← HL.out]; omega)]; rfl), q, rfl⟩
  · have hl1 : ((xs.length : Int) != (ys.length : Int)) = true := by rw [bne_iff_ne]; omega
    have HL := Lib.hid hl; clear hl
    go_enter Tryz.func20, Tryz.ntmps20
    go_wp2
    go_ret
    exact ⟨ret_bool (sameSp_length HL.out).symm, 0, rfl⟩
end Go.Proofs.YtipligklkkiejaaGreatDoor

/- Contracts: words are compared; samples are made of integers. -/
namespace Go.Proofs.YtipligklkkiejaaGreatDoor
set_option linter.all false
open Go.RowKit Go.Fl
set_option linter.unusedVariables false
set_option linter.unusedSimpArgs false

def strs (l : List ByteArray) : List Value := l.map Value.string
theorem Rd.str {w : World} {A : Option Addr} {xs : List ByteArray} (h : Rd w A (strs xs)) {j : Nat} (hj : j < xs.length) : ∃ b off, A = some ⟨b, off, none⟩ ∧ w.cell? ⟨b, off + j, none⟩ = some (.string xs[j]) := by
  obtain ⟨b, off, h1, h2⟩ := Rd.at h (j := j) (by simpa [strs] using hj)
  exact ⟨b, off, h1, by rw [h2]; simp [strs]⟩
def sameW : List ByteArray → List ByteArray → Bool
  | [], [] => true
  | p :: l, q :: m => (p.toList == q.toList) && sameW l m
  | _, _ => false
theorem sameW_length {l m : List ByteArray} (h : l.length ≠ m.length) : sameW l m = false := by
  induction l generalizing m with
  | nil => cases m with
    | nil => exact absurd rfl h
    | cons q m => rfl
  | cons p l ih => cases m with
    | nil => rfl
    | cons q m => rw [sameW, ih (by simpa using h), Bool.and_false]
theorem sameW_drop {l m : List ByteArray} {k : Nat} (hx : k < l.length) (hy : k < m.length) : sameW (l.drop k) (m.drop k) = ((l[k].toList == m[k].toList) && sameW (l.drop (k + 1)) (m.drop (k + 1))) := by
  rw [List.drop_eq_getElem_cons hx, List.drop_eq_getElem_cons hy, sameW]
theorem sameW_refl (l : List ByteArray) : sameW l l = true := by
  induction l with
  | nil => rfl
  | cons p l ih => simp [sameW, ih]
theorem sameW_eq {l m : List ByteArray} : sameW l m = decide (l = m) := by
  induction l generalizing m with
  | nil => cases m <;> simp [sameW]
  | cons p l ih => cases m with
    | nil => simp [sameW]
    | cons q m =>
      rw [sameW, ih]
      by_cases h1 : p = q
      · subst h1; by_cases h3 : l = m <;> simp [h3]
      · have h2 : (p.toList == q.toList) = false := by
          rw [Bool.eq_false_iff]; intro h; rw [beq_iff_eq, ByteArray.toList_eq, ByteArray.toList_eq] at h
          exact h1 (by rcases p with ⟨p⟩; rcases q with ⟨q⟩; simpa using h)
        simp [h1, h2]

set_option maxHeartbeats 400000 in
theorem sameWords_any (A B : Option Addr) (n m c d : Nat) (xs ys : List ByteArray) (w : World) (hA : Rd w A (strs xs)) (hB : Rd w B (strs ys)) (hn : n = xs.length) (hm : m = ys.length) (hx : xs.length ≤ 9223372036854775807) :
    Calls Tryz.prog 62 #[.slice A n c, .slice B m d] w fun e w' => e = .returned (.bool (sameW xs ys)) ∧ ∃ q, w' = w.drewN q := by
  subst hn; subst hm
  by_cases hl : xs.length = ys.length
  · have hl1 : ((xs.length : Int) != (ys.length : Int)) = false := by rw [bne_eq_false_iff_eq]; omega
    have HL := Lib.hid hl; clear hl
    go_enter Tryz.func62, Tryz.ntmps62
    go_wp2
    go_loopw [5] (fun i wr => ∃ k : Nat, k ≤ xs.length ∧ i = .int .i64 k ∧ Hid (sameW (xs.drop k) (ys.drop k) = sameW xs ys) ∧ ∃ q, wr = w.drewN q) (fun i _ => xs.length - (intOf i).toNat)
    case atStart => exact ⟨0, Nat.zero_le _, rfl, rfl, 0, rfl⟩
    case round =>
      obtain ⟨k, hk, rfl, H, q, rfl⟩ := hrel
      by_cases hlt : k < xs.length
      · have hlt2 : k < ys.length := by rw [← HL.out]; exact hlt
        obtain ⟨b, off, rfl, hc⟩ := Rd.str hA hlt
        obtain ⟨b', off', rfl, hc'⟩ := Rd.str hB hlt2
        have i1 : (k : Int) < (xs.length : Int) := by omega
        have i2 : (k : Int) < (ys.length : Int) := by omega
        have HS := Lib.hid (sameW_drop hlt hlt2)
        obtain ⟨x, hx1⟩ : ∃ x, x = xs[k] := ⟨_, rfl⟩
        obtain ⟨y, hy1⟩ : ∃ y, y = ys[k] := ⟨_, rfl⟩
        rw [← hx1] at hc HS; rw [← hy1] at hc' HS
        clear hx1 hy1
        cases ho : (x.toList == y.toList)
        · have Ho := Lib.hid ho
          go_wp2
          go_quiet (fail)
          go_wp2
          go_ret
          exact ⟨ret_bool (by rw [← H.out, HS.out, Ho.out]; rfl), q + _, by rw [World.drewN_drewN]⟩
        · have Ho := Lib.hid ho
          go_wp2
          go_quiet (fail)
          go_wp2
          go_roundw
          case rel => exact ⟨k + 1, by omega, by go_num, by show _ = _; rw [← H.out, HS.out, Ho.out]; rfl, _, rfl⟩
          case measure => simp [intOf]; omega
      · go_wp2
        go_ret
        exact ⟨ret_bool (by rw [← H.out, List.drop_of_length_le (by omega), List.drop_of_length_le (by rw [← HL.out]; omega)]; rfl), q, rfl⟩
  · have hl1 : ((xs.length : Int) != (ys.length : Int)) = true := by rw [bne_iff_ne]; omega
    have HL := Lib.hid hl; clear hl
    go_enter Tryz.func62, Tryz.ntmps62
    go_wp2
    go_ret
    exact ⟨ret_bool (sameW_length HL.out).symm, 0, rfl⟩

theorem fltsMap_snoc (l : List Int) (k : Nat) (hk : k < l.length) : flts ((l.map fb).take (k + 1)) = flts ((l.map fb).take k) ++ [.float .f32 (fb l[k])] := by
  rw [List.take_succ_eq_append_getElem (by simpa using hk)]; simp [flts]
set_option maxRecDepth 100000 in
set_option maxHeartbeats 1000000 in
theorem made_any (A : Option Addr) (n c : Nat) (l : List Int) (w : World) (hA : Rd w A (ints l)) (hn : n = l.length) (hm : l.length ≤ 1000000) (hb : ∀ x ∈ l, x.natAbs < 2 ^ 20) :
    Calls Tryz.prog 53 #[.slice A n c] w fun e w' => ∃ v, e = .returned v ∧ w'.ownsRow w.heap.size 24 1 v l.length (flts (l.map fb)) ∧ Below w.heap.size w w' := by
  subst hn
  have HB0 := Lib.hid hb
  clear hb
  obtain ⟨i0, hi, hz0, hz1, hz2⟩ := info_parts info37
  go_enter Tryz.func53, Tryz.ntmps53
  go_wp2
  go_loopw [3, 4] (fun u i wr => ∃ k : Nat, k ≤ l.length ∧ i = .int .i64 k ∧ wr.ownsRow w.heap.size 24 1 u k (flts ((l.map fb).take k)) ∧ Below w.heap.size w wr) (fun _ i _ => l.length - (intOf i).toNat)
  case atStart => exact ⟨0, Nat.zero_le _, rfl, World.ownsRow_nil _ _ _ _, Below.refl _ _⟩
  case round =>
    obtain ⟨k, hk, rfl, hown, hb⟩ := hrel
    have hsz := hb.size
    by_cases hlt : k < l.length
    · obtain ⟨b, off, rfl, hc⟩ := Rd.int (hA.below hb) hlt
      have hx := Lib.hid (HB0.out l[k] (List.getElem_mem hlt))
      have hu := Lib.hid (fltsMap_snoc l k hlt)
      go_wp2_with (first | (go_at_call 43; refine (sample_any _ _ hx.out).mono ?_; rintro e w1 ⟨rfl, rfl⟩) | (at_builtin; refine wpList_append_own _ rfl _ _ 59 rfl w.heap.size 24 i0 (.float .f32 0) 1 4 Tryz.underlying59 hi hz0 hz1 hz2 rfl (by decide) _ _ _ rfl (hown.alloc _) ⟨wr.heap.size, 0, none⟩ 1 1 [.float .f32 (fb l[k])] rfl rfl (news1 _ _ _ _ rfl) ?c2 ?c3 ?c4 ?c5 ?_))
      case c2 => simp [Value.oneCell']
      case c3 => unfold maxLen; omega
      case c4 => omega
      case c5 => simp; omega
      intro v' w1 hown' hgrow _
      have hb1 := Lib.hid (Below.app hb (by omega) hown hgrow)
      have ho1 := Lib.hid hown'
      clear hown' hgrow hown hb
      go_wp2
      go_roundw
      case rel => exact ⟨k + 1, by omega, by go_num, by rw [hu.out]; exact ho1.out, hb1.out⟩
      case measure => simp [intOf]; omega
    · obtain rfl : k = l.length := by omega
      go_wp2
      go_ret
      exact ⟨_, rfl, by rw [List.take_of_length_le (by simp)] at hown; exact hown, hb⟩
end Go.Proofs.YtipligklkkiejaaGreatDoor
