import Derived.Test.YtlflfieknibgmaaGreatDoorM28
import Derived.Test.YtlflfieknibgmaaGreatDoorM29
namespace Go.Proofs.YtlflfieknibgmaaGreatDoor
set_option linter.all false
open Go.RowKit Go.Fl
def cxV (l : List (Nat × Nat)) : List Value := l.map fun p => .complex .f32 p.1 p.2
theorem Rd.cx {w : World} {A : Option Addr} {zs : List (Nat × Nat)} (h : Rd w A (cxV zs)) {j : Nat} (hj : j < zs.length) : ∃ b off, A = some ⟨b, off, none⟩ ∧ w.cell? ⟨b, off + j, none⟩ = some (.complex .f32 zs[j].1 zs[j].2) := by
  obtain ⟨b, off, h1, h2⟩ := Rd.at h (j := j) (by simpa [cxV] using hj)
  refine ⟨b, off, h1, ?_⟩
  rw [h2]; simp [cxV]
set_option maxRecDepth 100000 in
set_option maxHeartbeats 4000000 in
theorem mappedC_any (A : Option Addr) (c : Nat) (l : List (Nat × Nat)) (p : Nat × Nat → Int) (F : Nat) (bs : Array Value) (w : World) (hA : Rd w A (cxV l)) (hm : l.length ≤ 1000000)
    (hF : ∀ k (h : k < l.length) W, Below w.heap.size w W → Calls Tryz.prog F (#[.complex .f32 l[k].1 l[k].2] ++ bs) W fun e w' => e = .returned (.int .i64 (p l[k])) ∧ Below W.heap.size W w') (eg : ∀ args w, (callFunc F args).run Tryz.prog w = .ok (.enter F args) w) :
    Calls Tryz.prog 109 #[.slice A l.length c, .func (.func F) #[] bs] w fun e w' => e = .returned (.slice (some ⟨w.heap.size, 0, none⟩) l.length l.length) ∧ Row w' w.heap.size 31 (ints (l.map p)) ∧ Below w.heap.size w w' := by
  have HF := Lib.hid hF; have HA := Lib.hid hA
  have hmk := fun W : World => make1 (P := Tryz.prog) 193 31 (.int .i64 0) 8 Tryz.underlying193 (by kernel_rfl) rfl l.length (by omega) (by omega) W
  clear hF hA
  go_enter Tryz.func109, Tryz.ntmps109
  go_wp2
  go_loopw [13] (fun i wr => ∃ k : Nat, k ≤ l.length ∧ i = .int .i64 k ∧ Row wr w.heap.size 31 (ints ((l.map p).take k) ++ List.replicate (l.length - k) (.int .i64 0)) ∧ Below w.heap.size w wr) (fun i _ => l.length - (intOf i).toNat)
  case atStart => exact ⟨0, Nat.zero_le _, rfl, by have := Row.new w 31 (List.replicate l.length (.int .i64 0)); simpa [ints] using this, (Below.refl _ _).alloc (Nat.le_refl _) _⟩
  case round =>
    obtain ⟨k, hk, rfl, hrow, hb⟩ := hrel
    by_cases hlt : k < l.length
    · obtain ⟨b0, off, rfl, q0⟩ := Rd.cx (HA.out.below hb) hlt
      have hset := Lib.hid (part_set (l.map p) l.length k (by simpa using hlt) (by simp))
      have hfk := Lib.hid (show (l.map p)[k]'(by simpa using hlt) = p l[k] by simp)
      have HFk := Lib.hid (HF.out k hlt)
      obtain ⟨E1, hE1⟩ : ∃ E1, E1 = p l[k] := ⟨_, rfl⟩
      rw [← hE1] at HFk hfk
      obtain ⟨⟨x, y⟩, hs⟩ : ∃ s, s = l[k] := ⟨_, rfl⟩
      rw [← hs] at q0 HFk
      dsimp only at q0 HFk
      have Hrow := Lib.hid hrow
      have Hb := Lib.hid hb
      clear hrow hb hs hE1
      go_wp2_with fail
      refine (HFk.out _ Hb.out).mono ?_
      rintro e w1 ⟨rfl, hb1⟩
      have Hrow1 := Lib.hid (Hrow.out.old hb1)
      have hc1 : w1.cell? ⟨w.heap.size, k, none⟩ = some (.int .i64 0) := by
        rw [Hrow1.out.cell]
        exact mid_get _ _ _ _ (by simp [ints]; omega) hlt
      have hf1 := Hrow1.out.free k
      have Hb1 := Lib.hid (Hb.out.trans (hb1.mono Hb.out.size))
      clear hb1 q0
      go_wp2
      go_roundw
      case rel => exact ⟨k + 1, by omega, by go_num, by rw [← hset.out, hfk.out]; exact Hrow1.out.set k _, Hb1.out.setCell (by simp) _⟩
      case measure => simp [intOf]; omega
    · obtain rfl : k = l.length := by omega
      go_wp2
      go_ret
      exact ⟨rfl, by rw [Nat.sub_self, List.replicate_zero, List.append_nil, List.take_of_length_le (by simp)] at hrow; exact hrow, hb⟩

structure P4 where
  a : Nat × Nat
  b : Nat × Nat
  c : Nat × Nat
  d : Nat × Nat
def P4.L32 (p : P4) : List Value := [.complex .f32 p.a.1 p.a.2, .complex .f32 p.b.1 p.b.2, .complex .f32 p.c.1 p.c.2, .complex .f32 p.d.1 p.d.2]
def P4.L64 (p : P4) : List Value := [.complex .f64 p.a.1 p.a.2, .complex .f64 p.b.1 p.b.2, .complex .f64 p.c.1 p.c.2, .complex .f64 p.d.1 p.d.2]
def panC (l : List P4) : List Value := l.flatMap P4.L32
theorem Rd.pan {w : World} {A : Option Addr} {l : List P4} (h : Rd w A (panC l)) {k : Nat} (hk : k < l.length) : ∃ b off, A = some ⟨b, off, none⟩ ∧ w.cell? ⟨b, off + k * 4, none⟩ = some (.complex .f32 l[k].a.1 l[k].a.2) ∧ w.cell? ⟨b, off + k * 4 + 1, none⟩ = some (.complex .f32 l[k].b.1 l[k].b.2) ∧ w.cell? ⟨b, off + k * 4 + 2, none⟩ = some (.complex .f32 l[k].c.1 l[k].c.2) ∧ w.cell? ⟨b, off + k * 4 + 3, none⟩ = some (.complex .f32 l[k].d.1 l[k].d.2) := by
  have g := fun j hj => flat_getS P4.L32 4 (fun _ => rfl) l k hk j hj
  obtain ⟨b, o, e, c0⟩ := h (k * 4 + 0) _ (g 0 (by decide))
  have st : ∀ j v, (panC l)[k * 4 + j]? = some v → w.cell? ⟨b, o + k * 4 + j, none⟩ = some v := fun j v hv => by
    obtain ⟨b', o', e', c⟩ := h _ _ hv
    rw [e] at e'
    cases e'
    rw [Nat.add_assoc]; exact c
  exact ⟨b, o, e, st 0 _ (g 0 (by decide)), st 1 _ (g 1 (by decide)), st 2 _ (g 2 (by decide)), st 3 _ (g 3 (by decide))⟩
def Wid (x y s t : Nat × Nat) : Prop := (∀ w, (convert 44 118 (.complex .f32 x.1 x.2)).run Tryz.prog w = .ok (.complex .f64 y.1 y.2) w) ∧ ∀ w, (binOp .add 118 (.complex .f64 s.1 s.2) (.complex .f64 y.1 y.2)).run Tryz.prog w = .ok (.complex .f64 t.1 t.2) w
structure SumOk (l : List P4) (S C : Nat → P4) : Prop where
  zero : S 0 = ⟨(0, 0), (0, 0), (0, 0), (0, 0)⟩
  a : ∀ k (h : k < l.length), Wid l[k].a (C k).a (S k).a (S (k + 1)).a
  b : ∀ k (h : k < l.length), Wid l[k].b (C k).b (S k).b (S (k + 1)).b
  c : ∀ k (h : k < l.length), Wid l[k].c (C k).c (S k).c (S (k + 1)).c
  d : ∀ k (h : k < l.length), Wid l[k].d (C k).d (S k).d (S (k + 1)).d
set_option maxRecDepth 100000 in
set_option maxHeartbeats 4000000 in
theorem sumOf_by (A : Option Addr) (n : Nat) (l : List P4) (S C : Nat → P4) (w : World) (hA : Rd w A (panC l)) (hm : l.length ≤ 1000) (hS : SumOk l S C) :
    Calls Tryz.prog 51 #[.slice A l.length n] w fun e w' => e = .returned (.agg (S l.length).L64.toArray) ∧ Below w.heap.size w w' := by
  have HA := Lib.hid hA; have HS := Lib.hid hS
  clear hA hS
  go_enter Tryz.func51, Tryz.ntmps51
  go_wp2
  go_loopw [10] (fun i wr => ∃ k : Nat, k ≤ l.length ∧ i = .int .i64 k ∧ Hid (Row wr (w.heap.size + 1) 129 (S k).L64) ∧ Hid (Row wr w.heap.size 129 [.complex .f64 0 0, .complex .f64 0 0, .complex .f64 0 0, .complex .f64 0 0]) ∧ Hid (Below w.heap.size w wr)) (fun i _ => l.length - (intOf i).toNat)
  case atStart =>
    refine ⟨0, Nat.zero_le _, rfl, ?_, (rowAt w w.heap.size rfl).alloc _, ((Below.refl _ _).alloc (Nat.le_refl _) _).alloc (by simp) _⟩
    rw [HS.out.zero]
    exact rowAt _ _ (by simp)
  case round =>
    obtain ⟨k, hk, rfl, hrow, hr0, hb⟩ := hrel
    by_cases hlt : k < l.length
    · obtain ⟨b0, off, rfl, q0, q1, q2, q3⟩ := Rd.pan (HA.out.below hb.out) hlt
      have ka := HS.out.a k hlt; have kb := HS.out.b k hlt; have kc := HS.out.c k hlt; have kd := HS.out.d k hlt
      obtain ⟨⟨⟨a1, a2⟩, ⟨b1, b2⟩, ⟨c1, c2⟩, ⟨d1, d2⟩⟩, hp⟩ : ∃ p, p = l[k] := ⟨_, rfl⟩
      obtain ⟨⟨⟨e1, e2⟩, ⟨f1, f2⟩, ⟨g1, g2⟩, ⟨h1, h2⟩⟩, hc⟩ : ∃ p, p = C k := ⟨_, rfl⟩
      obtain ⟨⟨⟨s1, s2⟩, ⟨t1, t2⟩, ⟨u1, u2⟩, ⟨v1, v2⟩⟩, hs⟩ : ∃ p, p = S k := ⟨_, rfl⟩
      obtain ⟨⟨⟨m1, m2⟩, ⟨n1, n2⟩, ⟨o1, o2⟩, ⟨p1, p2⟩⟩, ht⟩ : ∃ p, p = S (k + 1) := ⟨_, rfl⟩
      rw [← hp] at q0 q1 q2 q3 ka kb kc kd
      rw [← hc, ← hs, ← ht] at ka kb kc kd
      rw [← hs] at hrow
      dsimp only at q0 q1 q2 q3 ka kb kc kd
      have HT := Lib.hid ht
      obtain ⟨ka1, ka2⟩ := ka; obtain ⟨kb1, kb2⟩ := kb; obtain ⟨kc1, kc2⟩ := kc; obtain ⟨kd1, kd2⟩ := kd
      clear hp hc hs ht
      go_wp2_with fail
      have HAL : Hid (Below wr.heap.size wr (wr.alloc (.cells #[.complex .f32 a1 a2, .complex .f32 b1 b2, .complex .f32 c1 c2, .complex .f32 d1 d2] 45))) := (Below.refl _ _).alloc (Nat.le_refl _) _
      have R0 := Lib.hid (hrow.out.old HAL.out)
      have Z0 := Lib.hid (hr0.out.old HAL.out)
      have B0 := Lib.hid (hb.out.trans (HAL.out.mono hb.out.size))
      obtain ⟨W1, hW1⟩ : ∃ W1, W1 = wr.alloc (.cells #[.complex .f32 a1 a2, .complex .f32 b1 b2, .complex .f32 c1 c2, .complex .f32 d1 d2] 45) := ⟨_, rfl⟩
      rw [← hW1] at R0 Z0 B0 ⊢
      clear HAL hW1 q0 q1 q2 q3 hrow hr0 hb
      have hi0 : ∀ w, (Instr.index 45 (.agg #[.complex .f32 a1 a2, .complex .f32 b1 b2, .complex .f32 c1 c2, .complex .f32 d1 d2]) (.int .i64 0)).run Tryz.prog w = .ok (.complex .f32 a1 a2) w := fun w => by kernel_rfl
      have hi1 : ∀ w, (Instr.index 45 (.agg #[.complex .f32 a1 a2, .complex .f32 b1 b2, .complex .f32 c1 c2, .complex .f32 d1 d2]) (.int .i64 1)).run Tryz.prog w = .ok (.complex .f32 b1 b2) w := fun w => by kernel_rfl
      have hi2 : ∀ w, (Instr.index 45 (.agg #[.complex .f32 a1 a2, .complex .f32 b1 b2, .complex .f32 c1 c2, .complex .f32 d1 d2]) (.int .i64 2)).run Tryz.prog w = .ok (.complex .f32 c1 c2) w := fun w => by kernel_rfl
      have hi3 : ∀ w, (Instr.index 45 (.agg #[.complex .f32 a1 a2, .complex .f32 b1 b2, .complex .f32 c1 c2, .complex .f32 d1 d2]) (.int .i64 3)).run Tryz.prog w = .ok (.complex .f32 d1 d2) w := fun w => by kernel_rfl
      refine wp_loop_rounds 5 ?_
      have z0 := R0.out.cell 0; have z1 := R0.out.cell 1; have z2 := R0.out.cell 2; have z3 := R0.out.cell 3
      have y0 := R0.out.free 0; have y1 := R0.out.free 1; have y2 := R0.out.free 2; have y3 := R0.out.free 3
      simp only [P4.L64, List.getElem?_cons_succ, List.getElem?_cons_zero] at z0 z1 z2 z3
      rw [rounds_succ]
      go_wp2_with fail
      rw [rounds_succ]
      go_wp2_with fail
      rw [rounds_succ]
      go_wp2_with fail
      rw [rounds_succ]
      go_wp2_with fail
      rw [rounds_succ]
      go_wp2_with fail
      go_roundw
      case rel =>
        refine ⟨k + 1, by omega, by go_num, ?_, ?_, ?_⟩
        · rw [← HT.out]
          have h := (((R0.out.set 0 (.complex .f64 m1 m2)).set 1 (.complex .f64 n1 n2)).set 2 (.complex .f64 o1 o2)).set 3 (.complex .f64 p1 p2)
          exact h
        · have ne : w.heap.size ≠ w.heap.size + 1 := by omega
          exact (((Z0.out.far ne _).far ne _).far ne _).far ne _
        · exact (((B0.out.setCell (by simp) _).setCell (by simp) _).setCell (by simp) _).setCell (by simp) _
      case measure => simp [intOf]; omega
    · obtain rfl : k = l.length := by omega
      obtain ⟨⟨⟨m1, m2⟩, ⟨n1, n2⟩, ⟨o1, o2⟩, ⟨p1, p2⟩⟩, hs⟩ : ∃ p, p = S l.length := ⟨_, rfl⟩
      rw [← hs] at hrow
      have HSX := Lib.hid hs
      clear hs
      have HR : Hid (Row wr (w.heap.size + 1) 129 [.complex .f64 m1 m2, .complex .f64 n1 n2, .complex .f64 o1 o2, .complex .f64 p1 p2]) := hrow.out
      clear hrow
      go_wp2_with (first
        | (refine wpList_store_row rfl 129 _ _ rfl (w.heap.size) #[.complex .f64 m1 m2, .complex .f64 n1 n2, .complex .f64 o1 o2, .complex .f64 p1 p2] rfl rfl 129 _ hr0.out ?_ ?_ ?_ ?_; (kernel_rfl); (rfl); (simp [Value.oneCell']))
        | (refine wpList_load_row rfl 129 _ rfl (w.heap.size + 1) rfl 129 #[.complex .f64 m1 m2, .complex .f64 n1 n2, .complex .f64 o1 o2, .complex .f64 p1 p2] (0, 0) _ HR.out Tryz.underlying129 rfl ?_ ?_; (kernel_rfl)))
      refine bodyPost_ret (results_rowA rfl _ _ (w.heap.size) 129 #[.complex .f64 m1 m2, .complex .f64 n1 n2, .complex .f64 o1 o2, .complex .f64 p1 p2] (0, 0) _ rfl (hr0.out.setRow [.complex .f64 m1 m2, .complex .f64 n1 n2, .complex .f64 o1 o2, .complex .f64 p1 p2]) Tryz.underlying129 rfl (by kernel_rfl)) rfl ⟨by rw [← HSX.out]; rfl, Below.setRow hb.out (by omega) _⟩
end Go.Proofs.YtlflfieknibgmaaGreatDoor
