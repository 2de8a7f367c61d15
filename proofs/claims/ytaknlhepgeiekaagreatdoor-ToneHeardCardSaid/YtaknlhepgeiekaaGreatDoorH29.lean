import Derived.Test.YtaknlhepgeiekaaGreatDoorH27
import Derived.Test.YtaknlhepgeiekaaGreatDoorH28
namespace Go.Proofs.YtaknlhepgeiekaaGreatDoor
set_option linter.all false
open Go.RowKit Go.Fl
def cxV (l : List (Nat × Nat)) : List Value := l.map fun p => .complex .f32 p.1 p.2
theorem Rd.cx {w : World} {A : Option Addr} {zs : List (Nat × Nat)} (h : Rd w A (cxV zs)) {j : Nat} (hj : j < zs.length) : ∃ b off, A = some ⟨b, off, none⟩ ∧ w.cell? ⟨b, off + j, none⟩ = some (.complex .f32 zs[j].1 zs[j].2) := by
 obtain ⟨b, off, h1, h2⟩ := Rd.at h (j := j) (by simpa [cxV] using hj)
 refine ⟨b, off, h1, ?_⟩
 rw [h2]; simp [cxV]
set_option maxRecDepth 100000 in
set_option maxHeartbeats 4000000 in
theorem mappedC_any (A : Option Addr) (c : Nat) (l : List (Nat × Nat)) (p : Nat × Nat → Int) (F : Nat) (bs : Array Value) (w : World) (hA : Rd w A (cxV l)) (hm : l.length ≤ 1000000)
 (hF : ∀ k (h : k < l.length) W, Below w.heap.size w W → Calls Tryz.prog F (#[.complex .f32 l[k].1 l[k].2] ++ bs) W fun e w' => e = .returned (.int .i64 (p l[k])) ∧ Below W.heap.size W w') (eg : ∀ args w, (callFunc F args).run Tryz.prog w = .ok (.enter F args) w) :
 Calls Tryz.prog 101 #[.slice A l.length c, .func (.func F) #[] bs] w fun e w' => e = .returned (.slice (some ⟨w.heap.size, 0, none⟩) l.length l.length) ∧ Row w' w.heap.size 32 (ints (l.map p)) ∧ Below w.heap.size w w' := by
 have HF := Lib.hid hF; have HA := Lib.hid hA
 have hmk := fun W : World => make1 (P := Tryz.prog) 180 32 (.int .i64 0) 8 Tryz.underlying180 (by kernel_rfl) rfl l.length (by omega) (by omega) W
 clear hF hA
 go_enter Tryz.func101, Tryz.ntmps101
 go_wp2
 go_loopw [13] (fun i wr => ∃ k : Nat, k ≤ l.length ∧ i = .int .i64 k ∧ Row wr w.heap.size 32 (ints ((l.map p).take k) ++ List.replicate (l.length - k) (.int .i64 0)) ∧ Below w.heap.size w wr) (fun i _ => l.length - (intOf i).toNat)
 case atStart => exact ⟨0, Nat.zero_le _, rfl, by have := Row.new w 32 (List.replicate l.length (.int .i64 0)); simpa [ints] using this, (Below.refl _ _).alloc (Nat.le_refl _) _⟩
 case round =>
  obtain ⟨k, hk, rfl, hrow, hb⟩ := hrel
  by_cases hlt : k < l.length
  · obtain ⟨b0, off, rfl, q0⟩ := Rd.cx (HA.out.below hb) hlt
    have hset := Lib.hid (part_set (l.map p) l.length k (by simpa using hlt) (by simp))
    have hfk := Lib.hid (show (l.map p)[k]'(by simpa using hlt) = p l[k] by simp)
    have HFk := Lib.hid (HF.out k hlt)
    obtain ⟨E1, hE1⟩ : ∃ E1, E1 = p l[k] := ⟨_, rfl⟩
    rw [← hE1] at HFk hfk
    obtain ⟨⟨x, y⟩, hs⟩ : ∃ s, s = l[k] := ⟨_, rfl⟩
    rw [← hs] at q0 HFk
    dsimp only at q0 HFk
    have Hrow := Lib.hid hrow
    have Hb := Lib.hid hb
    clear hrow hb hs hE1
    go_wp2_with fail
    refine (HFk.out _ Hb.out).mono ?_
    rintro e w1 ⟨rfl, hb1⟩
    have Hrow1 := Lib.hid (Hrow.out.old hb1)
    have hc1 : w1.cell? ⟨w.heap.size, k, none⟩ = some (.int .i64 0) := by
     rw [Hrow1.out.cell]
     exact mid_get _ _ _ _ (by simp [ints]; omega) hlt
    have hf1 := Hrow1.out.free k
    have Hb1 := Lib.hid (Hb.out.trans (hb1.mono Hb.out.size))
    clear hb1 q0
    go_wp2
    go_roundw
    case rel => exact ⟨k + 1, by omega, by go_num, by rw [← hset.out, hfk.out]; exact Hrow1.out.set k _, Hb1.out.setCell (by simp) _⟩
    case measure => simp [intOf]; omega
  · obtain rfl : k = l.length := by omega
    go_wp2
    go_ret
    exact ⟨rfl, by rw [Nat.sub_self, List.replicate_zero, List.append_nil, List.take_of_length_le (by simp)] at hrow; exact hrow, hb⟩
set_option maxRecDepth 100000
set_option maxHeartbeats 1000000
def Cel (p : Nat × Nat) : Prop := (∃ x, Part p.1 x) ∧ ∃ x, Part p.2 x
theorem panel1_by (p : Nat × Nat) (w : World) (h : Cel p) : Calls Tryz.prog 102 #[.complex .f32 p.1 p.2] w fun e w' => e = .returned (.int .i64 0) ∧ Below w.heap.size w w' := by
 obtain ⟨x, y⟩ := p
 obtain ⟨⟨xr, hx⟩, ⟨xi, hy⟩⟩ := h
 have H1 : Hid (∀ W, Calls Tryz.prog 103 #[.float .f32 x] W fun e w' => e = .returned (.int .i64 0) ∧ Below W.heap.size W w') := fun W => checkPartS_by x xr W hx
 have H2 : Hid (∀ W, Calls Tryz.prog 103 #[.float .f32 y] W fun e w' => e = .returned (.int .i64 0) ∧ Below W.heap.size W w') := fun W => checkPartS_by y xi W hy
 clear hx hy
 dsimp only
 go_enter Tryz.func102, Tryz.ntmps102
 go_wp2_with fail
 refine (H1.out _).mono ?_
 rintro e w1 ⟨rfl, hb1⟩
 go_wp2_with fail
 refine (H2.out _).mono ?_
 rintro e w2 ⟨rfl, hb2⟩
 go_wp2_with fail
 refine (firstV_any _ _ _ [0, 0] _ ?_ rfl (by simp)).mono ?_
 · exact Rd.newT (t := 32)
 rintro e w3 ⟨rfl, rfl⟩
 go_wp2
 go_ret
 exact ⟨rfl, (hb1.trans (hb2.mono hb1.size)).alloc (Nat.le_trans hb1.size hb2.size) _⟩
theorem checkPanel_by (p0 p1 p2 p3 : Nat × Nat) (w : World) (h0 : Cel p0) (h1 : Cel p1) (h2 : Cel p2) (h3 : Cel p3) : Calls Tryz.prog 47 #[.agg #[.complex .f32 p0.1 p0.2, .complex .f32 p1.1 p1.2, .complex .f32 p2.1 p2.2, .complex .f32 p3.1 p3.2]] w fun e w' => e = .returned (.int .i64 0) ∧ Below w.heap.size w w' := by
 have HB : Hid (Below w.heap.size w (w.alloc (.cells #[.complex .f32 p0.1 p0.2, .complex .f32 p1.1 p1.2, .complex .f32 p2.1 p2.2, .complex .f32 p3.1 p3.2] 31))) := (Below.refl _ _).alloc (Nat.le_refl _) _
 have hall : ∀ p ∈ [p0, p1, p2, p3], Cel p := by
  intro p hp
  simp only [List.mem_cons, List.not_mem_nil, or_false] at hp
  rcases hp with rfl | rfl | rfl | rfl <;> assumption
 have hrd : Rd (w.alloc (.cells #[.complex .f32 p0.1 p0.2, .complex .f32 p1.1 p1.2, .complex .f32 p2.1 p2.2, .complex .f32 p3.1 p3.2] 31)) (some ⟨w.heap.size, 0, none⟩) (cxV [p0, p1, p2, p3]) := Rd.row (Row.new w 31 (cxV [p0, p1, p2, p3]))
 have HM := Lib.hid (mappedC_any (some ⟨w.heap.size, 0, none⟩) 4 [p0, p1, p2, p3] (fun _ => 0) 102 #[] (w.alloc (.cells #[.complex .f32 p0.1 p0.2, .complex .f32 p1.1 p1.2, .complex .f32 p2.1 p2.2, .complex .f32 p3.1 p3.2] 31)) hrd (by simp) (fun k hk W _ => by
  rw [Array.append_empty]
  refine panel1_by _ W ?_
  exact hall _ (List.getElem_mem hk)) (enters_of Tryz.func102 (by kernel_rfl) rfl))
 have HM2 : Hid (Calls Tryz.prog 101 #[.slice (some ⟨w.heap.size, 0, none⟩) 4 4, .func (.func 102) #[] #[]] (w.alloc (.cells #[.complex .f32 p0.1 p0.2, .complex .f32 p1.1 p1.2, .complex .f32 p2.1 p2.2, .complex .f32 p3.1 p3.2] 31)) fun e w' => ∃ g, e = .returned (.slice (some ⟨g, 0, none⟩) 4 4) ∧ Row w' g 32 (ints [0, 0, 0, 0]) ∧ Below w.heap.size w w') := HM.out.mono (fun e w' ⟨k1, k2, k3⟩ => ⟨_, k1, k2, HB.out.trans (k3.mono HB.out.size)⟩)
 clear h0 h1 h2 h3 hall hrd HM HB
 go_enter Tryz.func47, Tryz.ntmps47
 go_wp2_with fail
 refine HM2.out.mono ?_
 rintro e w1 ⟨g, rfl, hr1, hb1⟩
 have HB1 := Lib.hid hb1
 have HR1 := Lib.hid hr1
 clear hb1 hr1
 go_wp2_with fail
 refine (firstV_any _ _ _ [0, 0, 0, 0] _ (Rd.row HR1.out) rfl (by simp)).mono ?_
 rintro e w3 ⟨rfl, rfl⟩
 go_wp2
 go_ret
 exact ⟨rfl, HB1.out⟩
structure P4 where
 a : Nat × Nat
 b : Nat × Nat
 c : Nat × Nat
 d : Nat × Nat
def P4.L32 (p : P4) : List Value := [.complex .f32 p.a.1 p.a.2, .complex .f32 p.b.1 p.b.2, .complex .f32 p.c.1 p.c.2, .complex .f32 p.d.1 p.d.2]
def P4.L64 (p : P4) : List Value := [.complex .f64 p.a.1 p.a.2, .complex .f64 p.b.1 p.b.2, .complex .f64 p.c.1 p.c.2, .complex .f64 p.d.1 p.d.2]
def panC (l : List P4) : List Value := l.flatMap P4.L32
theorem Rd.pan {w : World} {A : Option Addr} {l : List P4} (h : Rd w A (panC l)) {k : Nat} (hk : k < l.length) : ∃ b off, A = some ⟨b, off, none⟩ ∧ w.cell? ⟨b, off + k * 4, none⟩ = some (.complex .f32 l[k].a.1 l[k].a.2) ∧ w.cell? ⟨b, off + k * 4 + 1, none⟩ = some (.complex .f32 l[k].b.1 l[k].b.2) ∧ w.cell? ⟨b, off + k * 4 + 2, none⟩ = some (.complex .f32 l[k].c.1 l[k].c.2) ∧ w.cell? ⟨b, off + k * 4 + 3, none⟩ = some (.complex .f32 l[k].d.1 l[k].d.2) := by
 have g := fun j hj => flat_getS P4.L32 4 (fun _ => rfl) l k hk j hj
 obtain ⟨b, o, e, c0⟩ := h (k * 4 + 0) _ (g 0 (by decide))
 have st : ∀ j v, (panC l)[k * 4 + j]? = some v → w.cell? ⟨b, o + k * 4 + j, none⟩ = some v := fun j v hv => by
  obtain ⟨b', o', e', c⟩ := h _ _ hv
  rw [e] at e'
  cases e'
  rw [Nat.add_assoc]; exact c
 exact ⟨b, o, e, st 0 _ (g 0 (by decide)), st 1 _ (g 1 (by decide)), st 2 _ (g 2 (by decide)), st 3 _ (g 3 (by decide))⟩
def Wid (x y s t : Nat × Nat) : Prop := (∀ w, (convert 30 103 (.complex .f32 x.1 x.2)).run Tryz.prog w = .ok (.complex .f64 y.1 y.2) w) ∧ ∀ w, (binOp .add 103 (.complex .f64 s.1 s.2) (.complex .f64 y.1 y.2)).run Tryz.prog w = .ok (.complex .f64 t.1 t.2) w
structure SumOk (l : List P4) (S C : Nat → P4) : Prop where
 zero : S 0 = ⟨(0, 0), (0, 0), (0, 0), (0, 0)⟩
 a : ∀ k (h : k < l.length), Wid l[k].a (C k).a (S k).a (S (k + 1)).a
 b : ∀ k (h : k < l.length), Wid l[k].b (C k).b (S k).b (S (k + 1)).b
 c : ∀ k (h : k < l.length), Wid l[k].c (C k).c (S k).c (S (k + 1)).c
 d : ∀ k (h : k < l.length), Wid l[k].d (C k).d (S k).d (S (k + 1)).d
set_option maxRecDepth 100000 in
set_option maxHeartbeats 4000000 in
theorem sumOf_by (A : Option Addr) (n : Nat) (l : List P4) (S C : Nat → P4) (w : World) (hA : Rd w A (panC l)) (hm : l.length ≤ 1000) (hS : SumOk l S C) :
 Calls Tryz.prog 48 #[.slice A l.length n] w fun e w' => e = .returned (.agg (S l.length).L64.toArray) ∧ Below w.heap.size w w' := by
 have HA := Lib.hid hA; have HS := Lib.hid hS
 clear hA hS
 go_enter Tryz.func48, Tryz.ntmps48
 go_wp2
 go_loopw [10] (fun i wr => ∃ k : Nat, k ≤ l.length ∧ i = .int .i64 k ∧ Hid (Row wr (w.heap.size + 1) 114 (S k).L64) ∧ Hid (Row wr w.heap.size 114 [.complex .f64 0 0, .complex .f64 0 0, .complex .f64 0 0, .complex .f64 0 0]) ∧ Hid (Below w.heap.size w wr)) (fun i _ => l.length - (intOf i).toNat)
 case atStart =>
  refine ⟨0, Nat.zero_le _, rfl, ?_, (rowAt w w.heap.size rfl).alloc _, ((Below.refl _ _).alloc (Nat.le_refl _) _).alloc (by simp) _⟩
  rw [HS.out.zero]
  exact rowAt _ _ (by simp)
 case round =>
  obtain ⟨k, hk, rfl, hrow, hr0, hb⟩ := hrel
  by_cases hlt : k < l.length
  · obtain ⟨b0, off, rfl, q0, q1, q2, q3⟩ := Rd.pan (HA.out.below hb.out) hlt
    have ka := HS.out.a k hlt; have kb := HS.out.b k hlt; have kc := HS.out.c k hlt; have kd := HS.out.d k hlt
    obtain ⟨⟨⟨a1, a2⟩, ⟨b1, b2⟩, ⟨c1, c2⟩, ⟨d1, d2⟩⟩, hp⟩ : ∃ p, p = l[k] := ⟨_, rfl⟩
    obtain ⟨⟨⟨e1, e2⟩, ⟨f1, f2⟩, ⟨g1, g2⟩, ⟨h1, h2⟩⟩, hc⟩ : ∃ p, p = C k := ⟨_, rfl⟩
    obtain ⟨⟨⟨s1, s2⟩, ⟨t1, t2⟩, ⟨u1, u2⟩, ⟨v1, v2⟩⟩, hs⟩ : ∃ p, p = S k := ⟨_, rfl⟩
    obtain ⟨⟨⟨m1, m2⟩, ⟨n1, n2⟩, ⟨o1, o2⟩, ⟨p1, p2⟩⟩, ht⟩ : ∃ p, p = S (k + 1) := ⟨_, rfl⟩
    rw [← hp] at q0 q1 q2 q3 ka kb kc kd
    rw [← hc, ← hs, ← ht] at ka kb kc kd
    rw [← hs] at hrow
    dsimp only at q0 q1 q2 q3 ka kb kc kd
    have HT := Lib.hid ht
    obtain ⟨ka1, ka2⟩ := ka; obtain ⟨kb1, kb2⟩ := kb; obtain ⟨kc1, kc2⟩ := kc; obtain ⟨kd1, kd2⟩ := kd
    clear hp hc hs ht
    go_wp2_with fail
    have HAL : Hid (Below wr.heap.size wr (wr.alloc (.cells #[.complex .f32 a1 a2, .complex .f32 b1 b2, .complex .f32 c1 c2, .complex .f32 d1 d2] 31))) := (Below.refl _ _).alloc (Nat.le_refl _) _
    have R0 := Lib.hid (hrow.out.old HAL.out)
    have Z0 := Lib.hid (hr0.out.old HAL.out)
    have B0 := Lib.hid (hb.out.trans (HAL.out.mono hb.out.size))
    obtain ⟨W1, hW1⟩ : ∃ W1, W1 = wr.alloc (.cells #[.complex .f32 a1 a2, .complex .f32 b1 b2, .complex .f32 c1 c2, .complex .f32 d1 d2] 31) := ⟨_, rfl⟩
    rw [← hW1] at R0 Z0 B0 ⊢
    clear HAL hW1 q0 q1 q2 q3 hrow hr0 hb
    have hi0 : ∀ w, (Instr.index 31 (.agg #[.complex .f32 a1 a2, .complex .f32 b1 b2, .complex .f32 c1 c2, .complex .f32 d1 d2]) (.int .i64 0)).run Tryz.prog w = .ok (.complex .f32 a1 a2) w := fun w => by kernel_rfl
    have hi1 : ∀ w, (Instr.index 31 (.agg #[.complex .f32 a1 a2, .complex .f32 b1 b2, .complex .f32 c1 c2, .complex .f32 d1 d2]) (.int .i64 1)).run Tryz.prog w = .ok (.complex .f32 b1 b2) w := fun w => by kernel_rfl
    have hi2 : ∀ w, (Instr.index 31 (.agg #[.complex .f32 a1 a2, .complex .f32 b1 b2, .complex .f32 c1 c2, .complex .f32 d1 d2]) (.int .i64 2)).run Tryz.prog w = .ok (.complex .f32 c1 c2) w := fun w => by kernel_rfl
    have hi3 : ∀ w, (Instr.index 31 (.agg #[.complex .f32 a1 a2, .complex .f32 b1 b2, .complex .f32 c1 c2, .complex .f32 d1 d2]) (.int .i64 3)).run Tryz.prog w = .ok (.complex .f32 d1 d2) w := fun w => by kernel_rfl
    refine wp_loop_rounds 5 ?_
    have z0 := R0.out.cell 0; have z1 := R0.out.cell 1; have z2 := R0.out.cell 2; have z3 := R0.out.cell 3
    have y0 := R0.out.free 0; have y1 := R0.out.free 1; have y2 := R0.out.free 2; have y3 := R0.out.free 3
    simp only [P4.L64, List.getElem?_cons_succ, List.getElem?_cons_zero] at z0 z1 z2 z3
    rw [rounds_succ]
    go_wp2_with fail
    rw [rounds_succ]
    go_wp2_with fail
    rw [rounds_succ]
    go_wp2_with fail
    rw [rounds_succ]
    go_wp2_with fail
    rw [rounds_succ]
    go_wp2_with fail
    go_roundw
    case rel =>
     refine ⟨k + 1, by omega, by go_num, ?_, ?_, ?_⟩
     · rw [← HT.out]
       have h := (((R0.out.set 0 (.complex .f64 m1 m2)).set 1 (.complex .f64 n1 n2)).set 2 (.complex .f64 o1 o2)).set 3 (.complex .f64 p1 p2)
       exact h
     · have ne : w.heap.size ≠ w.heap.size + 1 := by omega
       exact (((Z0.out.far ne _).far ne _).far ne _).far ne _
     · exact (((B0.out.setCell (by simp) _).setCell (by simp) _).setCell (by simp) _).setCell (by simp) _
    case measure => simp [intOf]; omega
  · obtain rfl : k = l.length := by omega
    obtain ⟨⟨⟨m1, m2⟩, ⟨n1, n2⟩, ⟨o1, o2⟩, ⟨p1, p2⟩⟩, hs⟩ : ∃ p, p = S l.length := ⟨_, rfl⟩
    rw [← hs] at hrow
    have HSX := Lib.hid hs
    clear hs
    have HR : Hid (Row wr (w.heap.size + 1) 114 [.complex .f64 m1 m2, .complex .f64 n1 n2, .complex .f64 o1 o2, .complex .f64 p1 p2]) := hrow.out
    clear hrow
    go_wp2_with (first
     | (refine wpList_store_row rfl 114 _ _ rfl (w.heap.size) #[.complex .f64 m1 m2, .complex .f64 n1 n2, .complex .f64 o1 o2, .complex .f64 p1 p2] rfl rfl 114 _ hr0.out ?_ ?_ ?_ ?_; (kernel_rfl); (rfl); (simp [Value.oneCell']))
     | (refine wpList_load_row rfl 114 _ rfl (w.heap.size + 1) rfl 114 #[.complex .f64 m1 m2, .complex .f64 n1 n2, .complex .f64 o1 o2, .complex .f64 p1 p2] (0, 0) _ HR.out Tryz.underlying114 rfl ?_ ?_; (kernel_rfl)))
    refine bodyPost_ret (results_rowA rfl _ _ (w.heap.size) 114 #[.complex .f64 m1 m2, .complex .f64 n1 n2, .complex .f64 o1 o2, .complex .f64 p1 p2] (0, 0) _ rfl (hr0.out.setRow [.complex .f64 m1 m2, .complex .f64 n1 n2, .complex .f64 o1 o2, .complex .f64 p1 p2]) Tryz.underlying114 rfl (by kernel_rfl)) rfl ⟨by rw [← HSX.out]; rfl, Below.setRow hb.out (by omega) _⟩
def Mad (x y : Nat) (f : Int) (s t : Nat × Nat) : Prop := ∃ k l, (∀ w, (binOp .mul 103 (.complex .f64 x y) (.complex .f64 (floatOfInt .f64 f) 0)).run Tryz.prog w = .ok (.complex .f64 k l) w) ∧ ∀ w, (binOp .add 103 (.complex .f64 s.1 s.2) (.complex .f64 k l)).run Tryz.prog w = .ok (.complex .f64 t.1 t.2) w
def mixP (s m : P4) : Nat → List Value
 | 0 => s.L64
 | 1 => [.complex .f64 m.a.1 m.a.2, .complex .f64 s.b.1 s.b.2, .complex .f64 s.c.1 s.c.2, .complex .f64 s.d.1 s.d.2]
 | 2 => [.complex .f64 m.a.1 m.a.2, .complex .f64 m.b.1 m.b.2, .complex .f64 s.c.1 s.c.2, .complex .f64 s.d.1 s.d.2]
 | 3 => [.complex .f64 m.a.1 m.a.2, .complex .f64 m.b.1 m.b.2, .complex .f64 m.c.1 m.c.2, .complex .f64 s.d.1 s.d.2]
 | _ => m.L64
structure PartOk (p : P4) (Q : Nat → P4) : Prop where
 zero : Q 0 = ⟨(0, 0), (0, 0), (0, 0), (0, 0)⟩
 at' : ∀ t, t < 4 → ∃ x y fl fh, p.L64[t]? = some (.complex .f64 x y) ∧ ([.int .i64 1, .int .i64 1, .int .i64 (-1), .int .i64 (-1)] : List Value)[t]? = some (.int .i64 fl) ∧ ([.int .i64 1, .int .i64 (-1), .int .i64 1, .int .i64 (-1)] : List Value)[t]? = some (.int .i64 fh) ∧ (fl = 1 ∨ fl = -1) ∧ (fh = 1 ∨ fh = -1) ∧ Mad x y 1 (Q t).a (Q (t + 1)).a ∧ Mad x y fl (Q t).b (Q (t + 1)).b ∧ Mad x y fh (Q t).c (Q (t + 1)).c ∧ Mad x y (fl * fh) (Q t).d (Q (t + 1)).d
set_option maxRecDepth 100000 in
set_option maxHeartbeats 8000000 in
theorem parted_by (p : P4) (Q : Nat → P4) (w : World) (hQ : PartOk p Q) : Calls Tryz.prog 104 #[.agg p.L64.toArray] w fun e w' => e = .returned (.agg (Q 4).L64.toArray) ∧ Below w.heap.size w w' := by
 have HQ := Lib.hid hQ
 clear hQ
 obtain ⟨⟨a1, a2⟩, ⟨b1, b2⟩, ⟨c1, c2⟩, ⟨d1, d2⟩⟩ := p
 rw [show (P4.L64 ⟨(a1, a2), (b1, b2), (c1, c2), (d1, d2)⟩).toArray = #[.complex .f64 a1 a2, .complex .f64 b1 b2, .complex .f64 c1 c2, .complex .f64 d1 d2] from rfl]
 have hi0 : ∀ w, (Instr.index 109 (.agg #[.int .i64 1, .int .i64 1, .int .i64 (-1), .int .i64 (-1), .func (.func 99) #[] #[], .int .i64 1, .int .i64 (-1), .int .i64 1, .int .i64 (-1), .func (.func 100) #[] #[]]) (.int .i64 0)).run Tryz.prog w = .ok (.agg #[.int .i64 1, .int .i64 1, .int .i64 (-1), .int .i64 (-1), .func (.func 99) #[] #[]]) w := fun w => by kernel_rfl
 have hi1 : ∀ w, (Instr.index 109 (.agg #[.int .i64 1, .int .i64 1, .int .i64 (-1), .int .i64 (-1), .func (.func 99) #[] #[], .int .i64 1, .int .i64 (-1), .int .i64 1, .int .i64 (-1), .func (.func 100) #[] #[]]) (.int .i64 1)).run Tryz.prog w = .ok (.agg #[.int .i64 1, .int .i64 (-1), .int .i64 1, .int .i64 (-1), .func (.func 100) #[] #[]]) w := fun w => by kernel_rfl
 have hf0 : ∀ w, (Instr.field 108 (.agg #[.int .i64 1, .int .i64 1, .int .i64 (-1), .int .i64 (-1), .func (.func 99) #[] #[]]) 0).run Tryz.prog w = .ok (.agg #[.int .i64 1, .int .i64 1, .int .i64 (-1), .int .i64 (-1)]) w := fun w => by kernel_rfl
 have hf1 : ∀ w, (Instr.field 108 (.agg #[.int .i64 1, .int .i64 (-1), .int .i64 1, .int .i64 (-1), .func (.func 100) #[] #[]]) 0).run Tryz.prog w = .ok (.agg #[.int .i64 1, .int .i64 (-1), .int .i64 1, .int .i64 (-1)]) w := fun w => by kernel_rfl
 have HA0 : Hid (Row ((w.alloc (.cells #[.complex .f64 a1 a2, .complex .f64 b1 b2, .complex .f64 c1 c2, .complex .f64 d1 d2] 114)).alloc (.cells #[.complex .f64 0 0, .complex .f64 0 0, .complex .f64 0 0, .complex .f64 0 0] 114)) w.heap.size 114 [.complex .f64 a1 a2, .complex .f64 b1 b2, .complex .f64 c1 c2, .complex .f64 d1 d2] ∧ Row ((w.alloc (.cells #[.complex .f64 a1 a2, .complex .f64 b1 b2, .complex .f64 c1 c2, .complex .f64 d1 d2] 114)).alloc (.cells #[.complex .f64 0 0, .complex .f64 0 0, .complex .f64 0 0, .complex .f64 0 0] 114)) (w.heap.size + 1) 114 [.complex .f64 0 0, .complex .f64 0 0, .complex .f64 0 0, .complex .f64 0 0] ∧ Below w.heap.size w ((w.alloc (.cells #[.complex .f64 a1 a2, .complex .f64 b1 b2, .complex .f64 c1 c2, .complex .f64 d1 d2] 114)).alloc (.cells #[.complex .f64 0 0, .complex .f64 0 0, .complex .f64 0 0, .complex .f64 0 0] 114))) := ⟨(rowAt w w.heap.size rfl).alloc _, rowAt _ _ (by simp), ((Below.refl _ _).alloc (Nat.le_refl _) _).alloc (by simp) _⟩
 go_enter Tryz.func104, Tryz.ntmps104
 go_wp2_with fail
 refine (tones_any _).mono ?_
 rintro e w2 ⟨rfl, hb2⟩
 have HA2 : Hid (Row w2 w.heap.size 114 [.complex .f64 a1 a2, .complex .f64 b1 b2, .complex .f64 c1 c2, .complex .f64 d1 d2] ∧ Row w2 (w.heap.size + 1) 114 [.complex .f64 0 0, .complex .f64 0 0, .complex .f64 0 0, .complex .f64 0 0] ∧ Below w.heap.size w w2) := ⟨HA0.out.1.old hb2, HA0.out.2.1.old hb2, HA0.out.2.2.trans (hb2.mono HA0.out.2.2.size)⟩
 clear hb2 HA0
 go_wp2_with fail
 refine (tones_any _).mono ?_
 rintro e w3 ⟨rfl, hb3⟩
 have HA3 : Hid (Row w3 w.heap.size 114 [.complex .f64 a1 a2, .complex .f64 b1 b2, .complex .f64 c1 c2, .complex .f64 d1 d2] ∧ Row w3 (w.heap.size + 1) 114 [.complex .f64 0 0, .complex .f64 0 0, .complex .f64 0 0, .complex .f64 0 0] ∧ Below w.heap.size w w3) := ⟨HA2.out.1.old hb3, HA2.out.2.1.old hb3, HA2.out.2.2.trans (hb3.mono HA2.out.2.2.size)⟩
 clear hb3 HA2
 go_upto_region 3 with fail
 obtain ⟨g, hg⟩ : ∃ g, g = w3.heap.size := ⟨_, rfl⟩
 have hgz : w.heap.size + 1 < g := by have := HA3.out.2.1.lt; omega
 refine genT (fun V => Row V (g + 1 + 1) 114 [.complex .f64 0 0, .complex .f64 0 0, .complex .f64 0 0, .complex .f64 0 0] ∧ Row V w.heap.size 114 [.complex .f64 a1 a2, .complex .f64 b1 b2, .complex .f64 c1 c2, .complex .f64 d1 d2] ∧ Row V (w.heap.size + 1) 114 [.complex .f64 0 0, .complex .f64 0 0, .complex .f64 0 0, .complex .f64 0 0] ∧ Row V g 105 [.int .i64 1, .int .i64 1, .int .i64 (-1), .int .i64 (-1)] ∧ Row V (g + 1) 105 [.int .i64 1, .int .i64 (-1), .int .i64 1, .int .i64 (-1)] ∧ Below w.heap.size w V) ⟨rowAt _ _ (by simp [hg]), ((HA3.out.1.alloc _).alloc _).alloc _, ((HA3.out.2.1.alloc _).alloc _).alloc _, ((rowAt _ _ (by simp [hg])).alloc _).alloc _, (rowAt _ _ (by simp [hg])).alloc _, ((HA3.out.2.2.alloc HA3.out.2.2.size _).alloc (by have := HA3.out.2.2.size; simp; omega) _).alloc (by have := HA3.out.2.2.size; simp; omega) _⟩ ?_
 rw [← hg]
 intro W0 s0
 have HS0 : Hid (Row W0 (g + 1 + 1) 114 (Q 0).L64 ∧ Row W0 w.heap.size 114 [.complex .f64 a1 a2, .complex .f64 b1 b2, .complex .f64 c1 c2, .complex .f64 d1 d2] ∧ Row W0 (w.heap.size + 1) 114 [.complex .f64 0 0, .complex .f64 0 0, .complex .f64 0 0, .complex .f64 0 0] ∧ Row W0 g 105 [.int .i64 1, .int .i64 1, .int .i64 (-1), .int .i64 (-1)] ∧ Row W0 (g + 1) 105 [.int .i64 1, .int .i64 (-1), .int .i64 1, .int .i64 (-1)] ∧ Below w.heap.size w W0) := by rw [HQ.out.zero]; exact s0
 clear s0 HA3 hg
 go_wp2
 go_loopw [15] (fun i wr => ∃ t : Nat, t ≤ 4 ∧ i = .int .i64 t ∧ Hid (Row wr (g + 1 + 1) 114 (Q t).L64 ∧ Row wr w.heap.size 114 [.complex .f64 a1 a2, .complex .f64 b1 b2, .complex .f64 c1 c2, .complex .f64 d1 d2] ∧ Row wr (w.heap.size + 1) 114 [.complex .f64 0 0, .complex .f64 0 0, .complex .f64 0 0, .complex .f64 0 0] ∧ Row wr g 105 [.int .i64 1, .int .i64 1, .int .i64 (-1), .int .i64 (-1)] ∧ Row wr (g + 1) 105 [.int .i64 1, .int .i64 (-1), .int .i64 1, .int .i64 (-1)] ∧ Below w.heap.size w wr)) (fun i _ => 4 - (intOf i).toNat)
 case atStart => exact ⟨0, by omega, rfl, HS0.out⟩
 case round =>
  clear HS0
  obtain ⟨t, ht, rfl, HR⟩ := hrel
  by_cases hlt : t < 4
  · obtain ⟨x1, x2, fl, fh, hp, hl, hh, hfl, hfh, ⟨k1, l1, m1f, a1f⟩, ⟨k2, l2, m2f, a2f⟩, ⟨k3, l3, m3f, a3f⟩, ⟨k4, l4, m4f, a4f⟩⟩ := HQ.out.at' t hlt
    have HP : Hid (([.complex .f64 a1 a2, .complex .f64 b1 b2, .complex .f64 c1 c2, .complex .f64 d1 d2] : List Value)[t]? = some (.complex .f64 x1 x2)) := hp
    have HL := Lib.hid hl; have HH := Lib.hid hh
    obtain ⟨fp, hfp⟩ : ∃ fp, fp = fl * fh := ⟨_, rfl⟩
    have ew : IntKind.i64.wrap (fl * fh) = fp := by rw [hfp]; rcases hfl with rfl | rfl <;> rcases hfh with rfl | rfl <;> rfl
    rw [← hfp] at m4f
    obtain ⟨⟨⟨s1, s2⟩, ⟨t1, t2⟩, ⟨u1, u2⟩, ⟨v1, v2⟩⟩, hs⟩ : ∃ p, p = Q t := ⟨_, rfl⟩
    obtain ⟨⟨⟨m1, m2⟩, ⟨n1, n2⟩, ⟨o1, o2⟩, ⟨p1, p2⟩⟩, hq⟩ : ∃ p, p = Q (t + 1) := ⟨_, rfl⟩
    have HQT := Lib.hid hq
    rw [← hs] at a1f a2f a3f a4f HR
    rw [← hq] at a1f a2f a3f a4f
    dsimp only at a1f a2f a3f a4f
    have HR0 : Hid (Row wr (g + 1 + 1) 114 [.complex .f64 s1 s2, .complex .f64 t1 t2, .complex .f64 u1 u2, .complex .f64 v1 v2] ∧ Row wr w.heap.size 114 [.complex .f64 a1 a2, .complex .f64 b1 b2, .complex .f64 c1 c2, .complex .f64 d1 d2] ∧ Row wr (w.heap.size + 1) 114 [.complex .f64 0 0, .complex .f64 0 0, .complex .f64 0 0, .complex .f64 0 0] ∧ Row wr g 105 [.int .i64 1, .int .i64 1, .int .i64 (-1), .int .i64 (-1)] ∧ Row wr (g + 1) 105 [.int .i64 1, .int .i64 (-1), .int .i64 1, .int .i64 (-1)] ∧ Below w.heap.size w wr) := HR.out
    clear hp hl hh hfp hfl hfh hs hq HR
    go_upto_region 6 with fail
    refine genT (fun V => Row V (g + 1 + 1) 114 [.complex .f64 s1 s2, .complex .f64 t1 t2, .complex .f64 u1 u2, .complex .f64 v1 v2] ∧ Row V w.heap.size 114 [.complex .f64 a1 a2, .complex .f64 b1 b2, .complex .f64 c1 c2, .complex .f64 d1 d2] ∧ Row V (w.heap.size + 1) 114 [.complex .f64 0 0, .complex .f64 0 0, .complex .f64 0 0, .complex .f64 0 0] ∧ Row V g 105 [.int .i64 1, .int .i64 1, .int .i64 (-1), .int .i64 (-1)] ∧ Row V (g + 1) 105 [.int .i64 1, .int .i64 (-1), .int .i64 1, .int .i64 (-1)] ∧ Below w.heap.size w V) HR0.out ?_
    intro W1 s1
    have HS1 := Lib.hid s1
    clear s1 HR0
    refine wp_region_held_drew (S := fun V => Row V (g + 1 + 1) 114 [.complex .f64 s1 s2, .complex .f64 t1 t2, .complex .f64 u1 u2, .complex .f64 v1 v2] ∧ Row V w.heap.size 114 [.complex .f64 a1 a2, .complex .f64 b1 b2, .complex .f64 c1 c2, .complex .f64 d1 d2] ∧ Row V (w.heap.size + 1) 114 [.complex .f64 0 0, .complex .f64 0 0, .complex .f64 0 0, .complex .f64 0 0] ∧ Row V g 105 [.int .i64 1, .int .i64 1, .int .i64 (-1), .int .i64 (-1)] ∧ Row V (g + 1) 105 [.int .i64 1, .int .i64 (-1), .int .i64 1, .int .i64 (-1)] ∧ Below w.heap.size w V) (by kernel_rfl) ?_ (fun hHeld => ?_)
    · exact ⟨(HS1.out.1).drew, (HS1.out.2.1).drew, (HS1.out.2.2.1).drew, (HS1.out.2.2.2.1).drew, (HS1.out.2.2.2.2.1).drew, (HS1.out.2.2.2.2.2).drew⟩
    refine ta 0 18 hHeld ?_
    try simp only [zz]
    refine ta 1 19 hHeld ?_
    try simp only [zz]
    refine tk 2 20 ?_ rfl (by kernel_rfl) (fun _ _ _ h => h) (by kernel_rfl) ?_ hHeld ?_
    rotate_left
    · intro w1 hSw; (try dsimp only at hSw); have cc := (hSw.2.2.2.1).cell t; rw [HL.out] at cc; go_simp <;> with_reducible rfl
    try simp only [zz]
    refine ta 3 21 hHeld ?_
    try simp only [zz]
    refine ta 4 22 hHeld ?_
    try simp only [zz]
    refine tk 5 23 ?_ rfl (by kernel_rfl) (fun _ _ _ h => h) (by kernel_rfl) ?_ hHeld ?_
    rotate_left
    · intro w1 hSw; (try dsimp only at hSw); have cc := (hSw.2.2.2.2.1).cell t; rw [HH.out] at cc; go_simp <;> with_reducible rfl
    try simp only [zz]
    refine ta 6 24 hHeld ?_
    try simp only [zz]
    refine ta 7 25 hHeld ?_
    try simp only [zz]
    refine tk 8 26 ?_ rfl (by kernel_rfl) (fun _ _ _ h => h) (by kernel_rfl) ?_ hHeld ?_
    rotate_left
    · intro w1 hSw; (try dsimp only at hSw); have cc := (hSw.2.2.2.1).cell t; rw [HL.out] at cc; go_simp <;> with_reducible rfl
    try simp only [zz]
    refine ta 9 27 hHeld ?_
    try simp only [zz]
    refine ta 10 28 hHeld ?_
    try simp only [zz]
    refine tk 11 29 ?_ rfl (by kernel_rfl) (fun _ _ _ h => h) (by kernel_rfl) ?_ hHeld ?_
    rotate_left
    · intro w1 hSw; (try dsimp only at hSw); have cc := (hSw.2.2.2.2.1).cell t; rw [HH.out] at cc; go_simp <;> with_reducible rfl
    try simp only [zz]
    refine tk 12 30 ?_ rfl (by kernel_rfl) (fun _ _ _ h => h) (by kernel_rfl) ?_ hHeld ?_
    rotate_left
    · intro w1 hSw; go_simp <;> with_reducible rfl
    try simp only [zz]
    refine ta 13 31 hHeld ?_
    try simp only [zz]
    refine ta 14 32 hHeld ?_
    try simp only [zz]
    refine wpAnyH_done (by kernel_rfl) ?_ _
    have HT0 := Lib.hid hHeld
    clear hHeld HS1
    have hi0 : ∀ w, (Instr.index 105 (.agg #[.int .i64 1, .int .i64 fl, .int .i64 fh, .int .i64 fp]) (.int .i64 0)).run Tryz.prog w = .ok (.int .i64 1) w := fun w => by kernel_rfl
    have hi1 : ∀ w, (Instr.index 105 (.agg #[.int .i64 1, .int .i64 fl, .int .i64 fh, .int .i64 fp]) (.int .i64 1)).run Tryz.prog w = .ok (.int .i64 fl) w := fun w => by kernel_rfl
    have hi2 : ∀ w, (Instr.index 105 (.agg #[.int .i64 1, .int .i64 fl, .int .i64 fh, .int .i64 fp]) (.int .i64 2)).run Tryz.prog w = .ok (.int .i64 fh) w := fun w => by kernel_rfl
    have hi3 : ∀ w, (Instr.index 105 (.agg #[.int .i64 1, .int .i64 fl, .int .i64 fh, .int .i64 fp]) (.int .i64 3)).run Tryz.prog w = .ok (.int .i64 fp) w := fun w => by kernel_rfl
    go_wp2
    try rw [show decide ((t : Int) < 4) = true from decide_eq_true (by omega)]
    go_loopw [32] (fun u wx => ∃ j : Nat, j ≤ 4 ∧ u = .int .i64 j ∧ Hid (Row wx (g + 1 + 1) 114 (mixP ⟨(s1, s2), (t1, t2), (u1, u2), (v1, v2)⟩ ⟨(m1, m2), (n1, n2), (o1, o2), (p1, p2)⟩ j) ∧ Row wx w.heap.size 114 [.complex .f64 a1 a2, .complex .f64 b1 b2, .complex .f64 c1 c2, .complex .f64 d1 d2] ∧ Row wx (w.heap.size + 1) 114 [.complex .f64 0 0, .complex .f64 0 0, .complex .f64 0 0, .complex .f64 0 0] ∧ Row wx g 105 [.int .i64 1, .int .i64 1, .int .i64 (-1), .int .i64 (-1)] ∧ Row wx (g + 1) 105 [.int .i64 1, .int .i64 (-1), .int .i64 1, .int .i64 (-1)] ∧ Below w.heap.size w wx)) (fun u _ => 4 - (intOf u).toNat)
    case atStart => exact ⟨0, by omega, rfl, HT0.out⟩
    case round =>
     clear HT0
     obtain ⟨j, hj, rfl, HJ⟩ := hrel
     have hjj : j = 0 ∨ j = 1 ∨ j = 2 ∨ j = 3 ∨ j = 4 := by omega
     rcases hjj with rfl | rfl | rfl | rfl | rfl
     · have HT0 : Hid (Row wr (g + 1 + 1) 114 [.complex .f64 s1 s2, .complex .f64 t1 t2, .complex .f64 u1 u2, .complex .f64 v1 v2] ∧ Row wr w.heap.size 114 [.complex .f64 a1 a2, .complex .f64 b1 b2, .complex .f64 c1 c2, .complex .f64 d1 d2] ∧ Row wr (w.heap.size + 1) 114 [.complex .f64 0 0, .complex .f64 0 0, .complex .f64 0 0, .complex .f64 0 0] ∧ Row wr g 105 [.int .i64 1, .int .i64 1, .int .i64 (-1), .int .i64 (-1)] ∧ Row wr (g + 1) 105 [.int .i64 1, .int .i64 (-1), .int .i64 1, .int .i64 (-1)] ∧ Below w.heap.size w wr) := HJ.out
       clear HJ
       go_upto_region 9 with fail
       refine genT (fun V => Row V (g + 1 + 1) 114 [.complex .f64 s1 s2, .complex .f64 t1 t2, .complex .f64 u1 u2, .complex .f64 v1 v2] ∧ Row V w.heap.size 114 [.complex .f64 a1 a2, .complex .f64 b1 b2, .complex .f64 c1 c2, .complex .f64 d1 d2] ∧ Row V (w.heap.size + 1) 114 [.complex .f64 0 0, .complex .f64 0 0, .complex .f64 0 0, .complex .f64 0 0] ∧ Row V g 105 [.int .i64 1, .int .i64 1, .int .i64 (-1), .int .i64 (-1)] ∧ Row V (g + 1) 105 [.int .i64 1, .int .i64 (-1), .int .i64 1, .int .i64 (-1)] ∧ Below w.heap.size w V) HT0.out ?_
       clear HT0
       intro V0 r0
       have HT0 := Lib.hid r0
       clear r0
       refine wp_region_held_drew (S := fun V => (∃ u, Row V (g + 1 + 1) 114 [u, .complex .f64 t1 t2, .complex .f64 u1 u2, .complex .f64 v1 v2]) ∧ Row V w.heap.size 114 [.complex .f64 a1 a2, .complex .f64 b1 b2, .complex .f64 c1 c2, .complex .f64 d1 d2] ∧ Row V (w.heap.size + 1) 114 [.complex .f64 0 0, .complex .f64 0 0, .complex .f64 0 0, .complex .f64 0 0] ∧ Row V g 105 [.int .i64 1, .int .i64 1, .int .i64 (-1), .int .i64 (-1)] ∧ Row V (g + 1) 105 [.int .i64 1, .int .i64 (-1), .int .i64 1, .int .i64 (-1)] ∧ Below w.heap.size w V) (by kernel_rfl) ?_ (fun hHeld => ?_)
       · exact ⟨⟨_, HT0.out.1.drew⟩, (HT0.out.2.1).drew, (HT0.out.2.2.1).drew, (HT0.out.2.2.2.1).drew, (HT0.out.2.2.2.2.1).drew, (HT0.out.2.2.2.2.2).drew⟩
       refine ta 0 36 hHeld ?_
       try simp only [zz]
       refine ta 1 37 hHeld ?_
       try simp only [zz]
       refine ta 3 39 hHeld ?_
       try simp only [zz]
       refine ta 4 40 hHeld ?_
       try simp only [zz]
       refine tk 5 41 ?_ rfl (by kernel_rfl) (fun _ _ _ h => h) (by kernel_rfl) ?_ hHeld ?_
       rotate_left
       · intro w1 hSw; (try dsimp only at hSw); have cc := (hSw.2.1).cell t; rw [HP.out] at cc; go_simp <;> with_reducible rfl
       try simp only [zz]
       refine ta 6 42 hHeld ?_
       try simp only [zz]
       refine ta 7 43 hHeld ?_
       try simp only [zz]
       refine st3 2 8 (fun K hK => ?_) (fun K hK => ?_)
       ·
        have cc := (HT0.out.1.drew).cell 0
        simp only [List.getElem?_cons_succ, List.getElem?_cons_zero] at cc
        go_simp
        refine hK.out _ _ ?_ (fun hHeld => ?_)
        · exact hHeld
        clear hK K
        try simp only [zz]
        refine st2 8 (fun K hK => ?_)
        go_simp
        refine hK.out _ _ ?_ (fun hHeld => ?_)
        · exact hHeld
        clear hK K
        try simp only [zz]
        refine ta 9 45 hHeld ?_
        try simp only [zz]
        refine ta 10 46 hHeld ?_
        try simp only [zz]
        refine ta 11 47 hHeld ?_
        try simp only [zz]
        refine st2 12 (fun K hK => ?_)
        have cc := (HT0.out.1.drew).cell 0
        simp only [List.getElem?_cons_succ, List.getElem?_cons_zero] at cc
        have ff := (HT0.out.1.drew).free 0
        go_simp
        refine hK.out _ _ ?_ (fun hHeld => ?_)
        · exact ⟨⟨(.complex .f64 m1 m2), (HT0.out.1.drew).set 0 (.complex .f64 m1 m2)⟩, (hHeld.2.1).far (by dsimp only; omega) _, (hHeld.2.2.1).far (by dsimp only; omega) _, (hHeld.2.2.2.1).far (by dsimp only; omega) _, (hHeld.2.2.2.2.1).far (by dsimp only; omega) _, (hHeld.2.2.2.2.2).setCell (by dsimp only; omega) _⟩
        clear hK K
        try simp only [zz]
        refine wpAnyH_done (by kernel_rfl) ?_ _
        have HN := Lib.hid hHeld.2
        have HR9 := Lib.hid ((HT0.out.1.drew).set 0 (.complex .f64 m1 m2))
        clear hHeld HT0
        go_wp2_with fail
        go_roundw
        case rel => first | exact ⟨1, by omega, by go_num, HR9.out, HN.out⟩ | exact ⟨_, _, _, _, _, _, _, _, _, _, _, _, _, _, _, _, _, _, _, ⟨1, by omega, rfl, HR9.out, HN.out⟩, rfl⟩
        case measure => simp [intOf]
       ·
        go_simp
        refine hK.out _ _ ?_ (fun hHeld => ?_)
        · exact hHeld
        clear hK K
        try simp only [zz]
        refine ta 9 45 hHeld ?_
        try simp only [zz]
        refine st2 2 (fun K hK => ?_)
        have cc := (HT0.out.1.drew).cell 0
        simp only [List.getElem?_cons_succ, List.getElem?_cons_zero] at cc
        go_simp
        refine hK.out _ _ ?_ (fun hHeld => ?_)
        · exact hHeld
        clear hK K
        try simp only [zz]
        refine ta 10 46 hHeld ?_
        try simp only [zz]
        refine ta 11 47 hHeld ?_
        try simp only [zz]
        refine st2 12 (fun K hK => ?_)
        have cc := (HT0.out.1.drew).cell 0
        simp only [List.getElem?_cons_succ, List.getElem?_cons_zero] at cc
        have ff := (HT0.out.1.drew).free 0
        go_simp
        refine hK.out _ _ ?_ (fun hHeld => ?_)
        · exact ⟨⟨(.complex .f64 m1 m2), (HT0.out.1.drew).set 0 (.complex .f64 m1 m2)⟩, (hHeld.2.1).far (by dsimp only; omega) _, (hHeld.2.2.1).far (by dsimp only; omega) _, (hHeld.2.2.2.1).far (by dsimp only; omega) _, (hHeld.2.2.2.2.1).far (by dsimp only; omega) _, (hHeld.2.2.2.2.2).setCell (by dsimp only; omega) _⟩
        clear hK K
        try simp only [zz]
        refine wpAnyH_done (by kernel_rfl) ?_ _
        have HN := Lib.hid hHeld.2
        have HR9 := Lib.hid ((HT0.out.1.drew).set 0 (.complex .f64 m1 m2))
        clear hHeld HT0
        go_wp2_with fail
        go_roundw
        case rel => first | exact ⟨1, by omega, by go_num, HR9.out, HN.out⟩ | exact ⟨_, _, _, _, _, _, _, _, _, _, _, _, _, _, _, _, _, _, _, ⟨1, by omega, rfl, HR9.out, HN.out⟩, rfl⟩
        case measure => simp [intOf]
     · have HT1 : Hid (Row wr (g + 1 + 1) 114 [.complex .f64 m1 m2, .complex .f64 t1 t2, .complex .f64 u1 u2, .complex .f64 v1 v2] ∧ Row wr w.heap.size 114 [.complex .f64 a1 a2, .complex .f64 b1 b2, .complex .f64 c1 c2, .complex .f64 d1 d2] ∧ Row wr (w.heap.size + 1) 114 [.complex .f64 0 0, .complex .f64 0 0, .complex .f64 0 0, .complex .f64 0 0] ∧ Row wr g 105 [.int .i64 1, .int .i64 1, .int .i64 (-1), .int .i64 (-1)] ∧ Row wr (g + 1) 105 [.int .i64 1, .int .i64 (-1), .int .i64 1, .int .i64 (-1)] ∧ Below w.heap.size w wr) := HJ.out
       clear HJ
       go_upto_region 9 with fail
       refine genT (fun V => Row V (g + 1 + 1) 114 [.complex .f64 m1 m2, .complex .f64 t1 t2, .complex .f64 u1 u2, .complex .f64 v1 v2] ∧ Row V w.heap.size 114 [.complex .f64 a1 a2, .complex .f64 b1 b2, .complex .f64 c1 c2, .complex .f64 d1 d2] ∧ Row V (w.heap.size + 1) 114 [.complex .f64 0 0, .complex .f64 0 0, .complex .f64 0 0, .complex .f64 0 0] ∧ Row V g 105 [.int .i64 1, .int .i64 1, .int .i64 (-1), .int .i64 (-1)] ∧ Row V (g + 1) 105 [.int .i64 1, .int .i64 (-1), .int .i64 1, .int .i64 (-1)] ∧ Below w.heap.size w V) HT1.out ?_
       clear HT1
       intro V1 r1
       have HT1 := Lib.hid r1
       clear r1
       refine wp_region_held_drew (S := fun V => (∃ u, Row V (g + 1 + 1) 114 [.complex .f64 m1 m2, u, .complex .f64 u1 u2, .complex .f64 v1 v2]) ∧ Row V w.heap.size 114 [.complex .f64 a1 a2, .complex .f64 b1 b2, .complex .f64 c1 c2, .complex .f64 d1 d2] ∧ Row V (w.heap.size + 1) 114 [.complex .f64 0 0, .complex .f64 0 0, .complex .f64 0 0, .complex .f64 0 0] ∧ Row V g 105 [.int .i64 1, .int .i64 1, .int .i64 (-1), .int .i64 (-1)] ∧ Row V (g + 1) 105 [.int .i64 1, .int .i64 (-1), .int .i64 1, .int .i64 (-1)] ∧ Below w.heap.size w V) (by kernel_rfl) ?_ (fun hHeld => ?_)
       · exact ⟨⟨_, HT1.out.1.drew⟩, (HT1.out.2.1).drew, (HT1.out.2.2.1).drew, (HT1.out.2.2.2.1).drew, (HT1.out.2.2.2.2.1).drew, (HT1.out.2.2.2.2.2).drew⟩
       refine ta 0 36 hHeld ?_
       try simp only [zz]
       refine ta 1 37 hHeld ?_
       try simp only [zz]
       refine ta 3 39 hHeld ?_
       try simp only [zz]
       refine ta 4 40 hHeld ?_
       try simp only [zz]
       refine tk 5 41 ?_ rfl (by kernel_rfl) (fun _ _ _ h => h) (by kernel_rfl) ?_ hHeld ?_
       rotate_left
       · intro w1 hSw; (try dsimp only at hSw); have cc := (hSw.2.1).cell t; rw [HP.out] at cc; go_simp <;> with_reducible rfl
       try simp only [zz]
       refine ta 6 42 hHeld ?_
       try simp only [zz]
       refine ta 7 43 hHeld ?_
       try simp only [zz]
       refine st3 2 8 (fun K hK => ?_) (fun K hK => ?_)
       ·
        have cc := (HT1.out.1.drew).cell 1
        simp only [List.getElem?_cons_succ, List.getElem?_cons_zero] at cc
        go_simp
        refine hK.out _ _ ?_ (fun hHeld => ?_)
        · exact hHeld
        clear hK K
        try simp only [zz]
        refine st2 8 (fun K hK => ?_)
        go_simp
        refine hK.out _ _ ?_ (fun hHeld => ?_)
        · exact hHeld
        clear hK K
        try simp only [zz]
        refine ta 9 45 hHeld ?_
        try simp only [zz]
        refine ta 10 46 hHeld ?_
        try simp only [zz]
        refine ta 11 47 hHeld ?_
        try simp only [zz]
        refine st2 12 (fun K hK => ?_)
        have cc := (HT1.out.1.drew).cell 1
        simp only [List.getElem?_cons_succ, List.getElem?_cons_zero] at cc
        have ff := (HT1.out.1.drew).free 1
        go_simp
        refine hK.out _ _ ?_ (fun hHeld => ?_)
        · exact ⟨⟨(.complex .f64 n1 n2), (HT1.out.1.drew).set 1 (.complex .f64 n1 n2)⟩, (hHeld.2.1).far (by dsimp only; omega) _, (hHeld.2.2.1).far (by dsimp only; omega) _, (hHeld.2.2.2.1).far (by dsimp only; omega) _, (hHeld.2.2.2.2.1).far (by dsimp only; omega) _, (hHeld.2.2.2.2.2).setCell (by dsimp only; omega) _⟩
        clear hK K
        try simp only [zz]
        refine wpAnyH_done (by kernel_rfl) ?_ _
        have HN := Lib.hid hHeld.2
        have HR9 := Lib.hid ((HT1.out.1.drew).set 1 (.complex .f64 n1 n2))
        clear hHeld HT1
        go_wp2_with fail
        go_roundw
        case rel => first | exact ⟨2, by omega, by go_num, HR9.out, HN.out⟩ | exact ⟨_, _, _, _, _, _, _, _, _, _, _, _, _, _, _, _, _, _, _, ⟨2, by omega, rfl, HR9.out, HN.out⟩, rfl⟩
        case measure => simp [intOf]
       ·
        go_simp
        refine hK.out _ _ ?_ (fun hHeld => ?_)
        · exact hHeld
        clear hK K
        try simp only [zz]
        refine ta 9 45 hHeld ?_
        try simp only [zz]
        refine st2 2 (fun K hK => ?_)
        have cc := (HT1.out.1.drew).cell 1
        simp only [List.getElem?_cons_succ, List.getElem?_cons_zero] at cc
        go_simp
        refine hK.out _ _ ?_ (fun hHeld => ?_)
        · exact hHeld
        clear hK K
        try simp only [zz]
        refine ta 10 46 hHeld ?_
        try simp only [zz]
        refine ta 11 47 hHeld ?_
        try simp only [zz]
        refine st2 12 (fun K hK => ?_)
        have cc := (HT1.out.1.drew).cell 1
        simp only [List.getElem?_cons_succ, List.getElem?_cons_zero] at cc
        have ff := (HT1.out.1.drew).free 1
        go_simp
        refine hK.out _ _ ?_ (fun hHeld => ?_)
        · exact ⟨⟨(.complex .f64 n1 n2), (HT1.out.1.drew).set 1 (.complex .f64 n1 n2)⟩, (hHeld.2.1).far (by dsimp only; omega) _, (hHeld.2.2.1).far (by dsimp only; omega) _, (hHeld.2.2.2.1).far (by dsimp only; omega) _, (hHeld.2.2.2.2.1).far (by dsimp only; omega) _, (hHeld.2.2.2.2.2).setCell (by dsimp only; omega) _⟩
        clear hK K
        try simp only [zz]
        refine wpAnyH_done (by kernel_rfl) ?_ _
        have HN := Lib.hid hHeld.2
        have HR9 := Lib.hid ((HT1.out.1.drew).set 1 (.complex .f64 n1 n2))
        clear hHeld HT1
        go_wp2_with fail
        go_roundw
        case rel => first | exact ⟨2, by omega, by go_num, HR9.out, HN.out⟩ | exact ⟨_, _, _, _, _, _, _, _, _, _, _, _, _, _, _, _, _, _, _, ⟨2, by omega, rfl, HR9.out, HN.out⟩, rfl⟩
        case measure => simp [intOf]
     · have HT2 : Hid (Row wr (g + 1 + 1) 114 [.complex .f64 m1 m2, .complex .f64 n1 n2, .complex .f64 u1 u2, .complex .f64 v1 v2] ∧ Row wr w.heap.size 114 [.complex .f64 a1 a2, .complex .f64 b1 b2, .complex .f64 c1 c2, .complex .f64 d1 d2] ∧ Row wr (w.heap.size + 1) 114 [.complex .f64 0 0, .complex .f64 0 0, .complex .f64 0 0, .complex .f64 0 0] ∧ Row wr g 105 [.int .i64 1, .int .i64 1, .int .i64 (-1), .int .i64 (-1)] ∧ Row wr (g + 1) 105 [.int .i64 1, .int .i64 (-1), .int .i64 1, .int .i64 (-1)] ∧ Below w.heap.size w wr) := HJ.out
       clear HJ
       go_upto_region 9 with fail
       refine genT (fun V => Row V (g + 1 + 1) 114 [.complex .f64 m1 m2, .complex .f64 n1 n2, .complex .f64 u1 u2, .complex .f64 v1 v2] ∧ Row V w.heap.size 114 [.complex .f64 a1 a2, .complex .f64 b1 b2, .complex .f64 c1 c2, .complex .f64 d1 d2] ∧ Row V (w.heap.size + 1) 114 [.complex .f64 0 0, .complex .f64 0 0, .complex .f64 0 0, .complex .f64 0 0] ∧ Row V g 105 [.int .i64 1, .int .i64 1, .int .i64 (-1), .int .i64 (-1)] ∧ Row V (g + 1) 105 [.int .i64 1, .int .i64 (-1), .int .i64 1, .int .i64 (-1)] ∧ Below w.heap.size w V) HT2.out ?_
       clear HT2
       intro V2 r2
       have HT2 := Lib.hid r2
       clear r2
       refine wp_region_held_drew (S := fun V => (∃ u, Row V (g + 1 + 1) 114 [.complex .f64 m1 m2, .complex .f64 n1 n2, u, .complex .f64 v1 v2]) ∧ Row V w.heap.size 114 [.complex .f64 a1 a2, .complex .f64 b1 b2, .complex .f64 c1 c2, .complex .f64 d1 d2] ∧ Row V (w.heap.size + 1) 114 [.complex .f64 0 0, .complex .f64 0 0, .complex .f64 0 0, .complex .f64 0 0] ∧ Row V g 105 [.int .i64 1, .int .i64 1, .int .i64 (-1), .int .i64 (-1)] ∧ Row V (g + 1) 105 [.int .i64 1, .int .i64 (-1), .int .i64 1, .int .i64 (-1)] ∧ Below w.heap.size w V) (by kernel_rfl) ?_ (fun hHeld => ?_)
       · exact ⟨⟨_, HT2.out.1.drew⟩, (HT2.out.2.1).drew, (HT2.out.2.2.1).drew, (HT2.out.2.2.2.1).drew, (HT2.out.2.2.2.2.1).drew, (HT2.out.2.2.2.2.2).drew⟩
       refine ta 0 36 hHeld ?_
       try simp only [zz]
       refine ta 1 37 hHeld ?_
       try simp only [zz]
       refine ta 3 39 hHeld ?_
       try simp only [zz]
       refine ta 4 40 hHeld ?_
       try simp only [zz]
       refine tk 5 41 ?_ rfl (by kernel_rfl) (fun _ _ _ h => h) (by kernel_rfl) ?_ hHeld ?_
       rotate_left
       · intro w1 hSw; (try dsimp only at hSw); have cc := (hSw.2.1).cell t; rw [HP.out] at cc; go_simp <;> with_reducible rfl
       try simp only [zz]
       refine ta 6 42 hHeld ?_
       try simp only [zz]
       refine ta 7 43 hHeld ?_
       try simp only [zz]
       refine st3 2 8 (fun K hK => ?_) (fun K hK => ?_)
       ·
        have cc := (HT2.out.1.drew).cell 2
        simp only [List.getElem?_cons_succ, List.getElem?_cons_zero] at cc
        go_simp
        refine hK.out _ _ ?_ (fun hHeld => ?_)
        · exact hHeld
        clear hK K
        try simp only [zz]
        refine st2 8 (fun K hK => ?_)
        go_simp
        refine hK.out _ _ ?_ (fun hHeld => ?_)
        · exact hHeld
        clear hK K
        try simp only [zz]
        refine ta 9 45 hHeld ?_
        try simp only [zz]
        refine ta 10 46 hHeld ?_
        try simp only [zz]
        refine ta 11 47 hHeld ?_
        try simp only [zz]
        refine st2 12 (fun K hK => ?_)
        have cc := (HT2.out.1.drew).cell 2
        simp only [List.getElem?_cons_succ, List.getElem?_cons_zero] at cc
        have ff := (HT2.out.1.drew).free 2
        go_simp
        refine hK.out _ _ ?_ (fun hHeld => ?_)
        · exact ⟨⟨(.complex .f64 o1 o2), (HT2.out.1.drew).set 2 (.complex .f64 o1 o2)⟩, (hHeld.2.1).far (by dsimp only; omega) _, (hHeld.2.2.1).far (by dsimp only; omega) _, (hHeld.2.2.2.1).far (by dsimp only; omega) _, (hHeld.2.2.2.2.1).far (by dsimp only; omega) _, (hHeld.2.2.2.2.2).setCell (by dsimp only; omega) _⟩
        clear hK K
        try simp only [zz]
        refine wpAnyH_done (by kernel_rfl) ?_ _
        have HN := Lib.hid hHeld.2
        have HR9 := Lib.hid ((HT2.out.1.drew).set 2 (.complex .f64 o1 o2))
        clear hHeld HT2
        go_wp2_with fail
        go_roundw
        case rel => first | exact ⟨3, by omega, by go_num, HR9.out, HN.out⟩ | exact ⟨_, _, _, _, _, _, _, _, _, _, _, _, _, _, _, _, _, _, _, ⟨3, by omega, rfl, HR9.out, HN.out⟩, rfl⟩
        case measure => simp [intOf]
       ·
        go_simp
        refine hK.out _ _ ?_ (fun hHeld => ?_)
        · exact hHeld
        clear hK K
        try simp only [zz]
        refine ta 9 45 hHeld ?_
        try simp only [zz]
        refine st2 2 (fun K hK => ?_)
        have cc := (HT2.out.1.drew).cell 2
        simp only [List.getElem?_cons_succ, List.getElem?_cons_zero] at cc
        go_simp
        refine hK.out _ _ ?_ (fun hHeld => ?_)
        · exact hHeld
        clear hK K
        try simp only [zz]
        refine ta 10 46 hHeld ?_
        try simp only [zz]
        refine ta 11 47 hHeld ?_
        try simp only [zz]
        refine st2 12 (fun K hK => ?_)
        have cc := (HT2.out.1.drew).cell 2
        simp only [List.getElem?_cons_succ, List.getElem?_cons_zero] at cc
        have ff := (HT2.out.1.drew).free 2
        go_simp
        refine hK.out _ _ ?_ (fun hHeld => ?_)
        · exact ⟨⟨(.complex .f64 o1 o2), (HT2.out.1.drew).set 2 (.complex .f64 o1 o2)⟩, (hHeld.2.1).far (by dsimp only; omega) _, (hHeld.2.2.1).far (by dsimp only; omega) _, (hHeld.2.2.2.1).far (by dsimp only; omega) _, (hHeld.2.2.2.2.1).far (by dsimp only; omega) _, (hHeld.2.2.2.2.2).setCell (by dsimp only; omega) _⟩
        clear hK K
        try simp only [zz]
        refine wpAnyH_done (by kernel_rfl) ?_ _
        have HN := Lib.hid hHeld.2
        have HR9 := Lib.hid ((HT2.out.1.drew).set 2 (.complex .f64 o1 o2))
        clear hHeld HT2
        go_wp2_with fail
        go_roundw
        case rel => first | exact ⟨3, by omega, by go_num, HR9.out, HN.out⟩ | exact ⟨_, _, _, _, _, _, _, _, _, _, _, _, _, _, _, _, _, _, _, ⟨3, by omega, rfl, HR9.out, HN.out⟩, rfl⟩
        case measure => simp [intOf]
     · have HT3 : Hid (Row wr (g + 1 + 1) 114 [.complex .f64 m1 m2, .complex .f64 n1 n2, .complex .f64 o1 o2, .complex .f64 v1 v2] ∧ Row wr w.heap.size 114 [.complex .f64 a1 a2, .complex .f64 b1 b2, .complex .f64 c1 c2, .complex .f64 d1 d2] ∧ Row wr (w.heap.size + 1) 114 [.complex .f64 0 0, .complex .f64 0 0, .complex .f64 0 0, .complex .f64 0 0] ∧ Row wr g 105 [.int .i64 1, .int .i64 1, .int .i64 (-1), .int .i64 (-1)] ∧ Row wr (g + 1) 105 [.int .i64 1, .int .i64 (-1), .int .i64 1, .int .i64 (-1)] ∧ Below w.heap.size w wr) := HJ.out
       clear HJ
       go_upto_region 9 with fail
       refine genT (fun V => Row V (g + 1 + 1) 114 [.complex .f64 m1 m2, .complex .f64 n1 n2, .complex .f64 o1 o2, .complex .f64 v1 v2] ∧ Row V w.heap.size 114 [.complex .f64 a1 a2, .complex .f64 b1 b2, .complex .f64 c1 c2, .complex .f64 d1 d2] ∧ Row V (w.heap.size + 1) 114 [.complex .f64 0 0, .complex .f64 0 0, .complex .f64 0 0, .complex .f64 0 0] ∧ Row V g 105 [.int .i64 1, .int .i64 1, .int .i64 (-1), .int .i64 (-1)] ∧ Row V (g + 1) 105 [.int .i64 1, .int .i64 (-1), .int .i64 1, .int .i64 (-1)] ∧ Below w.heap.size w V) HT3.out ?_
       clear HT3
       intro V3 r3
       have HT3 := Lib.hid r3
       clear r3
       refine wp_region_held_drew (S := fun V => (∃ u, Row V (g + 1 + 1) 114 [.complex .f64 m1 m2, .complex .f64 n1 n2, .complex .f64 o1 o2, u]) ∧ Row V w.heap.size 114 [.complex .f64 a1 a2, .complex .f64 b1 b2, .complex .f64 c1 c2, .complex .f64 d1 d2] ∧ Row V (w.heap.size + 1) 114 [.complex .f64 0 0, .complex .f64 0 0, .complex .f64 0 0, .complex .f64 0 0] ∧ Row V g 105 [.int .i64 1, .int .i64 1, .int .i64 (-1), .int .i64 (-1)] ∧ Row V (g + 1) 105 [.int .i64 1, .int .i64 (-1), .int .i64 1, .int .i64 (-1)] ∧ Below w.heap.size w V) (by kernel_rfl) ?_ (fun hHeld => ?_)
       · exact ⟨⟨_, HT3.out.1.drew⟩, (HT3.out.2.1).drew, (HT3.out.2.2.1).drew, (HT3.out.2.2.2.1).drew, (HT3.out.2.2.2.2.1).drew, (HT3.out.2.2.2.2.2).drew⟩
       refine ta 0 36 hHeld ?_
       try simp only [zz]
       refine ta 1 37 hHeld ?_
       try simp only [zz]
       refine ta 3 39 hHeld ?_
       try simp only [zz]
       refine ta 4 40 hHeld ?_
       try simp only [zz]
       refine tk 5 41 ?_ rfl (by kernel_rfl) (fun _ _ _ h => h) (by kernel_rfl) ?_ hHeld ?_
       rotate_left
       · intro w1 hSw; (try dsimp only at hSw); have cc := (hSw.2.1).cell t; rw [HP.out] at cc; go_simp <;> with_reducible rfl
       try simp only [zz]
       refine ta 6 42 hHeld ?_
       try simp only [zz]
       refine ta 7 43 hHeld ?_
       try simp only [zz]
       refine st3 2 8 (fun K hK => ?_) (fun K hK => ?_)
       ·
        have cc := (HT3.out.1.drew).cell 3
        simp only [List.getElem?_cons_succ, List.getElem?_cons_zero] at cc
        go_simp
        refine hK.out _ _ ?_ (fun hHeld => ?_)
        · exact hHeld
        clear hK K
        try simp only [zz]
        refine st2 8 (fun K hK => ?_)
        go_simp
        refine hK.out _ _ ?_ (fun hHeld => ?_)
        · exact hHeld
        clear hK K
        try simp only [zz]
        refine ta 9 45 hHeld ?_
        try simp only [zz]
        refine ta 10 46 hHeld ?_
        try simp only [zz]
        refine ta 11 47 hHeld ?_
        try simp only [zz]
        refine st2 12 (fun K hK => ?_)
        have cc := (HT3.out.1.drew).cell 3
        simp only [List.getElem?_cons_succ, List.getElem?_cons_zero] at cc
        have ff := (HT3.out.1.drew).free 3
        go_simp
        refine hK.out _ _ ?_ (fun hHeld => ?_)
        · exact ⟨⟨(.complex .f64 p1 p2), (HT3.out.1.drew).set 3 (.complex .f64 p1 p2)⟩, (hHeld.2.1).far (by dsimp only; omega) _, (hHeld.2.2.1).far (by dsimp only; omega) _, (hHeld.2.2.2.1).far (by dsimp only; omega) _, (hHeld.2.2.2.2.1).far (by dsimp only; omega) _, (hHeld.2.2.2.2.2).setCell (by dsimp only; omega) _⟩
        clear hK K
        try simp only [zz]
        refine wpAnyH_done (by kernel_rfl) ?_ _
        have HN := Lib.hid hHeld.2
        have HR9 := Lib.hid ((HT3.out.1.drew).set 3 (.complex .f64 p1 p2))
        clear hHeld HT3
        go_wp2_with fail
        go_roundw
        case rel => first | exact ⟨4, by omega, by go_num, HR9.out, HN.out⟩ | exact ⟨_, _, _, _, _, _, _, _, _, _, _, _, _, _, _, _, _, _, _, ⟨4, by omega, rfl, HR9.out, HN.out⟩, rfl⟩
        case measure => simp [intOf]
       ·
        go_simp
        refine hK.out _ _ ?_ (fun hHeld => ?_)
        · exact hHeld
        clear hK K
        try simp only [zz]
        refine ta 9 45 hHeld ?_
        try simp only [zz]
        refine st2 2 (fun K hK => ?_)
        have cc := (HT3.out.1.drew).cell 3
        simp only [List.getElem?_cons_succ, List.getElem?_cons_zero] at cc
        go_simp
        refine hK.out _ _ ?_ (fun hHeld => ?_)
        · exact hHeld
        clear hK K
        try simp only [zz]
        refine ta 10 46 hHeld ?_
        try simp only [zz]
        refine ta 11 47 hHeld ?_
        try simp only [zz]
        refine st2 12 (fun K hK => ?_)
        have cc := (HT3.out.1.drew).cell 3
        simp only [List.getElem?_cons_succ, List.getElem?_cons_zero] at cc
        have ff := (HT3.out.1.drew).free 3
        go_simp
        refine hK.out _ _ ?_ (fun hHeld => ?_)
        · exact ⟨⟨(.complex .f64 p1 p2), (HT3.out.1.drew).set 3 (.complex .f64 p1 p2)⟩, (hHeld.2.1).far (by dsimp only; omega) _, (hHeld.2.2.1).far (by dsimp only; omega) _, (hHeld.2.2.2.1).far (by dsimp only; omega) _, (hHeld.2.2.2.2.1).far (by dsimp only; omega) _, (hHeld.2.2.2.2.2).setCell (by dsimp only; omega) _⟩
        clear hK K
        try simp only [zz]
        refine wpAnyH_done (by kernel_rfl) ?_ _
        have HN := Lib.hid hHeld.2
        have HR9 := Lib.hid ((HT3.out.1.drew).set 3 (.complex .f64 p1 p2))
        clear hHeld HT3
        go_wp2_with fail
        go_roundw
        case rel => first | exact ⟨4, by omega, by go_num, HR9.out, HN.out⟩ | exact ⟨_, _, _, _, _, _, _, _, _, _, _, _, _, _, _, _, _, _, _, ⟨4, by omega, rfl, HR9.out, HN.out⟩, rfl⟩
        case measure => simp [intOf]
     · have HT4 : Hid (Row wr (g + 1 + 1) 114 [.complex .f64 m1 m2, .complex .f64 n1 n2, .complex .f64 o1 o2, .complex .f64 p1 p2] ∧ Row wr w.heap.size 114 [.complex .f64 a1 a2, .complex .f64 b1 b2, .complex .f64 c1 c2, .complex .f64 d1 d2] ∧ Row wr (w.heap.size + 1) 114 [.complex .f64 0 0, .complex .f64 0 0, .complex .f64 0 0, .complex .f64 0 0] ∧ Row wr g 105 [.int .i64 1, .int .i64 1, .int .i64 (-1), .int .i64 (-1)] ∧ Row wr (g + 1) 105 [.int .i64 1, .int .i64 (-1), .int .i64 1, .int .i64 (-1)] ∧ Below w.heap.size w wr) := HJ.out
       clear HJ
       go_wp2_with fail
       go_roundw
       case rel => exact ⟨t + 1, by omega, by go_num, by rw [← HQT.out]; exact HT4.out⟩
       case measure => simp [intOf]; omega
  · obtain rfl : t = 4 := by omega
    obtain ⟨⟨⟨m1, m2⟩, ⟨n1, n2⟩, ⟨o1, o2⟩, ⟨p1, p2⟩⟩, hs⟩ : ∃ p, p = Q 4 := ⟨_, rfl⟩
    rw [← hs] at HR
    have HSX := Lib.hid hs
    clear hs
    have HR5 : Hid (Row wr (g + 1 + 1) 114 [.complex .f64 m1 m2, .complex .f64 n1 n2, .complex .f64 o1 o2, .complex .f64 p1 p2]) := HR.out.1
    have hr0 := HR.out.2.2.1
    have hbw := HR.out.2.2.2.2.2
    go_wp2_with (first
     | (refine wpList_store_row rfl 114 _ _ rfl (w.heap.size + 1) #[.complex .f64 m1 m2, .complex .f64 n1 n2, .complex .f64 o1 o2, .complex .f64 p1 p2] rfl rfl 114 _ hr0 ?_ ?_ ?_ ?_; (kernel_rfl); (rfl); (simp [Value.oneCell']))
     | (refine wpList_load_row rfl 114 _ rfl (g + 1 + 1) rfl 114 #[.complex .f64 m1 m2, .complex .f64 n1 n2, .complex .f64 o1 o2, .complex .f64 p1 p2] (0, 0) _ HR5.out Tryz.underlying114 rfl ?_ ?_; (kernel_rfl)))
    refine bodyPost_ret (results_rowA rfl _ _ (w.heap.size + 1) 114 #[.complex .f64 m1 m2, .complex .f64 n1 n2, .complex .f64 o1 o2, .complex .f64 p1 p2] (0, 0) _ rfl (hr0.setRow [.complex .f64 m1 m2, .complex .f64 n1 n2, .complex .f64 o1 o2, .complex .f64 p1 p2]) Tryz.underlying114 rfl (by kernel_rfl)) rfl ⟨by rw [← HSX.out]; rfl, Below.setRow hbw (by omega) _⟩
end Go.Proofs.YtaknlhepgeiekaaGreatDoor
