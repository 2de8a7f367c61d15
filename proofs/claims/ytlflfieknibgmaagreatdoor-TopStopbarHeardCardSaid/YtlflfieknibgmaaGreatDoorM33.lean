import Derived.Test.YtlflfieknibgmaaGreatDoorM32
namespace Go.Proofs.YtlflfieknibgmaaGreatDoor
set_option linter.all false
open Go.RowKit Go.Fl
theorem eZero : E 0 0 := by
  have h := E.near (n := 0) (by decide)
  have e : FloatKind.f64.nearest 0 = 0 := by decide +kernel
  rw [e] at h; exact h
theorem e40 : E 4675730371722084352 40000 := by
  have h := E.near (n := 40000) (by decide)
  have e : FloatKind.f64.nearest 40000 = 4675730371722084352 := by decide +kernel
  rw [e] at h; exact h
theorem E.absE {x : Nat} {n : Int} (h : E x n) : E (x % 9223372036854775808) (n.natAbs : Int) := by
  have h1 := abs_val h
  rw [natAbs_mul_pow] at h1
  show Val _ _ _
  have e : ((n.natAbs * 2 ^ u64 : Nat) : Int) = (n.natAbs : Int) * ((2 ^ u64 : Nat) : Int) := Int.natCast_mul _ _
  rw [e] at h1
  exact h1
set_option maxRecDepth 100000 in
set_option maxHeartbeats 1000000 in
theorem checkPartE (y : Nat) (n : Int) (w : World) (h : I32 y n) (hn : n.natAbs ≤ 40000) : Calls Tryz.prog 111 #[.float .f32 y] w fun e w' => e = .returned (.int .i64 0) ∧ Below w.heap.size w w' := by
  obtain ⟨x, h1, h2, h3⟩ := h.wide
  obtain ⟨z, t1, t2, t3⟩ := E.tr h2 (by omega)
  have hc := fun w => conv_fin h1 w
  have HX : Hid (x < 18446744073709551616) := Lib.hid h3
  have HT := Lib.hid t1
  have he : (FloatKind.f64.format.order x z == some .eq) = true := (E.eq h2 t2).trans (by simp)
  have hi : (Ieee.double.order (x % 9223372036854775808) 9218868437227405311 == some .gt) = false := not_inf (V := 16 * n * (2 ^ 145 : Nat)) (by rw [u64_eq]; exact h2) ⟨16 * n, 145, rfl, by omega, by decide⟩
  have hm : (FloatKind.f64.format.order (x % 9223372036854775808) 4675730371722084352 == some .gt) = false := (E.gt (E.absE h2) e40).trans (by simp; omega)
  have he2 : (FloatKind.f64.format.order x z != some .eq) = false := by have := he; simp only [beq_iff_eq] at this; simp [bne, this]
  have hf : firstI [whenI false 1, whenI false 3] = 0 := rfl
  clear h h1 h2 h3 t1 t2 t3 hn
  go_enter Tryz.func111, Tryz.ntmps111
  go_wp2_with (first | (go_at_call 139; refine (truncM_by x z _ HT.out).mono ?_; rintro e w' ⟨rfl, rfl⟩) | (go_at_call 140; refine (isInf_any x _ HX.out).mono ?_; rintro e w' ⟨rfl, rfl⟩) | (go_at_call 141; refine (abs_any x _ HX.out).mono ?_; rintro e w' ⟨rfl, rfl⟩) | (go_at_call 45; refine (failed_any _ _ _).mono ?_; rintro e w' ⟨rfl, rfl⟩) | (go_at_call 32; refine (firstV_any _ _ _ [whenI false 1, whenI false 3] _ ?_ rfl (by simp)).mono ?_; exact Rd.newT (t := 31); rintro e w' ⟨rfl, rfl⟩))
  go_ret
  exact ⟨by simp [hf], (Below.refl _ _).alloc (Nat.le_refl _) _⟩
def CI (p : Nat × Nat) (u v : Int) : Prop := I32 p.1 u ∧ I32 p.2 v ∧ u.natAbs ≤ 40000 ∧ v.natAbs ≤ 40000
set_option maxRecDepth 100000 in
set_option maxHeartbeats 1000000 in
theorem panel1E (p : Nat × Nat) (w : World) (h : ∃ u v, CI p u v) : Calls Tryz.prog 110 #[.complex .f32 p.1 p.2] w fun e w' => e = .returned (.int .i64 0) ∧ Below w.heap.size w w' := by
  obtain ⟨x, y⟩ := p
  obtain ⟨u, v, hx, hy, b1, b2⟩ := h
  have H1 : Hid (∀ W, Calls Tryz.prog 111 #[.float .f32 x] W fun e w' => e = .returned (.int .i64 0) ∧ Below W.heap.size W w') := fun W => checkPartE x u W hx b1
  have H2 : Hid (∀ W, Calls Tryz.prog 111 #[.float .f32 y] W fun e w' => e = .returned (.int .i64 0) ∧ Below W.heap.size W w') := fun W => checkPartE y v W hy b2
  clear hx hy
  dsimp only
  go_enter Tryz.func110, Tryz.ntmps110
  go_wp2_with fail
  refine (H1.out _).mono ?_
  rintro e w1 ⟨rfl, hb1⟩
  go_wp2_with fail
  refine (H2.out _).mono ?_
  rintro e w2 ⟨rfl, hb2⟩
  go_wp2_with fail
  refine (firstV_any _ _ _ [0, 0] _ ?_ rfl (by simp)).mono ?_
  · exact Rd.newT (t := 31)
  rintro e w3 ⟨rfl, rfl⟩
  go_wp2
  go_ret
  exact ⟨rfl, (hb1.trans (hb2.mono hb1.size)).alloc (Nat.le_trans hb1.size hb2.size) _⟩
set_option maxRecDepth 100000 in
set_option maxHeartbeats 1000000 in
theorem checkPanelE (p0 p1 p2 p3 : Nat × Nat) (w : World) (h0 : ∃ u v, CI p0 u v) (h1 : ∃ u v, CI p1 u v) (h2 : ∃ u v, CI p2 u v) (h3 : ∃ u v, CI p3 u v) : Calls Tryz.prog 50 #[.agg #[.complex .f32 p0.1 p0.2, .complex .f32 p1.1 p1.2, .complex .f32 p2.1 p2.2, .complex .f32 p3.1 p3.2]] w fun e w' => e = .returned (.int .i64 0) ∧ Below w.heap.size w w' := by
  have HB : Hid (Below w.heap.size w (w.alloc (.cells #[.complex .f32 p0.1 p0.2, .complex .f32 p1.1 p1.2, .complex .f32 p2.1 p2.2, .complex .f32 p3.1 p3.2] 45))) := (Below.refl _ _).alloc (Nat.le_refl _) _
  have hall : ∀ p ∈ [p0, p1, p2, p3], ∃ u v, CI p u v := by
    intro p hp
    simp only [List.mem_cons, List.not_mem_nil, or_false] at hp
    rcases hp with rfl | rfl | rfl | rfl <;> assumption
  have hrd : Rd (w.alloc (.cells #[.complex .f32 p0.1 p0.2, .complex .f32 p1.1 p1.2, .complex .f32 p2.1 p2.2, .complex .f32 p3.1 p3.2] 45)) (some ⟨w.heap.size, 0, none⟩) (cxV [p0, p1, p2, p3]) := Rd.row (Row.new w 45 (cxV [p0, p1, p2, p3]))
  have HM := Lib.hid (mappedC_any (some ⟨w.heap.size, 0, none⟩) 4 [p0, p1, p2, p3] (fun _ => 0) 110 #[] (w.alloc (.cells #[.complex .f32 p0.1 p0.2, .complex .f32 p1.1 p1.2, .complex .f32 p2.1 p2.2, .complex .f32 p3.1 p3.2] 45)) hrd (by simp) (fun k hk W _ => by
    rw [Array.append_empty]
    refine panel1E _ W ?_
    exact hall _ (List.getElem_mem hk)) (enters_of Tryz.func110 (by kernel_rfl) rfl))
  have HM2 : Hid (Calls Tryz.prog 109 #[.slice (some ⟨w.heap.size, 0, none⟩) 4 4, .func (.func 110) #[] #[]] (w.alloc (.cells #[.complex .f32 p0.1 p0.2, .complex .f32 p1.1 p1.2, .complex .f32 p2.1 p2.2, .complex .f32 p3.1 p3.2] 45)) fun e w' => ∃ g, e = .returned (.slice (some ⟨g, 0, none⟩) 4 4) ∧ Row w' g 31 (ints [0, 0, 0, 0]) ∧ Below w.heap.size w w') := HM.out.mono (fun e w' ⟨k1, k2, k3⟩ => ⟨_, k1, k2, HB.out.trans (k3.mono HB.out.size)⟩)
  clear h0 h1 h2 h3 hall hrd HM HB
  go_enter Tryz.func50, Tryz.ntmps50
  go_wp2_with fail
  refine HM2.out.mono ?_
  rintro e w1 ⟨g, rfl, hr1, hb1⟩
  have HB1 := Lib.hid hb1
  have HR1 := Lib.hid hr1
  clear hb1 hr1
  go_wp2_with fail
  refine (firstV_any _ _ _ [0, 0, 0, 0] _ (Rd.row HR1.out) rfl (by simp)).mono ?_
  rintro e w3 ⟨rfl, rfl⟩
  go_wp2
  go_ret
  exact ⟨rfl, HB1.out⟩
theorem madE {x y : Nat} {u v f : Int} {s : Nat × Nat} {a b : Int} (h : CE x y u v) (hf : f = 1 ∨ f = -1) (k : CE s.1 s.2 a b) (hu : u.natAbs < 1000000000) (hv : v.natAbs < 1000000000) (ha : a.natAbs < 1000000000) (hb : b.natAbs < 1000000000) : ∃ t : Nat × Nat, Mad x y f s t ∧ CE t.1 t.2 (a + u * f) (b + v * f) := by
  have hc : CE (floatOfInt .f64 f) 0 f 0 := ⟨E.near (by rcases hf with rfl | rfl <;> decide), eZero, near_lt f, by decide⟩
  have b1 : (u * f).natAbs < 1000000000 := by rcases hf with rfl | rfl <;> omega
  have b2 : (v * f).natAbs < 1000000000 := by rcases hf with rfl | rfl <;> omega
  obtain ⟨k1, l1, c1, r1⟩ := CE.mul (P := Tryz.prog) h hc 118 (by omega) (by simp) (by simp) (by omega)
  rw [show u * f - v * 0 = u * f by omega, show u * 0 + v * f = v * f by omega] at c1
  obtain ⟨t1, t2, c2, r2⟩ := CE.add (P := Tryz.prog) k c1 118 (by omega) (by omega)
  exact ⟨(t1, t2), ⟨k1, l1, r1, r2⟩, c2⟩
theorem ovrE {n : Int} (hn : n = 3 ∨ n = 4) {x : Nat × Nat} {u v : Int} (h : CE x.1 x.2 (u * n) (v * n)) (hu : u.natAbs < 1000000000) (hv : v.natAbs < 1000000000) : ∃ z m : Nat × Nat, Ovr n x z m ∧ CE z.1 z.2 u v ∧ CE m.1 m.2 (u * n) (v * n) := by
  have hd : ∀ {x : Nat} {u : Int}, E x (u * n) → u.natAbs < 1000000000 → ∃ q, (∀ w, (binOp .quo 126 (.float .f64 x) (.float .f64 (floatOfInt .f64 n))).run Tryz.prog w = .ok (.float .f64 q) w) ∧ E q u := by
    intro x u he hb
    rcases hn with rfl | rfl
    · obtain ⟨r, h1, h2, _⟩ := E.third he (by omega)
      exact ⟨r, fun w => run_float_arith w .quo _ .f64 _ _ _ h1, h2⟩
    · obtain ⟨r, h1, h2, _⟩ := E.fourth he (by omega)
      exact ⟨r, fun w => run_float_arith w .quo _ .f64 _ _ _ h1, h2⟩
  obtain ⟨q, q1, q2⟩ := hd h.1 hu
  obtain ⟨r, r1, r2⟩ := hd h.2.1 hv
  obtain ⟨z1, t1, e1, l1⟩ := E.tr q2 (by omega)
  obtain ⟨z2, t2, e2, l2⟩ := E.tr r2 (by omega)
  have hz : CE z1 z2 u v := ⟨e1, e2, l1, l2⟩
  have hc : CE (floatOfInt .f64 n) 0 n 0 := ⟨E.near (by rcases hn with rfl | rfl <;> decide), eZero, near_lt n, by decide⟩
  have b1 : (u * n).natAbs < 4000000000 := by rcases hn with rfl | rfl <;> omega
  have b2 : (v * n).natAbs < 4000000000 := by rcases hn with rfl | rfl <;> omega
  obtain ⟨m1, m2, c1, rr⟩ := CE.mul (P := Tryz.prog) hz hc 118 (by omega) (by simp) (by simp) (by omega)
  rw [show u * n - v * 0 = u * n by omega, show u * 0 + v * n = v * n by omega] at c1
  exact ⟨(z1, z2), (m1, m2), ⟨q, r, q1, r1, t1, t2, rr⟩, hz, c1⟩
structure PE (p : P4) (a b c d e f g h : Int) : Prop where
  a : CE p.a.1 p.a.2 a b
  b : CE p.b.1 p.b.2 c d
  c : CE p.c.1 p.c.2 e f
  d : CE p.d.1 p.d.2 g h
def cEq6 : Value → Value → Bool
  | .complex _ a b, .complex _ c d => (FloatKind.f64.format.order a c == some .eq) && (FloatKind.f64.format.order b d == some .eq)
  | _, _ => false
theorem isAggC (w : World) : (isAgg 118).run Tryz.prog w = .ok false w := by kernel_rfl
theorem infoC : (Tryz.prog.info? 118).map (fun i => (i.zero, i.size, i.bytes)) = some (some (.complex .f64 0 0), 1, 16) := by kernel_rfl
theorem ceq {x y z t : Nat} {a b : Int} (h : CE x y a b) (k : CE z t a b) : (FloatKind.f64.format.order x z == some .eq) = true ∧ (FloatKind.f64.format.order y t == some .eq) = true := ⟨(E.eq h.1 k.1).trans (by simp), (E.eq h.2.1 k.2.1).trans (by simp)⟩
theorem eqPan {p q : P4} {a b c d e f g h : Int} (hp : PE p a b c d e f g h) (hq : PE q a b c d e f g h) (w : World) :
    (binOp .eql 129 (.agg q.L64.toArray) (.agg p.L64.toArray)).run Tryz.prog w = .ok (.bool true) w := by
  obtain ⟨i, hi, _⟩ := info_parts infoC
  obtain ⟨a1, a2⟩ := ceq hq.a hp.a
  obtain ⟨b1, b2⟩ := ceq hq.b hp.b
  obtain ⟨c1, c2⟩ := ceq hq.c hp.c
  obtain ⟨d1, d2⟩ := ceq hq.d hp.d
  have hall : all2 cEq6 q.L64 p.L64 = true := by simp only [P4.L64, all2, cEq6, a1, a2, b1, b2, c1, c2, d1, d2]; rfl
  have hE : (Op.equalIn (9998 + 2) 129 (.agg q.L64.toArray) (.agg p.L64.toArray)).run Tryz.prog w = .ok true w := by
    rw [run_eqArray w 9999 129 118 4 i cEq6 q.L64 p.L64 Tryz.underlying129 hi (by kernel_rfl) (part_scalar w _ isAggC) ?_ rfl rfl, hall]
    intro j hj
    have hk : j = 0 ∨ j = 1 ∨ j = 2 ∨ j = 3 := by simp [P4.L64] at hj; omega
    rcases hk with rfl | rfl | rfl | rfl <;> (simp only [P4.L64, List.getD_cons_zero, List.getD_cons_succ]; rw [run_equalIn_complex w 9998 _ .f64 .f64 _ _ _ _ Tryz.underlying118]; rfl)
  have h2 : (Op.equal 129 (.agg q.L64.toArray) (.agg p.L64.toArray)).run Tryz.prog w = .ok true w := hE
  simp only [binOp]
  simp [h2]
theorem overE {n : Int} (hn : n = 3 ∨ n = 4) {p : P4} {a b c d e f g h : Int} (hp : PE p (a * n) (b * n) (c * n) (d * n) (e * n) (f * n) (g * n) (h * n)) (ha : a.natAbs < 1000000000) (hb : b.natAbs < 1000000000) (hc : c.natAbs < 1000000000) (hd : d.natAbs < 1000000000) (he : e.natAbs < 1000000000) (hf : f.natAbs < 1000000000) (hg : g.natAbs < 1000000000) (hh : h.natAbs < 1000000000) : ∃ z m : P4, OverOk p n z m true ∧ PE z a b c d e f g h := by
  obtain ⟨z1, m1, o1, e1, f1⟩ := ovrE hn hp.a ha hb
  obtain ⟨z2, m2, o2, e2, f2⟩ := ovrE hn hp.b hc hd
  obtain ⟨z3, m3, o3, e3, f3⟩ := ovrE hn hp.c he hf
  obtain ⟨z4, m4, o4, e4, f4⟩ := ovrE hn hp.d hg hh
  exact ⟨⟨z1, z2, z3, z4⟩, ⟨m1, m2, m3, m4⟩, ⟨o1, o2, o3, o4, fun w => eqPan hp ⟨f1, f2, f3, f4⟩ w⟩, ⟨e1, e2, e3, e4⟩⟩
set_option maxRecDepth 100000 in
set_option maxHeartbeats 4000000 in
theorem received_top (p : P4) (S C : Nat → P4) (z0 z1 z2 z3 z4 z5 z6 z7 e : Int) (w : World)
    (hC : ∀ W, Calls Tryz.prog 50 #[.agg p.L32.toArray] W fun e w' => e = .returned (.int .i64 0) ∧ Below W.heap.size W w') (hS : SumOk [p] S C)
    (hR : ∀ W, Calls Tryz.prog 52 #[.agg (S 1).L64.toArray] W fun e' w' => e' = .returned (.tuple #[.agg #[.int .i64 z0, .int .i64 z1, .int .i64 z2, .int .i64 z3, .int .i64 z4, .int .i64 z5], .agg #[.int .i64 z6, .int .i64 z7], .int .i64 e]) ∧ Below W.heap.size W w') :
    Calls Tryz.prog 13 #[.agg p.L32.toArray] w fun e' w' => e' = .returned (.tuple #[.agg #[.int .i64 z0, .int .i64 z1, .int .i64 z2, .int .i64 z3, .int .i64 z4, .int .i64 z5], .agg #[.int .i64 z6, .int .i64 z7], .int .i64 e]) ∧ Below w.heap.size w w' := by
  have HC := Lib.hid hC; have HR := Lib.hid hR
  have HSM : Hid (∀ W, Calls Tryz.prog 51 #[.slice (some ⟨W.heap.size, 0, none⟩) 1 1] (W.alloc (.cells p.L32.toArray 45)) fun e w' => e = .returned (.agg (S 1).L64.toArray) ∧ Below W.heap.size W w') := fun W => by
    have hb : Below W.heap.size W (W.alloc (.cells p.L32.toArray 45)) := (Below.refl _ _).alloc (Nat.le_refl _) _
    have hrd : Rd (W.alloc (.cells p.L32.toArray 45)) (some ⟨W.heap.size, 0, none⟩) (panC [p]) := by
      have := Rd.row (Row.new W 45 p.L32)
      simpa [panC] using this
    exact (sumOf_by (some ⟨W.heap.size, 0, none⟩) 1 [p] S C _ hrd (by simp) hS).mono fun e w' ⟨h1, h2⟩ => ⟨h1, hb.trans (h2.mono hb.size)⟩
  clear hC hS hR
  obtain ⟨V, hV⟩ : ∃ V, V = (S 1).L64.toArray := ⟨_, rfl⟩
  rw [← hV] at HSM HR
  clear hV
  obtain ⟨⟨a1, a2⟩, ⟨b1, b2⟩, ⟨c1, c2⟩, ⟨d1, d2⟩⟩ := p
  rw [show (P4.L32 ⟨(a1, a2), (b1, b2), (c1, c2), (d1, d2)⟩).toArray = #[.complex .f32 a1 a2, .complex .f32 b1 b2, .complex .f32 c1 c2, .complex .f32 d1 d2] from rfl] at HC HSM ⊢
  have HA0 : Hid (Row (((w.alloc (.cells #[.complex .f32 a1 a2, .complex .f32 b1 b2, .complex .f32 c1 c2, .complex .f32 d1 d2] 45)).alloc (.cells #[.int .i64 0, .int .i64 0, .int .i64 0, .int .i64 0, .int .i64 0, .int .i64 0] 34)).alloc (.cells #[.int .i64 0, .int .i64 0] 25)) w.heap.size 45 [.complex .f32 a1 a2, .complex .f32 b1 b2, .complex .f32 c1 c2, .complex .f32 d1 d2] ∧ Row (((w.alloc (.cells #[.complex .f32 a1 a2, .complex .f32 b1 b2, .complex .f32 c1 c2, .complex .f32 d1 d2] 45)).alloc (.cells #[.int .i64 0, .int .i64 0, .int .i64 0, .int .i64 0, .int .i64 0, .int .i64 0] 34)).alloc (.cells #[.int .i64 0, .int .i64 0] 25)) (w.heap.size + 1) 34 [.int .i64 0, .int .i64 0, .int .i64 0, .int .i64 0, .int .i64 0, .int .i64 0] ∧ Row (((w.alloc (.cells #[.complex .f32 a1 a2, .complex .f32 b1 b2, .complex .f32 c1 c2, .complex .f32 d1 d2] 45)).alloc (.cells #[.int .i64 0, .int .i64 0, .int .i64 0, .int .i64 0, .int .i64 0, .int .i64 0] 34)).alloc (.cells #[.int .i64 0, .int .i64 0] 25)) (w.heap.size + 1 + 1) 25 [.int .i64 0, .int .i64 0] ∧ Below w.heap.size w (((w.alloc (.cells #[.complex .f32 a1 a2, .complex .f32 b1 b2, .complex .f32 c1 c2, .complex .f32 d1 d2] 45)).alloc (.cells #[.int .i64 0, .int .i64 0, .int .i64 0, .int .i64 0, .int .i64 0, .int .i64 0] 34)).alloc (.cells #[.int .i64 0, .int .i64 0] 25))) := ⟨((rowAt _ _ rfl).alloc _).alloc _, (rowAt _ _ (by simp)).alloc _, rowAt _ _ (by simp), (((Below.refl _ _).alloc (Nat.le_refl _) _).alloc (by simp) _).alloc (by simp; omega) _⟩
  go_enter Tryz.func13, Tryz.ntmps13
  go_upto_region 1 with fail
  refine genT (fun V => Row V w.heap.size 45 [.complex .f32 a1 a2, .complex .f32 b1 b2, .complex .f32 c1 c2, .complex .f32 d1 d2] ∧ Row V (w.heap.size + 1) 34 [.int .i64 0, .int .i64 0, .int .i64 0, .int .i64 0, .int .i64 0, .int .i64 0] ∧ Row V (w.heap.size + 1 + 1) 25 [.int .i64 0, .int .i64 0] ∧ Below w.heap.size w V) HA0.out ?_
  intro W1 s1
  have HS1 := Lib.hid s1
  clear s1 HA0
  go_wp2_with (refine wpList_load_row rfl 45 _ rfl w.heap.size rfl 45 #[.complex .f32 a1 a2, .complex .f32 b1 b2, .complex .f32 c1 c2, .complex .f32 d1 d2] (0, 0) _ HS1.out.1 Tryz.underlying45 rfl ?_ ?_; (kernel_rfl))
  refine (HC.out _).mono ?_
  rintro e' w2 ⟨rfl, hb2⟩
  have HS2 : Hid (Row w2 w.heap.size 45 [.complex .f32 a1 a2, .complex .f32 b1 b2, .complex .f32 c1 c2, .complex .f32 d1 d2] ∧ Row w2 (w.heap.size + 1) 34 [.int .i64 0, .int .i64 0, .int .i64 0, .int .i64 0, .int .i64 0, .int .i64 0] ∧ Row w2 (w.heap.size + 1 + 1) 25 [.int .i64 0, .int .i64 0] ∧ Below w.heap.size w w2) := ⟨HS1.out.1.old hb2, HS1.out.2.1.old hb2, HS1.out.2.2.1.old hb2, HS1.out.2.2.2.trans (hb2.mono HS1.out.2.2.2.size)⟩
  clear hb2 HS1 HC
  go_wp2_with (refine wpList_load_row rfl 45 _ rfl w.heap.size rfl 45 #[.complex .f32 a1 a2, .complex .f32 b1 b2, .complex .f32 c1 c2, .complex .f32 d1 d2] (0, 0) _ HS2.out.1 Tryz.underlying45 rfl ?_ ?_; (kernel_rfl))
  refine (HSM.out _).mono ?_
  rintro e' w3 ⟨rfl, hb3⟩
  have HS3 : Hid (Row w3 (w.heap.size + 1) 34 [.int .i64 0, .int .i64 0, .int .i64 0, .int .i64 0, .int .i64 0, .int .i64 0] ∧ Row w3 (w.heap.size + 1 + 1) 25 [.int .i64 0, .int .i64 0] ∧ Below w.heap.size w w3) := ⟨HS2.out.2.1.old hb3, HS2.out.2.2.1.old hb3, HS2.out.2.2.2.trans (hb3.mono HS2.out.2.2.2.size)⟩
  clear hb3 HS2 HSM
  go_wp2_with fail
  refine (HR.out _).mono ?_
  rintro e' w4 ⟨rfl, hb4⟩
  have HS4 : Hid (Row w4 (w.heap.size + 1) 34 [.int .i64 0, .int .i64 0, .int .i64 0, .int .i64 0, .int .i64 0, .int .i64 0] ∧ Row w4 (w.heap.size + 1 + 1) 25 [.int .i64 0, .int .i64 0] ∧ Below w.heap.size w w4) := ⟨HS3.out.1.old hb4, HS3.out.2.1.old hb4, HS3.out.2.2.trans (hb4.mono HS3.out.2.2.size)⟩
  clear hb4 HS3 HR
  have hz1 := (HS4.out.1.setRow [.int .i64 z0, .int .i64 z1, .int .i64 z2, .int .i64 z3, .int .i64 z4, .int .i64 z5]); have hz2 := (HS4.out.2.1.farRow (show w.heap.size + 1 + 1 ≠ w.heap.size + 1 by omega) #[.int .i64 z0, .int .i64 z1, .int .i64 z2, .int .i64 z3, .int .i64 z4, .int .i64 z5])
  go_wp2_with (first
    | (refine wpList_store_row rfl 34 _ _ rfl (w.heap.size + 1) #[.int .i64 z0, .int .i64 z1, .int .i64 z2, .int .i64 z3, .int .i64 z4, .int .i64 z5] rfl rfl 34 _ HS4.out.1 ?_ ?_ ?_ ?_; (kernel_rfl); (rfl); (simp [Value.oneCell']))
    | (refine wpList_store_row rfl 25 _ _ rfl (w.heap.size + 1 + 1) #[.int .i64 z6, .int .i64 z7] rfl rfl 25 _ hz2 ?_ ?_ ?_ ?_; (kernel_rfl); (rfl); (simp [Value.oneCell'])))
  refine bodyPost_ret (results_rrt rfl _ _ (w.heap.size + 1) (w.heap.size + 1 + 1) 34 25 #[.int .i64 z0, .int .i64 z1, .int .i64 z2, .int .i64 z3, .int .i64 z4, .int .i64 z5] #[.int .i64 z6, .int .i64 z7] (0, 0) (0, 0) _ _ rfl (hz1.farRow (by omega) _) rfl (hz2.setRow [.int .i64 z6, .int .i64 z7]) Tryz.underlying34 rfl (by kernel_rfl) Tryz.underlying25 rfl (by kernel_rfl)) rfl ⟨rfl, Below.setRow (Below.setRow HS4.out.2.2 (by omega) _) (by omega) _⟩
end Go.Proofs.YtlflfieknibgmaaGreatDoor
