import Derived.Test.YtlflfieknibgmaaGreatDoorM31
namespace Go.Proofs.YtlflfieknibgmaaGreatDoor
set_option linter.all false
open Go.RowKit Go.Fl
def Ovr (n : Int) (x z m : Nat × Nat) : Prop := ∃ q r, (∀ w, (binOp .quo 126 (.float .f64 x.1) (.float .f64 (floatOfInt .f64 n))).run Tryz.prog w = .ok (.float .f64 q) w) ∧ (∀ w, (binOp .quo 126 (.float .f64 x.2) (.float .f64 (floatOfInt .f64 n))).run Tryz.prog w = .ok (.float .f64 r) w) ∧ Tr q z.1 ∧ Tr r z.2 ∧ ∀ w, (binOp .mul 118 (.complex .f64 z.1 z.2) (.complex .f64 (floatOfInt .f64 n) 0)).run Tryz.prog w = .ok (.complex .f64 m.1 m.2) w
structure OverOk (p : P4) (n : Int) (z m : P4) (is : Bool) : Prop where
  a : Ovr n p.a z.a m.a
  b : Ovr n p.b z.b m.b
  c : Ovr n p.c z.c m.c
  d : Ovr n p.d z.d m.d
  eq : ∀ w, (binOp .eql 129 (.agg m.L64.toArray) (.agg p.L64.toArray)).run Tryz.prog w = .ok (.bool is) w
set_option maxRecDepth 100000 in
set_option maxHeartbeats 4000000 in
theorem over_by (p : P4) (n : Int) (z m : P4) (is : Bool) (w : World) (h : OverOk p n z m is) : Calls Tryz.prog 113 #[.agg p.L64.toArray, .int .i64 n] w fun e w' => e = .returned (.tuple #[.agg z.L64.toArray, .bool is]) ∧ Below w.heap.size w w' := by
  obtain ⟨⟨a1, a2⟩, ⟨b1, b2⟩, ⟨c1, c2⟩, ⟨d1, d2⟩⟩ := p
  obtain ⟨⟨e1, e2⟩, ⟨f1, f2⟩, ⟨g1, g2⟩, ⟨h1, h2⟩⟩ := z
  obtain ⟨⟨k1, k2⟩, ⟨l1, l2⟩, ⟨m1, m2⟩, ⟨n1, n2⟩⟩ := m
  obtain ⟨⟨q0, r0, qa0, qb0, T0, S0, M0⟩, ⟨q1, r1, qa1, qb1, T1, S1, M1⟩, ⟨q2, r2, qa2, qb2, T2, S2, M2⟩, ⟨q3, r3, qa3, qb3, T3, S3, M3⟩, heq⟩ := h
  have heq2 : ∀ w, (binOp .eql 129 (.agg #[.complex .f64 k1 k2, .complex .f64 l1 l2, .complex .f64 m1 m2, .complex .f64 n1 n2]) (.agg #[.complex .f64 a1 a2, .complex .f64 b1 b2, .complex .f64 c1 c2, .complex .f64 d1 d2])).run Tryz.prog w = .ok (.bool is) w := heq
  clear heq
  dsimp only at qa0 qb0 T0 S0 M0 qa1 qb1 T1 S1 M1 qa2 qb2 T2 S2 M2 qa3 qb3 T3 S3 M3
  rw [show (P4.L64 ⟨(a1, a2), (b1, b2), (c1, c2), (d1, d2)⟩).toArray = #[.complex .f64 a1 a2, .complex .f64 b1 b2, .complex .f64 c1 c2, .complex .f64 d1 d2] from rfl, show (P4.L64 ⟨(e1, e2), (f1, f2), (g1, g2), (h1, h2)⟩).toArray = #[.complex .f64 e1 e2, .complex .f64 f1 f2, .complex .f64 g1 g2, .complex .f64 h1 h2] from rfl]
  have hi0 : ∀ w, (Instr.index 129 (.agg #[.complex .f64 a1 a2, .complex .f64 b1 b2, .complex .f64 c1 c2, .complex .f64 d1 d2]) (.int .i64 0)).run Tryz.prog w = .ok (.complex .f64 a1 a2) w := fun w => by kernel_rfl
  have hi1 : ∀ w, (Instr.index 129 (.agg #[.complex .f64 a1 a2, .complex .f64 b1 b2, .complex .f64 c1 c2, .complex .f64 d1 d2]) (.int .i64 1)).run Tryz.prog w = .ok (.complex .f64 b1 b2) w := fun w => by kernel_rfl
  have hi2 : ∀ w, (Instr.index 129 (.agg #[.complex .f64 a1 a2, .complex .f64 b1 b2, .complex .f64 c1 c2, .complex .f64 d1 d2]) (.int .i64 2)).run Tryz.prog w = .ok (.complex .f64 c1 c2) w := fun w => by kernel_rfl
  have hi3 : ∀ w, (Instr.index 129 (.agg #[.complex .f64 a1 a2, .complex .f64 b1 b2, .complex .f64 c1 c2, .complex .f64 d1 d2]) (.int .i64 3)).run Tryz.prog w = .ok (.complex .f64 d1 d2) w := fun w => by kernel_rfl
  go_enter Tryz.func113, Tryz.ntmps113
  go_upto_region 3 with fail
  refine genT (fun V => Row V (w.heap.size + 1 + 1) 129 [.complex .f64 0 0, .complex .f64 0 0, .complex .f64 0 0, .complex .f64 0 0] ∧ Row V (w.heap.size + 1 + 1 + 1) 129 [.complex .f64 0 0, .complex .f64 0 0, .complex .f64 0 0, .complex .f64 0 0] ∧ Row V w.heap.size 129 [.complex .f64 a1 a2, .complex .f64 b1 b2, .complex .f64 c1 c2, .complex .f64 d1 d2] ∧ Row V (w.heap.size + 1) 129 [.complex .f64 0 0, .complex .f64 0 0, .complex .f64 0 0, .complex .f64 0 0] ∧ Below w.heap.size w V) ⟨(rowAt _ _ (by simp)).alloc _, rowAt _ _ (by simp), (((rowAt _ _ rfl).alloc _).alloc _).alloc _, ((rowAt _ _ (by simp)).alloc _).alloc _, ((((Below.refl _ _).alloc (Nat.le_refl _) _).alloc (by simp) _).alloc (by simp; omega) _).alloc (by simp; omega) _⟩ ?_
  intro W0 s0
  have HS0 := Lib.hid s0
  clear s0
  have z0 := HS0.out.1.cell 0; have z1 := HS0.out.1.cell 1; have z2 := HS0.out.1.cell 2; have z3 := HS0.out.1.cell 3
  have y0 := HS0.out.1.free 0; have y1 := HS0.out.1.free 1; have y2 := HS0.out.1.free 2; have y3 := HS0.out.1.free 3
  have u0 := HS0.out.2.1.cell 0; have u1 := HS0.out.2.1.cell 1; have u2 := HS0.out.2.1.cell 2; have u3 := HS0.out.2.1.cell 3
  have v0 := HS0.out.2.1.free 0; have v1 := HS0.out.2.1.free 1; have v2 := HS0.out.2.1.free 2; have v3 := HS0.out.2.1.free 3
  have x0 := HS0.out.2.2.1.cell 0; have x1 := HS0.out.2.2.1.cell 1; have x2 := HS0.out.2.2.1.cell 2; have x3 := HS0.out.2.2.1.cell 3
  simp only [List.getElem?_cons_succ, List.getElem?_cons_zero] at z0 z1 z2 z3 u0 u1 u2 u3 x0 x1 x2 x3
  go_wp2_with fail
  refine wp_loop_rounds 5 ?_
  rw [rounds_succ]
  go_wp2_with fail
  refine (truncM_by _ _ _ T0).mono ?_
  rintro e w' ⟨rfl, rfl⟩
  go_wp2_with fail
  refine (truncM_by _ _ _ S0).mono ?_
  rintro e w' ⟨rfl, rfl⟩
  go_wp2_with fail
  rw [rounds_succ]
  go_wp2_with fail
  refine (truncM_by _ _ _ T1).mono ?_
  rintro e w' ⟨rfl, rfl⟩
  go_wp2_with fail
  refine (truncM_by _ _ _ S1).mono ?_
  rintro e w' ⟨rfl, rfl⟩
  go_wp2_with fail
  rw [rounds_succ]
  go_wp2_with fail
  refine (truncM_by _ _ _ T2).mono ?_
  rintro e w' ⟨rfl, rfl⟩
  go_wp2_with fail
  refine (truncM_by _ _ _ S2).mono ?_
  rintro e w' ⟨rfl, rfl⟩
  go_wp2_with fail
  rw [rounds_succ]
  go_wp2_with fail
  refine (truncM_by _ _ _ T3).mono ?_
  rintro e w' ⟨rfl, rfl⟩
  go_wp2_with fail
  refine (truncM_by _ _ _ S3).mono ?_
  rintro e w' ⟨rfl, rfl⟩
  go_wp2_with fail
  rw [rounds_succ]
  go_upto_region 9 with fail
  refine genT (fun V => Row V (w.heap.size + 1 + 1) 129 [.complex .f64 e1 e2, .complex .f64 f1 f2, .complex .f64 g1 g2, .complex .f64 h1 h2] ∧ Row V (w.heap.size + 1 + 1 + 1) 129 [.complex .f64 k1 k2, .complex .f64 l1 l2, .complex .f64 m1 m2, .complex .f64 n1 n2] ∧ Row V (w.heap.size) 129 [.complex .f64 a1 a2, .complex .f64 b1 b2, .complex .f64 c1 c2, .complex .f64 d1 d2] ∧ RowN V (w.heap.size + 1) 129 4 ∧ Below w.heap.size w V) ⟨((((((((HS0.out.1).set 0 (.complex .f64 e1 e2)).far (by dsimp only; omega) _).set 1 (.complex .f64 f1 f2)).far (by dsimp only; omega) _).set 2 (.complex .f64 g1 g2)).far (by dsimp only; omega) _).set 3 (.complex .f64 h1 h2)).far (by dsimp only; omega) _, ((((((((HS0.out.2.1).far (by dsimp only; omega) _).set 0 (.complex .f64 k1 k2)).far (by dsimp only; omega) _).set 1 (.complex .f64 l1 l2)).far (by dsimp only; omega) _).set 2 (.complex .f64 m1 m2)).far (by dsimp only; omega) _).set 3 (.complex .f64 n1 n2), ((((((((HS0.out.2.2.1).far (by dsimp only; omega) _).far (by dsimp only; omega) _).far (by dsimp only; omega) _).far (by dsimp only; omega) _).far (by dsimp only; omega) _).far (by dsimp only; omega) _).far (by dsimp only; omega) _).far (by dsimp only; omega) _, ⟨_, rfl, ((((((((HS0.out.2.2.2.1).far (by dsimp only; omega) _).far (by dsimp only; omega) _).far (by dsimp only; omega) _).far (by dsimp only; omega) _).far (by dsimp only; omega) _).far (by dsimp only; omega) _).far (by dsimp only; omega) _).far (by dsimp only; omega) _⟩, ((((((((HS0.out.2.2.2.2).setCell (by dsimp only; omega) _).setCell (by dsimp only; omega) _).setCell (by dsimp only; omega) _).setCell (by dsimp only; omega) _).setCell (by dsimp only; omega) _).setCell (by dsimp only; omega) _).setCell (by dsimp only; omega) _).setCell (by dsimp only; omega) _⟩ ?_
  clear z0 z1 z2 z3 y0 y1 y2 y3 u0 u1 u2 u3 v0 v1 v2 v3 x0 x1 x2 x3 HS0
  intro W1 s1
  have HS1 := Lib.hid s1
  clear s1
  refine wp_region_held_drew (S := fun V => Row V (w.heap.size + 1 + 1) 129 [.complex .f64 e1 e2, .complex .f64 f1 f2, .complex .f64 g1 g2, .complex .f64 h1 h2] ∧ Row V (w.heap.size + 1 + 1 + 1) 129 [.complex .f64 k1 k2, .complex .f64 l1 l2, .complex .f64 m1 m2, .complex .f64 n1 n2] ∧ Row V (w.heap.size) 129 [.complex .f64 a1 a2, .complex .f64 b1 b2, .complex .f64 c1 c2, .complex .f64 d1 d2] ∧ RowN V (w.heap.size + 1) 129 4 ∧ Below w.heap.size w V) (by kernel_rfl) ?_ (fun hHeld => ?_)
  · exact ⟨(HS1.out.1).drew, (HS1.out.2.1).drew, (HS1.out.2.2.1).drew, (HS1.out.2.2.2.1).drew, (HS1.out.2.2.2.2).drew⟩
  refine wpAnyH_take (i := 0) (oi := ⟨some 40, _, _, _, _, _⟩) (v := .agg #[.complex .f64 e1 e2, .complex .f64 f1 f2, .complex .f64 g1 g2, .complex .f64 h1 h2]) rfl (by kernel_rfl) (by kernel_rfl) (by kernel_rfl) (fun _ _ _ h => h) (Or.inl ⟨by kernel_rfl, fun V hV => ex_rowT 129 _ rfl (w.heap.size + 1 + 1) rfl 129 [.complex .f64 e1 e2, .complex .f64 f1 f2, .complex .f64 g1 g2, .complex .f64 h1 h2] _ Tryz.underlying129 rfl (by kernel_rfl) (hV.1)⟩) hHeld ?_
  try simp only [Act.put, List.setIfInBounds_toArray, List.set_cons_zero, List.set_cons_succ]
  refine wpAnyH_take (i := 1) (oi := ⟨some 41, _, _, _, _, _⟩) (v := .agg #[.complex .f64 k1 k2, .complex .f64 l1 l2, .complex .f64 m1 m2, .complex .f64 n1 n2]) rfl (by kernel_rfl) (by kernel_rfl) (by kernel_rfl) (fun _ _ _ h => h) (Or.inl ⟨by kernel_rfl, fun V hV => ex_rowT 129 _ rfl (w.heap.size + 1 + 1 + 1) rfl 129 [.complex .f64 k1 k2, .complex .f64 l1 l2, .complex .f64 m1 m2, .complex .f64 n1 n2] _ Tryz.underlying129 rfl (by kernel_rfl) (hV.2.1)⟩) hHeld ?_
  try simp only [Act.put, List.setIfInBounds_toArray, List.set_cons_zero, List.set_cons_succ]
  refine wpAnyH_take (i := 2) (oi := ⟨some 42, _, _, _, _, _⟩) (v := .agg #[.complex .f64 a1 a2, .complex .f64 b1 b2, .complex .f64 c1 c2, .complex .f64 d1 d2]) rfl (by kernel_rfl) (by kernel_rfl) (by kernel_rfl) (fun _ _ _ h => h) (Or.inl ⟨by kernel_rfl, fun V hV => ex_rowT 129 _ rfl (w.heap.size) rfl 129 [.complex .f64 a1 a2, .complex .f64 b1 b2, .complex .f64 c1 c2, .complex .f64 d1 d2] _ Tryz.underlying129 rfl (by kernel_rfl) (hV.2.2.1)⟩) hHeld ?_
  try simp only [Act.put, List.setIfInBounds_toArray, List.set_cons_zero, List.set_cons_succ]
  refine wpAnyH_take (i := 3) (oi := ⟨some 43, _, _, _, _, _⟩) (v := ?_) rfl (by kernel_rfl) (by kernel_rfl) (by kernel_rfl) (fun _ _ _ h => h) (Or.inl ⟨by kernel_rfl, ?_⟩) hHeld ?_
  rotate_left
  · intro w1 hSw; (try dsimp only at hSw); go_simp <;> with_reducible rfl
  try simp only [Act.put, List.setIfInBounds_toArray, List.set_cons_zero, List.set_cons_succ]
  refine wpAnyH_ready (rs := [4]) (by kernel_rfl) (by simp) ?_
  refine AllReadyH.cons rfl (fun K hK => ?_) AllReadyH.nil
  obtain ⟨vs, hvl, hvr⟩ := (hHeld.2.2.2.1)
  have hLast := hHeld
  refine step_store_row rfl 129 _ _ rfl (w.heap.size + 1) [.complex .f64 e1 e2, .complex .f64 f1 f2, .complex .f64 g1 g2, .complex .f64 h1 h2] rfl rfl 129 vs hvr (by kernel_rfl) hvl (by simp [Value.oneCell']) ?_
  refine hK.out _ _ ?_ (fun hHeld => ?_)
  · exact ⟨(hHeld.1).farRow (by omega) _, (hHeld.2.1).farRow (by omega) _, (hHeld.2.2.1).farRow (by omega) _, ⟨_, rfl, hvr.setRow _⟩, Below.setRow (hHeld.2.2.2.2) (by omega) _⟩
  clear hK K
  try simp only [Act.put, List.setIfInBounds_toArray, List.set_cons_zero, List.set_cons_succ]
  refine wpAnyH_take (i := 5) (oi := ⟨some 5, _, _, _, _, _⟩) (v := ?_) rfl (by kernel_rfl) (by kernel_rfl) (by kernel_rfl) (fun _ _ _ h => h) (Or.inl ⟨by kernel_rfl, ?_⟩) hHeld ?_
  rotate_left
  · intro w1 hSw; (try dsimp only at hSw); go_simp <;> with_reducible rfl
  try simp only [Act.put, List.setIfInBounds_toArray, List.set_cons_zero, List.set_cons_succ]
  refine wpAnyH_done (by kernel_rfl) ?_ _
  go_wp2_with fail
  refine bodyPost_ret (results_rt rfl _ _ (w.heap.size + 1) 129 #[.complex .f64 e1 e2, .complex .f64 f1 f2, .complex .f64 g1 g2, .complex .f64 h1 h2] (0, 0) _ rfl (hvr.setRow [.complex .f64 e1 e2, .complex .f64 f1 f2, .complex .f64 g1 g2, .complex .f64 h1 h2]) Tryz.underlying129 rfl (by kernel_rfl)) rfl ⟨rfl, Below.setRow hLast.2.2.2.2 (by omega) _⟩
def sampV (R : Nat → Nat × Nat) : Nat → List Value
  | 0 => [.complex .f32 0 0, .complex .f32 0 0, .complex .f32 0 0, .complex .f32 0 0]
  | n + 1 => (sampV R n).set n (.complex .f32 (R n).1 (R n).2)
theorem sampV_len (R : Nat → Nat × Nat) : ∀ n, (sampV R n).length = 4
  | 0 => rfl
  | n + 1 => by show ((sampV R n).set n _).length = 4; rw [List.length_set]; exact sampV_len R n
structure SampOk (a b c d x y : Int) (M N R : Nat → Nat × Nat) : Prop where
  at' : ∀ i, i < 4 → ∃ fl fh, ([.int .i64 1, .int .i64 1, .int .i64 (-1), .int .i64 (-1), .func (.func 107) #[] #[]] : List Value)[i]? = some (.int .i64 fl) ∧ ([.int .i64 1, .int .i64 (-1), .int .i64 1, .int .i64 (-1), .func (.func 108) #[] #[]] : List Value)[i]? = some (.int .i64 fh) ∧ Mad (floatOfInt .f64 c) (floatOfInt .f64 d) fl (floatOfInt .f64 a, floatOfInt .f64 b) (M i) ∧ Mad (floatOfInt .f64 x) (floatOfInt .f64 y) fh (M i) (N i) ∧ ∀ w, (convert 118 44 (.complex .f64 (N i).1 (N i).2)).run Tryz.prog w = .ok (.complex .f32 (R i).1 (R i).2) w
set_option maxRecDepth 100000 in
set_option maxHeartbeats 1000000 in
theorem sampled_by (a b c d x y : Int) (M N R : Nat → Nat × Nat) (w : World) (hE : sigE a b c d x y = 0) (hok : SampOk a b c d x y M N R) : Calls Tryz.prog 12 #[.agg #[.int .i64 a, .int .i64 b, .int .i64 c, .int .i64 d, .int .i64 x, .int .i64 y]] w fun e w' => e = .returned (.tuple #[.agg (sampV R 4).toArray, .int .i64 0]) ∧ Below w.heap.size w w' := by
  have HK := Lib.hid hok
  have HC : Hid (∀ W, Calls Tryz.prog 38 #[.agg #[.int .i64 a, .int .i64 b, .int .i64 c, .int .i64 d, .int .i64 x, .int .i64 y]] W fun e w' => e = .returned (.int .i64 0) ∧ Below W.heap.size W w') := fun W => by have h := checkSignal_any a b c d x y W; rw [hE] at h; exact h
  clear hE hok
  have hi0 : ∀ w, (Instr.index 124 (.agg #[.int .i64 1, .int .i64 1, .int .i64 (-1), .int .i64 (-1), .func (.func 107) #[] #[], .int .i64 1, .int .i64 (-1), .int .i64 1, .int .i64 (-1), .func (.func 108) #[] #[]]) (.int .i64 0)).run Tryz.prog w = .ok (.agg #[.int .i64 1, .int .i64 1, .int .i64 (-1), .int .i64 (-1), .func (.func 107) #[] #[]]) w := fun w => by kernel_rfl
  have hi1 : ∀ w, (Instr.index 124 (.agg #[.int .i64 1, .int .i64 1, .int .i64 (-1), .int .i64 (-1), .func (.func 107) #[] #[], .int .i64 1, .int .i64 (-1), .int .i64 1, .int .i64 (-1), .func (.func 108) #[] #[]]) (.int .i64 1)).run Tryz.prog w = .ok (.agg #[.int .i64 1, .int .i64 (-1), .int .i64 1, .int .i64 (-1), .func (.func 108) #[] #[]]) w := fun w => by kernel_rfl
  go_enter Tryz.func12, Tryz.ntmps12
  go_upto_region 1 with fail
  refine genT (fun V => Row V (w.heap.size) 34 [.int .i64 a, .int .i64 b, .int .i64 c, .int .i64 d, .int .i64 x, .int .i64 y] ∧ Row V (w.heap.size + 1) 45 [.complex .f32 0 0, .complex .f32 0 0, .complex .f32 0 0, .complex .f32 0 0] ∧ Below w.heap.size w V) ⟨(Row.alloc (rowAt _ _ (by first | rfl | simp only [World.size_alloc])) _), (rowAt _ _ (by first | rfl | simp only [World.size_alloc])), (((Below.refl _ _).alloc (by first | exact Nat.le_refl _ | (simp only [World.size_alloc]; omega)) _).alloc (by first | exact Nat.le_refl _ | (simp only [World.size_alloc]; omega)) _)⟩ ?_
  intro W1 s1
  have HS1 := Lib.hid s1
  clear s1
  go_upto_region 5 with (first | (refine wpList_load_row rfl 34 _ rfl (w.heap.size) rfl 34 #[.int .i64 a, .int .i64 b, .int .i64 c, .int .i64 d, .int .i64 x, .int .i64 y] (0, 0) _ HS1.out.1 Tryz.underlying34 rfl ?_ ?_; (kernel_rfl)) | (go_at_call 38; refine (HC.out _).mono ?_; rintro e w2 ⟨rfl, hb_w2⟩; have HS2 : Hid (Row w2 (w.heap.size) 34 [.int .i64 a, .int .i64 b, .int .i64 c, .int .i64 d, .int .i64 x, .int .i64 y] ∧ Row w2 (w.heap.size + 1) 45 [.complex .f32 0 0, .complex .f32 0 0, .complex .f32 0 0, .complex .f32 0 0] ∧ Below w.heap.size w w2) := ⟨(HS1.out.1).old hb_w2, (HS1.out.2.1).old hb_w2, (HS1.out.2.2).trans (hb_w2.mono (HS1.out.2.2).size)⟩; clear hb_w2))
  obtain ⟨g, hg⟩ : ∃ g, g = w2.heap.size := ⟨_, rfl⟩
  have hgz : w.heap.size + 1 < g := by have := HS2.out.2.1.lt; omega
  refine genT (fun V => Row V (w.heap.size) 34 [.int .i64 a, .int .i64 b, .int .i64 c, .int .i64 d, .int .i64 x, .int .i64 y] ∧ Row V (w.heap.size + 1) 45 [.complex .f32 0 0, .complex .f32 0 0, .complex .f32 0 0, .complex .f32 0 0] ∧ Row V g 45 (sampV R 0) ∧ Below w.heap.size w V) ⟨HS2.out.1.alloc _, HS2.out.2.1.alloc _, rowAt _ _ hg.symm, HS2.out.2.2.alloc HS2.out.2.2.size _⟩ ?_
  rw [← hg]
  intro W0 s0
  have HT0 := Lib.hid s0
  clear s0 HS1 HS2 hg
  go_wp2
  go_loopw [16] (fun u wr => ∃ i : Nat, i ≤ 4 ∧ u = .int .i64 i ∧ Hid (Row wr (w.heap.size) 34 [.int .i64 a, .int .i64 b, .int .i64 c, .int .i64 d, .int .i64 x, .int .i64 y] ∧ Row wr (w.heap.size + 1) 45 [.complex .f32 0 0, .complex .f32 0 0, .complex .f32 0 0, .complex .f32 0 0] ∧ Row wr g 45 (sampV R i) ∧ Below w.heap.size w wr)) (fun u _ => 4 - (intOf u).toNat)
  case atStart => exact ⟨0, by omega, rfl, HT0.out⟩
  case round =>
    clear HT0
    obtain ⟨i, hi, rfl, HR⟩ := hrel
    by_cases hlt : i < 4
    · obtain ⟨fl, fh, hl, hh, ⟨k1, l1, m1f, a1f⟩, ⟨k2, l2, m2f, a2f⟩, hcv⟩ := HK.out.at' i hlt
      have HL := Lib.hid hl; have HH := Lib.hid hh
      obtain ⟨⟨m1, m2⟩, hm⟩ : ∃ p, p = M i := ⟨_, rfl⟩
      obtain ⟨⟨n1, n2⟩, hn⟩ : ∃ p, p = N i := ⟨_, rfl⟩
      obtain ⟨⟨r1, r2⟩, hr⟩ : ∃ p, p = R i := ⟨_, rfl⟩
      have HRI := Lib.hid hr
      rw [← hm] at a1f a2f
      rw [← hn] at a2f hcv
      rw [← hr] at hcv
      dsimp only at a1f a2f hcv
      clear hl hh hm hn hr
      have c0 := HR.out.1.cell 0; have c1 := HR.out.1.cell 1
      simp only [List.getElem?_cons_succ, List.getElem?_cons_zero] at c0 c1
      go_upto_region 10 with (first
        | (go_at_call 48; refine (complex_any a b _).mono ?_; rintro e w3 ⟨rfl, hb3⟩; have HT1 : Hid (Row w3 (w.heap.size) 34 [.int .i64 a, .int .i64 b, .int .i64 c, .int .i64 d, .int .i64 x, .int .i64 y] ∧ Row w3 (w.heap.size + 1) 45 [.complex .f32 0 0, .complex .f32 0 0, .complex .f32 0 0, .complex .f32 0 0] ∧ Row w3 g 45 (sampV R i) ∧ Below w.heap.size w w3) := ⟨HR.out.1.old hb3, HR.out.2.1.old hb3, HR.out.2.2.1.old hb3, HR.out.2.2.2.trans (hb3.mono HR.out.2.2.2.size)⟩; clear hb3)
        | (go_at_call 49; refine (tones_any _).mono ?_; rintro e w4 ⟨rfl, hb3⟩; have HT3 : Hid (Row w4 (w.heap.size) 34 [.int .i64 a, .int .i64 b, .int .i64 c, .int .i64 d, .int .i64 x, .int .i64 y] ∧ Row w4 (w.heap.size + 1) 45 [.complex .f32 0 0, .complex .f32 0 0, .complex .f32 0 0, .complex .f32 0 0] ∧ Row w4 g 45 (sampV R i) ∧ Below w.heap.size w w4) := ⟨HT1.out.1.old hb3, HT1.out.2.1.old hb3, HT1.out.2.2.1.old hb3, HT1.out.2.2.2.trans (hb3.mono HT1.out.2.2.2.size)⟩; clear hb3))
      clear HT1 HR c0 c1
      go_loopg [7, 23] 2 (fun gg s7 s23 wx => (gg = 2 ∧ s7 = .complex .f64 (floatOfInt .f64 a) (floatOfInt .f64 b) ∧ s23 = .int .i64 0 ∧ Hid (Row wx (w.heap.size) 34 [.int .i64 a, .int .i64 b, .int .i64 c, .int .i64 d, .int .i64 x, .int .i64 y] ∧ Row wx (w.heap.size + 1) 45 [.complex .f32 0 0, .complex .f32 0 0, .complex .f32 0 0, .complex .f32 0 0] ∧ Row wx g 45 (sampV R i) ∧ Below w.heap.size w wx)) ∨ (gg = 1 ∧ s7 = .complex .f64 m1 m2 ∧ s23 = .int .i64 1 ∧ Hid (Row wx (w.heap.size) 34 [.int .i64 a, .int .i64 b, .int .i64 c, .int .i64 d, .int .i64 x, .int .i64 y] ∧ Row wx (w.heap.size + 1) 45 [.complex .f32 0 0, .complex .f32 0 0, .complex .f32 0 0, .complex .f32 0 0] ∧ Row wx g 45 (sampV R i) ∧ Below w.heap.size w wx)) ∨ (gg = 0 ∧ s7 = .complex .f64 n1 n2 ∧ s23 = .int .i64 2 ∧ Hid (Row wx (w.heap.size) 34 [.int .i64 a, .int .i64 b, .int .i64 c, .int .i64 d, .int .i64 x, .int .i64 y] ∧ Row wx (w.heap.size + 1) 45 [.complex .f32 0 0, .complex .f32 0 0, .complex .f32 0 0, .complex .f32 0 0] ∧ Row wx g 45 (sampV R i) ∧ Below w.heap.size w wx)))
      case atStart => exact .inl ⟨rfl, rfl, rfl, HT3⟩
      case round =>
        clear HT3
        obtain ⟨rfl, rfl, rfl, HT⟩ | ⟨rfl, rfl, rfl, HT⟩ | ⟨rfl, rfl, rfl, HT⟩ := hrel
        · have HG : Hid (w.heap.size + 1 < wr.heap.size) := Lib.hid (by have := HT.out.2.1.lt; omega)
          have HG2 : Hid (g < wr.heap.size) := Lib.hid HT.out.2.2.1.lt
          go_upto_region 12 with (refine wpList_store_row rfl 123 _ _ rfl wr.heap.size #[.int .i64 1, .int .i64 1, .int .i64 (-1), .int .i64 (-1), .func (.func 107) #[] #[]] rfl rfl 123 _ (Row.new wr 123 [.int .i64 0, .int .i64 0, .int .i64 0, .int .i64 0, .nilFunc]) ?_ ?_ ?_ ?_; (kernel_rfl); (rfl); (simp [Value.oneCell']))
          have hbn : Below wr.heap.size wr ((wr.alloc (.cells #[.int .i64 0, .int .i64 0, .int .i64 0, .int .i64 0, .nilFunc] 123)).setRow wr.heap.size #[.int .i64 1, .int .i64 1, .int .i64 (-1), .int .i64 (-1), .func (.func 107) #[] #[]]) := Below.setRow ((Below.refl _ _).alloc (Nat.le_refl _) _) (Nat.le_refl _) _
          refine genT (fun V => Row V (w.heap.size) 34 [.int .i64 a, .int .i64 b, .int .i64 c, .int .i64 d, .int .i64 x, .int .i64 y] ∧ Row V (wr.heap.size) 123 [.int .i64 1, .int .i64 1, .int .i64 (-1), .int .i64 (-1), .func (.func 107) #[] #[]] ∧ Row V (w.heap.size + 1) 45 [.complex .f32 0 0, .complex .f32 0 0, .complex .f32 0 0, .complex .f32 0 0] ∧ Row V g 45 (sampV R i) ∧ Below w.heap.size w V) ⟨HT.out.1.old hbn, (Row.new wr 123 [.int .i64 0, .int .i64 0, .int .i64 0, .int .i64 0, .nilFunc]).setRow _, HT.out.2.1.old hbn, HT.out.2.2.1.old hbn, HT.out.2.2.2.trans (hbn.mono HT.out.2.2.2.size)⟩ ?_
          clear hbn
          intro V2 s2
          have HT2 := Lib.hid s2
          clear s2 HT
          refine wp_region_held_drew (S := fun V => Row V (w.heap.size) 34 [.int .i64 a, .int .i64 b, .int .i64 c, .int .i64 d, .int .i64 x, .int .i64 y] ∧ Row V (wr.heap.size) 123 [.int .i64 1, .int .i64 1, .int .i64 (-1), .int .i64 (-1), .func (.func 107) #[] #[]] ∧ Row V (w.heap.size + 1) 45 [.complex .f32 0 0, .complex .f32 0 0, .complex .f32 0 0, .complex .f32 0 0] ∧ Row V g 45 (sampV R i) ∧ Below w.heap.size w V) (by kernel_rfl) ?_ (fun hHeld => ?_)
          · exact ⟨(HT2.out.1).drew, (HT2.out.2.1).drew, (HT2.out.2.2.1).drew, (HT2.out.2.2.2.1).drew, (HT2.out.2.2.2.2).drew⟩
          refine wpAnyH_take (i := 0) (oi := ⟨some 26, _, _, _, _, _⟩) (v := ?_) rfl (by kernel_rfl) (by kernel_rfl) (by kernel_rfl) (fun _ _ _ h => h) (Or.inl ⟨by kernel_rfl, ?_⟩) hHeld ?_
          rotate_left
          · intro w1 hSw; (try dsimp only at hSw); go_simp <;> with_reducible rfl
          try simp only [Act.put, List.setIfInBounds_toArray, List.set_cons_zero, List.set_cons_succ]
          refine wpAnyH_take (i := 1) (oi := ⟨some 27, _, _, _, _, _⟩) (v := ?_) rfl (by kernel_rfl) (by kernel_rfl) (by kernel_rfl) (fun _ _ _ h => h) (Or.inl ⟨by kernel_rfl, ?_⟩) hHeld ?_
          rotate_left
          · intro w1 hSw; (try dsimp only at hSw); go_simp <;> with_reducible rfl
          try simp only [Act.put, List.setIfInBounds_toArray, List.set_cons_zero, List.set_cons_succ]
          refine wpAnyH_take (i := 2) (oi := ⟨some 28, _, _, _, _, _⟩) (v := ?_) rfl (by kernel_rfl) (by kernel_rfl) (by kernel_rfl) (fun _ _ _ h => h) (Or.inl ⟨by kernel_rfl, ?_⟩) hHeld ?_
          rotate_left
          · intro w1 hSw; (try dsimp only at hSw); have cc := (hSw.2.1).cell 4; simp only [List.getElem?_cons_succ, List.getElem?_cons_zero] at cc; go_simp <;> with_reducible rfl
          try simp only [Act.put, List.setIfInBounds_toArray, List.set_cons_zero, List.set_cons_succ]
          refine wpAnyH_take (i := 3) (oi := ⟨some 29, _, _, _, _, _⟩) (v := .agg #[.int .i64 a, .int .i64 b, .int .i64 c, .int .i64 d, .int .i64 x, .int .i64 y]) rfl (by kernel_rfl) (by kernel_rfl) (by kernel_rfl) (fun _ _ _ h => h) (Or.inl ⟨by kernel_rfl, fun V hV => ex_rowT 34 _ rfl (w.heap.size) rfl 34 [.int .i64 a, .int .i64 b, .int .i64 c, .int .i64 d, .int .i64 x, .int .i64 y] _ Tryz.underlying34 rfl (by kernel_rfl) (hV.1)⟩) hHeld ?_
          try simp only [Act.put, List.setIfInBounds_toArray, List.set_cons_zero, List.set_cons_succ]
          refine wpAnyH_take (i := 6) (oi := ⟨some 32, _, _, _, _, _⟩) (v := ?_) rfl (by kernel_rfl) (by kernel_rfl) (by kernel_rfl) (fun _ _ _ h => h) (Or.inl ⟨by kernel_rfl, ?_⟩) hHeld ?_
          rotate_left
          · intro w1 hSw; (try dsimp only at hSw); go_simp <;> with_reducible rfl
          try simp only [Act.put, List.setIfInBounds_toArray, List.set_cons_zero, List.set_cons_succ]
          refine wpAnyH_take (i := 7) (oi := ⟨some 33, _, _, _, _, _⟩) (v := ?_) rfl (by kernel_rfl) (by kernel_rfl) (by kernel_rfl) (fun _ _ _ h => h) (Or.inl ⟨by kernel_rfl, ?_⟩) hHeld ?_
          rotate_left
          · intro w1 hSw; (try dsimp only at hSw); go_simp <;> with_reducible rfl
          try simp only [Act.put, List.setIfInBounds_toArray, List.set_cons_zero, List.set_cons_succ]
          refine wpAnyH_take (i := 8) (oi := ⟨some 34, _, _, _, _, _⟩) (v := ?_) rfl (by kernel_rfl) (by kernel_rfl) (by kernel_rfl) (fun _ _ _ h => h) (Or.inl ⟨by kernel_rfl, ?_⟩) hHeld ?_
          rotate_left
          · intro w1 hSw; (try dsimp only at hSw); go_simp <;> with_reducible rfl
          try simp only [Act.put, List.setIfInBounds_toArray, List.set_cons_zero, List.set_cons_succ]
          refine wpAnyH_take (i := 9) (oi := ⟨some 35, _, _, _, _, _⟩) (v := ?_) rfl (by kernel_rfl) (by kernel_rfl) (by kernel_rfl) (fun _ _ _ h => h) (Or.inl ⟨by kernel_rfl, ?_⟩) hHeld ?_
          rotate_left
          · intro w1 hSw; (try dsimp only at hSw); have cc := (hSw.2.1).cell i; rw [HL.out] at cc; go_simp <;> with_reducible rfl
          try simp only [Act.put, List.setIfInBounds_toArray, List.set_cons_zero, List.set_cons_succ]
          refine wpAnyH_take (i := 10) (oi := ⟨some 36, _, _, _, _, _⟩) (v := ?_) rfl (by kernel_rfl) (by kernel_rfl) (by kernel_rfl) (fun _ _ _ h => h) (Or.inl ⟨by kernel_rfl, ?_⟩) hHeld ?_
          rotate_left
          · intro w1 hSw; (try dsimp only at hSw); go_simp <;> with_reducible rfl
          try simp only [Act.put, List.setIfInBounds_toArray, List.set_cons_zero, List.set_cons_succ]
          refine wpAnyH_ready (rs := [4, 11]) (by kernel_rfl) (by simp) ?_
          refine AllReadyH.cons rfl (fun K hK => ?_) (AllReadyH.cons rfl (fun K hK => ?_) (AllReadyH.nil))
          ·
            go_simp
            go_at_call 107
            refine (tone1_any a b c d x y _).mono ?_
            rintro e v4 ⟨rfl, hb4⟩
            try go_simp
            refine hK.out _ _ ?_ (fun hHeld => ?_)
            · exact ⟨(hHeld.1).old hb4, (hHeld.2.1).old hb4, (hHeld.2.2.1).old hb4, (hHeld.2.2.2.1).old hb4, (hHeld.2.2.2.2).trans ((hb4).mono (hHeld.2.2.2.2).size)⟩
            clear hK K
            try simp only [Act.put, List.setIfInBounds_toArray, List.set_cons_zero, List.set_cons_succ]
            refine wpAnyH_ready (rs := [5, 11]) (by kernel_rfl) (by simp) ?_
            refine AllReadyH.cons rfl (fun K hK => ?_) (AllReadyH.cons rfl (fun K hK => ?_) (AllReadyH.nil))
            ·
              go_simp
              go_at_call 48
              refine (complex_any c d _).mono ?_
              rintro e v5 ⟨rfl, hb5⟩
              try go_simp
              refine hK.out _ _ ?_ (fun hHeld => ?_)
              · exact ⟨(hHeld.1).old hb5, (hHeld.2.1).old hb5, (hHeld.2.2.1).old hb5, (hHeld.2.2.2.1).old hb5, (hHeld.2.2.2.2).trans ((hb5).mono (hHeld.2.2.2.2).size)⟩
              clear hK K
              try simp only [Act.put, List.setIfInBounds_toArray, List.set_cons_zero, List.set_cons_succ]
              refine wpAnyH_ready (rs := [11]) (by kernel_rfl) (by simp) ?_
              refine AllReadyH.cons rfl (fun K hK => ?_) (AllReadyH.nil)
              go_simp
              refine hK.out _ _ ?_ (fun hHeld => ?_)
              · exact hHeld
              clear hK K
              try simp only [Act.put, List.setIfInBounds_toArray, List.set_cons_zero, List.set_cons_succ]
              refine wpAnyH_take (i := 12) (oi := ⟨some 38, _, _, _, _, _⟩) (v := ?_) rfl (by kernel_rfl) (by kernel_rfl) (by kernel_rfl) (fun _ _ _ h => h) (Or.inl ⟨by kernel_rfl, ?_⟩) hHeld ?_
              rotate_left
              · intro w1 hSw; (try dsimp only at hSw); go_simp <;> with_reducible rfl
              try simp only [Act.put, List.setIfInBounds_toArray, List.set_cons_zero, List.set_cons_succ]
              refine wpAnyH_take (i := 13) (oi := ⟨some 39, _, _, _, _, _⟩) (v := ?_) rfl (by kernel_rfl) (by kernel_rfl) (by kernel_rfl) (fun _ _ _ h => h) (Or.inl ⟨by kernel_rfl, ?_⟩) hHeld ?_
              rotate_left
              · intro w1 hSw; (try dsimp only at hSw); go_simp <;> with_reducible rfl
              try simp only [Act.put, List.setIfInBounds_toArray, List.set_cons_zero, List.set_cons_succ]
              refine wpAnyH_take (i := 14) (oi := ⟨some 7, _, _, _, _, _⟩) (v := ?_) rfl (by kernel_rfl) (by kernel_rfl) (by kernel_rfl) (fun _ _ _ h => h) (Or.inl ⟨by kernel_rfl, ?_⟩) hHeld ?_
              rotate_left
              · intro w1 hSw; (try dsimp only at hSw); go_simp <;> with_reducible rfl
              try simp only [Act.put, List.setIfInBounds_toArray, List.set_cons_zero, List.set_cons_succ]
              refine wpAnyH_done (by kernel_rfl) ?_ _
              have HQ : Hid (Row _ (w.heap.size) 34 [.int .i64 a, .int .i64 b, .int .i64 c, .int .i64 d, .int .i64 x, .int .i64 y] ∧ Row _ (w.heap.size + 1) 45 [.complex .f32 0 0, .complex .f32 0 0, .complex .f32 0 0, .complex .f32 0 0] ∧ Row _ g 45 (sampV R i) ∧ Below w.heap.size w _) := ⟨hHeld.1, hHeld.2.2.1, hHeld.2.2.2.1, hHeld.2.2.2.2⟩
              clear hHeld HT2
              go_wp2_with fail
              go_roundg 1
              case measure => omega
              case rel => exact .inr (.inl ⟨rfl, rfl, rfl, HQ.out⟩)
            ·
              go_simp
              refine hK.out _ _ ?_ (fun hHeld => ?_)
              · exact hHeld
              clear hK K
              try simp only [Act.put, List.setIfInBounds_toArray, List.set_cons_zero, List.set_cons_succ]
              refine wpAnyH_ready (rs := [5]) (by kernel_rfl) (by simp) ?_
              refine AllReadyH.cons rfl (fun K hK => ?_) (AllReadyH.nil)
              go_simp
              go_at_call 48
              refine (complex_any c d _).mono ?_
              rintro e v5 ⟨rfl, hb5⟩
              try go_simp
              refine hK.out _ _ ?_ (fun hHeld => ?_)
              · exact ⟨(hHeld.1).old hb5, (hHeld.2.1).old hb5, (hHeld.2.2.1).old hb5, (hHeld.2.2.2.1).old hb5, (hHeld.2.2.2.2).trans ((hb5).mono (hHeld.2.2.2.2).size)⟩
              clear hK K
              try simp only [Act.put, List.setIfInBounds_toArray, List.set_cons_zero, List.set_cons_succ]
              refine wpAnyH_take (i := 12) (oi := ⟨some 38, _, _, _, _, _⟩) (v := ?_) rfl (by kernel_rfl) (by kernel_rfl) (by kernel_rfl) (fun _ _ _ h => h) (Or.inl ⟨by kernel_rfl, ?_⟩) hHeld ?_
              rotate_left
              · intro w1 hSw; (try dsimp only at hSw); go_simp <;> with_reducible rfl
              try simp only [Act.put, List.setIfInBounds_toArray, List.set_cons_zero, List.set_cons_succ]
              refine wpAnyH_take (i := 13) (oi := ⟨some 39, _, _, _, _, _⟩) (v := ?_) rfl (by kernel_rfl) (by kernel_rfl) (by kernel_rfl) (fun _ _ _ h => h) (Or.inl ⟨by kernel_rfl, ?_⟩) hHeld ?_
              rotate_left
              · intro w1 hSw; (try dsimp only at hSw); go_simp <;> with_reducible rfl
              try simp only [Act.put, List.setIfInBounds_toArray, List.set_cons_zero, List.set_cons_succ]
              refine wpAnyH_take (i := 14) (oi := ⟨some 7, _, _, _, _, _⟩) (v := ?_) rfl (by kernel_rfl) (by kernel_rfl) (by kernel_rfl) (fun _ _ _ h => h) (Or.inl ⟨by kernel_rfl, ?_⟩) hHeld ?_
              rotate_left
              · intro w1 hSw; (try dsimp only at hSw); go_simp <;> with_reducible rfl
              try simp only [Act.put, List.setIfInBounds_toArray, List.set_cons_zero, List.set_cons_succ]
              refine wpAnyH_done (by kernel_rfl) ?_ _
              have HQ : Hid (Row _ (w.heap.size) 34 [.int .i64 a, .int .i64 b, .int .i64 c, .int .i64 d, .int .i64 x, .int .i64 y] ∧ Row _ (w.heap.size + 1) 45 [.complex .f32 0 0, .complex .f32 0 0, .complex .f32 0 0, .complex .f32 0 0] ∧ Row _ g 45 (sampV R i) ∧ Below w.heap.size w _) := ⟨hHeld.1, hHeld.2.2.1, hHeld.2.2.2.1, hHeld.2.2.2.2⟩
              clear hHeld HT2
              go_wp2_with fail
              go_roundg 1
              case measure => omega
              case rel => exact .inr (.inl ⟨rfl, rfl, rfl, HQ.out⟩)
          ·
            go_simp
            refine hK.out _ _ ?_ (fun hHeld => ?_)
            · exact hHeld
            clear hK K
            try simp only [Act.put, List.setIfInBounds_toArray, List.set_cons_zero, List.set_cons_succ]
            refine wpAnyH_ready (rs := [4]) (by kernel_rfl) (by simp) ?_
            refine AllReadyH.cons rfl (fun K hK => ?_) (AllReadyH.nil)
            go_simp
            go_at_call 107
            refine (tone1_any a b c d x y _).mono ?_
            rintro e v4 ⟨rfl, hb4⟩
            try go_simp
            refine hK.out _ _ ?_ (fun hHeld => ?_)
            · exact ⟨(hHeld.1).old hb4, (hHeld.2.1).old hb4, (hHeld.2.2.1).old hb4, (hHeld.2.2.2.1).old hb4, (hHeld.2.2.2.2).trans ((hb4).mono (hHeld.2.2.2.2).size)⟩
            clear hK K
            try simp only [Act.put, List.setIfInBounds_toArray, List.set_cons_zero, List.set_cons_succ]
            refine wpAnyH_ready (rs := [5]) (by kernel_rfl) (by simp) ?_
            refine AllReadyH.cons rfl (fun K hK => ?_) (AllReadyH.nil)
            go_simp
            go_at_call 48
            refine (complex_any c d _).mono ?_
            rintro e v5 ⟨rfl, hb5⟩
            try go_simp
            refine hK.out _ _ ?_ (fun hHeld => ?_)
            · exact ⟨(hHeld.1).old hb5, (hHeld.2.1).old hb5, (hHeld.2.2.1).old hb5, (hHeld.2.2.2.1).old hb5, (hHeld.2.2.2.2).trans ((hb5).mono (hHeld.2.2.2.2).size)⟩
            clear hK K
            try simp only [Act.put, List.setIfInBounds_toArray, List.set_cons_zero, List.set_cons_succ]
            refine wpAnyH_take (i := 12) (oi := ⟨some 38, _, _, _, _, _⟩) (v := ?_) rfl (by kernel_rfl) (by kernel_rfl) (by kernel_rfl) (fun _ _ _ h => h) (Or.inl ⟨by kernel_rfl, ?_⟩) hHeld ?_
            rotate_left
            · intro w1 hSw; (try dsimp only at hSw); go_simp <;> with_reducible rfl
            try simp only [Act.put, List.setIfInBounds_toArray, List.set_cons_zero, List.set_cons_succ]
            refine wpAnyH_take (i := 13) (oi := ⟨some 39, _, _, _, _, _⟩) (v := ?_) rfl (by kernel_rfl) (by kernel_rfl) (by kernel_rfl) (fun _ _ _ h => h) (Or.inl ⟨by kernel_rfl, ?_⟩) hHeld ?_
            rotate_left
            · intro w1 hSw; (try dsimp only at hSw); go_simp <;> with_reducible rfl
            try simp only [Act.put, List.setIfInBounds_toArray, List.set_cons_zero, List.set_cons_succ]
            refine wpAnyH_take (i := 14) (oi := ⟨some 7, _, _, _, _, _⟩) (v := ?_) rfl (by kernel_rfl) (by kernel_rfl) (by kernel_rfl) (fun _ _ _ h => h) (Or.inl ⟨by kernel_rfl, ?_⟩) hHeld ?_
            rotate_left
            · intro w1 hSw; (try dsimp only at hSw); go_simp <;> with_reducible rfl
            try simp only [Act.put, List.setIfInBounds_toArray, List.set_cons_zero, List.set_cons_succ]
            refine wpAnyH_done (by kernel_rfl) ?_ _
            have HQ : Hid (Row _ (w.heap.size) 34 [.int .i64 a, .int .i64 b, .int .i64 c, .int .i64 d, .int .i64 x, .int .i64 y] ∧ Row _ (w.heap.size + 1) 45 [.complex .f32 0 0, .complex .f32 0 0, .complex .f32 0 0, .complex .f32 0 0] ∧ Row _ g 45 (sampV R i) ∧ Below w.heap.size w _) := ⟨hHeld.1, hHeld.2.2.1, hHeld.2.2.2.1, hHeld.2.2.2.2⟩
            clear hHeld HT2
            go_wp2_with fail
            go_roundg 1
            case measure => omega
            case rel => exact .inr (.inl ⟨rfl, rfl, rfl, HQ.out⟩)
        · have HG : Hid (w.heap.size + 1 < wr.heap.size) := Lib.hid (by have := HT.out.2.1.lt; omega)
          have HG2 : Hid (g < wr.heap.size) := Lib.hid HT.out.2.2.1.lt
          go_upto_region 12 with (refine wpList_store_row rfl 123 _ _ rfl wr.heap.size #[.int .i64 1, .int .i64 (-1), .int .i64 1, .int .i64 (-1), .func (.func 108) #[] #[]] rfl rfl 123 _ (Row.new wr 123 [.int .i64 0, .int .i64 0, .int .i64 0, .int .i64 0, .nilFunc]) ?_ ?_ ?_ ?_; (kernel_rfl); (rfl); (simp [Value.oneCell']))
          have hbn : Below wr.heap.size wr ((wr.alloc (.cells #[.int .i64 0, .int .i64 0, .int .i64 0, .int .i64 0, .nilFunc] 123)).setRow wr.heap.size #[.int .i64 1, .int .i64 (-1), .int .i64 1, .int .i64 (-1), .func (.func 108) #[] #[]]) := Below.setRow ((Below.refl _ _).alloc (Nat.le_refl _) _) (Nat.le_refl _) _
          refine genT (fun V => Row V (w.heap.size) 34 [.int .i64 a, .int .i64 b, .int .i64 c, .int .i64 d, .int .i64 x, .int .i64 y] ∧ Row V (wr.heap.size) 123 [.int .i64 1, .int .i64 (-1), .int .i64 1, .int .i64 (-1), .func (.func 108) #[] #[]] ∧ Row V (w.heap.size + 1) 45 [.complex .f32 0 0, .complex .f32 0 0, .complex .f32 0 0, .complex .f32 0 0] ∧ Row V g 45 (sampV R i) ∧ Below w.heap.size w V) ⟨HT.out.1.old hbn, (Row.new wr 123 [.int .i64 0, .int .i64 0, .int .i64 0, .int .i64 0, .nilFunc]).setRow _, HT.out.2.1.old hbn, HT.out.2.2.1.old hbn, HT.out.2.2.2.trans (hbn.mono HT.out.2.2.2.size)⟩ ?_
          clear hbn
          intro V2 s2
          have HT2 := Lib.hid s2
          clear s2 HT
          refine wp_region_held_drew (S := fun V => Row V (w.heap.size) 34 [.int .i64 a, .int .i64 b, .int .i64 c, .int .i64 d, .int .i64 x, .int .i64 y] ∧ Row V (wr.heap.size) 123 [.int .i64 1, .int .i64 (-1), .int .i64 1, .int .i64 (-1), .func (.func 108) #[] #[]] ∧ Row V (w.heap.size + 1) 45 [.complex .f32 0 0, .complex .f32 0 0, .complex .f32 0 0, .complex .f32 0 0] ∧ Row V g 45 (sampV R i) ∧ Below w.heap.size w V) (by kernel_rfl) ?_ (fun hHeld => ?_)
          · exact ⟨(HT2.out.1).drew, (HT2.out.2.1).drew, (HT2.out.2.2.1).drew, (HT2.out.2.2.2.1).drew, (HT2.out.2.2.2.2).drew⟩
          refine wpAnyH_take (i := 0) (oi := ⟨some 26, _, _, _, _, _⟩) (v := ?_) rfl (by kernel_rfl) (by kernel_rfl) (by kernel_rfl) (fun _ _ _ h => h) (Or.inl ⟨by kernel_rfl, ?_⟩) hHeld ?_
          rotate_left
          · intro w1 hSw; (try dsimp only at hSw); go_simp <;> with_reducible rfl
          try simp only [Act.put, List.setIfInBounds_toArray, List.set_cons_zero, List.set_cons_succ]
          refine wpAnyH_take (i := 1) (oi := ⟨some 27, _, _, _, _, _⟩) (v := ?_) rfl (by kernel_rfl) (by kernel_rfl) (by kernel_rfl) (fun _ _ _ h => h) (Or.inl ⟨by kernel_rfl, ?_⟩) hHeld ?_
          rotate_left
          · intro w1 hSw; (try dsimp only at hSw); go_simp <;> with_reducible rfl
          try simp only [Act.put, List.setIfInBounds_toArray, List.set_cons_zero, List.set_cons_succ]
          refine wpAnyH_take (i := 2) (oi := ⟨some 28, _, _, _, _, _⟩) (v := ?_) rfl (by kernel_rfl) (by kernel_rfl) (by kernel_rfl) (fun _ _ _ h => h) (Or.inl ⟨by kernel_rfl, ?_⟩) hHeld ?_
          rotate_left
          · intro w1 hSw; (try dsimp only at hSw); have cc := (hSw.2.1).cell 4; simp only [List.getElem?_cons_succ, List.getElem?_cons_zero] at cc; go_simp <;> with_reducible rfl
          try simp only [Act.put, List.setIfInBounds_toArray, List.set_cons_zero, List.set_cons_succ]
          refine wpAnyH_take (i := 3) (oi := ⟨some 29, _, _, _, _, _⟩) (v := .agg #[.int .i64 a, .int .i64 b, .int .i64 c, .int .i64 d, .int .i64 x, .int .i64 y]) rfl (by kernel_rfl) (by kernel_rfl) (by kernel_rfl) (fun _ _ _ h => h) (Or.inl ⟨by kernel_rfl, fun V hV => ex_rowT 34 _ rfl (w.heap.size) rfl 34 [.int .i64 a, .int .i64 b, .int .i64 c, .int .i64 d, .int .i64 x, .int .i64 y] _ Tryz.underlying34 rfl (by kernel_rfl) (hV.1)⟩) hHeld ?_
          try simp only [Act.put, List.setIfInBounds_toArray, List.set_cons_zero, List.set_cons_succ]
          refine wpAnyH_take (i := 6) (oi := ⟨some 32, _, _, _, _, _⟩) (v := ?_) rfl (by kernel_rfl) (by kernel_rfl) (by kernel_rfl) (fun _ _ _ h => h) (Or.inl ⟨by kernel_rfl, ?_⟩) hHeld ?_
          rotate_left
          · intro w1 hSw; (try dsimp only at hSw); go_simp <;> with_reducible rfl
          try simp only [Act.put, List.setIfInBounds_toArray, List.set_cons_zero, List.set_cons_succ]
          refine wpAnyH_take (i := 7) (oi := ⟨some 33, _, _, _, _, _⟩) (v := ?_) rfl (by kernel_rfl) (by kernel_rfl) (by kernel_rfl) (fun _ _ _ h => h) (Or.inl ⟨by kernel_rfl, ?_⟩) hHeld ?_
          rotate_left
          · intro w1 hSw; (try dsimp only at hSw); go_simp <;> with_reducible rfl
          try simp only [Act.put, List.setIfInBounds_toArray, List.set_cons_zero, List.set_cons_succ]
          refine wpAnyH_take (i := 8) (oi := ⟨some 34, _, _, _, _, _⟩) (v := ?_) rfl (by kernel_rfl) (by kernel_rfl) (by kernel_rfl) (fun _ _ _ h => h) (Or.inl ⟨by kernel_rfl, ?_⟩) hHeld ?_
          rotate_left
          · intro w1 hSw; (try dsimp only at hSw); go_simp <;> with_reducible rfl
          try simp only [Act.put, List.setIfInBounds_toArray, List.set_cons_zero, List.set_cons_succ]
          refine wpAnyH_take (i := 9) (oi := ⟨some 35, _, _, _, _, _⟩) (v := ?_) rfl (by kernel_rfl) (by kernel_rfl) (by kernel_rfl) (fun _ _ _ h => h) (Or.inl ⟨by kernel_rfl, ?_⟩) hHeld ?_
          rotate_left
          · intro w1 hSw; (try dsimp only at hSw); have cc := (hSw.2.1).cell i; rw [HH.out] at cc; go_simp <;> with_reducible rfl
          try simp only [Act.put, List.setIfInBounds_toArray, List.set_cons_zero, List.set_cons_succ]
          refine wpAnyH_take (i := 10) (oi := ⟨some 36, _, _, _, _, _⟩) (v := ?_) rfl (by kernel_rfl) (by kernel_rfl) (by kernel_rfl) (fun _ _ _ h => h) (Or.inl ⟨by kernel_rfl, ?_⟩) hHeld ?_
          rotate_left
          · intro w1 hSw; (try dsimp only at hSw); go_simp <;> with_reducible rfl
          try simp only [Act.put, List.setIfInBounds_toArray, List.set_cons_zero, List.set_cons_succ]
          refine wpAnyH_ready (rs := [4, 11]) (by kernel_rfl) (by simp) ?_
          refine AllReadyH.cons rfl (fun K hK => ?_) (AllReadyH.cons rfl (fun K hK => ?_) (AllReadyH.nil))
          ·
            go_simp
            go_at_call 108
            refine (tone2_any a b c d x y _).mono ?_
            rintro e v4 ⟨rfl, hb4⟩
            try go_simp
            refine hK.out _ _ ?_ (fun hHeld => ?_)
            · exact ⟨(hHeld.1).old hb4, (hHeld.2.1).old hb4, (hHeld.2.2.1).old hb4, (hHeld.2.2.2.1).old hb4, (hHeld.2.2.2.2).trans ((hb4).mono (hHeld.2.2.2.2).size)⟩
            clear hK K
            try simp only [Act.put, List.setIfInBounds_toArray, List.set_cons_zero, List.set_cons_succ]
            refine wpAnyH_ready (rs := [5, 11]) (by kernel_rfl) (by simp) ?_
            refine AllReadyH.cons rfl (fun K hK => ?_) (AllReadyH.cons rfl (fun K hK => ?_) (AllReadyH.nil))
            ·
              go_simp
              go_at_call 48
              refine (complex_any x y _).mono ?_
              rintro e v5 ⟨rfl, hb5⟩
              try go_simp
              refine hK.out _ _ ?_ (fun hHeld => ?_)
              · exact ⟨(hHeld.1).old hb5, (hHeld.2.1).old hb5, (hHeld.2.2.1).old hb5, (hHeld.2.2.2.1).old hb5, (hHeld.2.2.2.2).trans ((hb5).mono (hHeld.2.2.2.2).size)⟩
              clear hK K
              try simp only [Act.put, List.setIfInBounds_toArray, List.set_cons_zero, List.set_cons_succ]
              refine wpAnyH_ready (rs := [11]) (by kernel_rfl) (by simp) ?_
              refine AllReadyH.cons rfl (fun K hK => ?_) (AllReadyH.nil)
              go_simp
              refine hK.out _ _ ?_ (fun hHeld => ?_)
              · exact hHeld
              clear hK K
              try simp only [Act.put, List.setIfInBounds_toArray, List.set_cons_zero, List.set_cons_succ]
              refine wpAnyH_take (i := 12) (oi := ⟨some 38, _, _, _, _, _⟩) (v := ?_) rfl (by kernel_rfl) (by kernel_rfl) (by kernel_rfl) (fun _ _ _ h => h) (Or.inl ⟨by kernel_rfl, ?_⟩) hHeld ?_
              rotate_left
              · intro w1 hSw; (try dsimp only at hSw); go_simp <;> with_reducible rfl
              try simp only [Act.put, List.setIfInBounds_toArray, List.set_cons_zero, List.set_cons_succ]
              refine wpAnyH_take (i := 13) (oi := ⟨some 39, _, _, _, _, _⟩) (v := ?_) rfl (by kernel_rfl) (by kernel_rfl) (by kernel_rfl) (fun _ _ _ h => h) (Or.inl ⟨by kernel_rfl, ?_⟩) hHeld ?_
              rotate_left
              · intro w1 hSw; (try dsimp only at hSw); go_simp <;> with_reducible rfl
              try simp only [Act.put, List.setIfInBounds_toArray, List.set_cons_zero, List.set_cons_succ]
              refine wpAnyH_take (i := 14) (oi := ⟨some 7, _, _, _, _, _⟩) (v := ?_) rfl (by kernel_rfl) (by kernel_rfl) (by kernel_rfl) (fun _ _ _ h => h) (Or.inl ⟨by kernel_rfl, ?_⟩) hHeld ?_
              rotate_left
              · intro w1 hSw; (try dsimp only at hSw); go_simp <;> with_reducible rfl
              try simp only [Act.put, List.setIfInBounds_toArray, List.set_cons_zero, List.set_cons_succ]
              refine wpAnyH_done (by kernel_rfl) ?_ _
              have HQ : Hid (Row _ (w.heap.size) 34 [.int .i64 a, .int .i64 b, .int .i64 c, .int .i64 d, .int .i64 x, .int .i64 y] ∧ Row _ (w.heap.size + 1) 45 [.complex .f32 0 0, .complex .f32 0 0, .complex .f32 0 0, .complex .f32 0 0] ∧ Row _ g 45 (sampV R i) ∧ Below w.heap.size w _) := ⟨hHeld.1, hHeld.2.2.1, hHeld.2.2.2.1, hHeld.2.2.2.2⟩
              clear hHeld HT2
              go_wp2_with fail
              go_roundg 0
              case measure => omega
              case rel => exact .inr (.inr ⟨rfl, rfl, rfl, HQ.out⟩)
            ·
              go_simp
              refine hK.out _ _ ?_ (fun hHeld => ?_)
              · exact hHeld
              clear hK K
              try simp only [Act.put, List.setIfInBounds_toArray, List.set_cons_zero, List.set_cons_succ]
              refine wpAnyH_ready (rs := [5]) (by kernel_rfl) (by simp) ?_
              refine AllReadyH.cons rfl (fun K hK => ?_) (AllReadyH.nil)
              go_simp
              go_at_call 48
              refine (complex_any x y _).mono ?_
              rintro e v5 ⟨rfl, hb5⟩
              try go_simp
              refine hK.out _ _ ?_ (fun hHeld => ?_)
              · exact ⟨(hHeld.1).old hb5, (hHeld.2.1).old hb5, (hHeld.2.2.1).old hb5, (hHeld.2.2.2.1).old hb5, (hHeld.2.2.2.2).trans ((hb5).mono (hHeld.2.2.2.2).size)⟩
              clear hK K
              try simp only [Act.put, List.setIfInBounds_toArray, List.set_cons_zero, List.set_cons_succ]
              refine wpAnyH_take (i := 12) (oi := ⟨some 38, _, _, _, _, _⟩) (v := ?_) rfl (by kernel_rfl) (by kernel_rfl) (by kernel_rfl) (fun _ _ _ h => h) (Or.inl ⟨by kernel_rfl, ?_⟩) hHeld ?_
              rotate_left
              · intro w1 hSw; (try dsimp only at hSw); go_simp <;> with_reducible rfl
              try simp only [Act.put, List.setIfInBounds_toArray, List.set_cons_zero, List.set_cons_succ]
              refine wpAnyH_take (i := 13) (oi := ⟨some 39, _, _, _, _, _⟩) (v := ?_) rfl (by kernel_rfl) (by kernel_rfl) (by kernel_rfl) (fun _ _ _ h => h) (Or.inl ⟨by kernel_rfl, ?_⟩) hHeld ?_
              rotate_left
              · intro w1 hSw; (try dsimp only at hSw); go_simp <;> with_reducible rfl
              try simp only [Act.put, List.setIfInBounds_toArray, List.set_cons_zero, List.set_cons_succ]
              refine wpAnyH_take (i := 14) (oi := ⟨some 7, _, _, _, _, _⟩) (v := ?_) rfl (by kernel_rfl) (by kernel_rfl) (by kernel_rfl) (fun _ _ _ h => h) (Or.inl ⟨by kernel_rfl, ?_⟩) hHeld ?_
              rotate_left
              · intro w1 hSw; (try dsimp only at hSw); go_simp <;> with_reducible rfl
              try simp only [Act.put, List.setIfInBounds_toArray, List.set_cons_zero, List.set_cons_succ]
              refine wpAnyH_done (by kernel_rfl) ?_ _
              have HQ : Hid (Row _ (w.heap.size) 34 [.int .i64 a, .int .i64 b, .int .i64 c, .int .i64 d, .int .i64 x, .int .i64 y] ∧ Row _ (w.heap.size + 1) 45 [.complex .f32 0 0, .complex .f32 0 0, .complex .f32 0 0, .complex .f32 0 0] ∧ Row _ g 45 (sampV R i) ∧ Below w.heap.size w _) := ⟨hHeld.1, hHeld.2.2.1, hHeld.2.2.2.1, hHeld.2.2.2.2⟩
              clear hHeld HT2
              go_wp2_with fail
              go_roundg 0
              case measure => omega
              case rel => exact .inr (.inr ⟨rfl, rfl, rfl, HQ.out⟩)
          ·
            go_simp
            refine hK.out _ _ ?_ (fun hHeld => ?_)
            · exact hHeld
            clear hK K
            try simp only [Act.put, List.setIfInBounds_toArray, List.set_cons_zero, List.set_cons_succ]
            refine wpAnyH_ready (rs := [4]) (by kernel_rfl) (by simp) ?_
            refine AllReadyH.cons rfl (fun K hK => ?_) (AllReadyH.nil)
            go_simp
            go_at_call 108
            refine (tone2_any a b c d x y _).mono ?_
            rintro e v4 ⟨rfl, hb4⟩
            try go_simp
            refine hK.out _ _ ?_ (fun hHeld => ?_)
            · exact ⟨(hHeld.1).old hb4, (hHeld.2.1).old hb4, (hHeld.2.2.1).old hb4, (hHeld.2.2.2.1).old hb4, (hHeld.2.2.2.2).trans ((hb4).mono (hHeld.2.2.2.2).size)⟩
            clear hK K
            try simp only [Act.put, List.setIfInBounds_toArray, List.set_cons_zero, List.set_cons_succ]
            refine wpAnyH_ready (rs := [5]) (by kernel_rfl) (by simp) ?_
            refine AllReadyH.cons rfl (fun K hK => ?_) (AllReadyH.nil)
            go_simp
            go_at_call 48
            refine (complex_any x y _).mono ?_
            rintro e v5 ⟨rfl, hb5⟩
            try go_simp
            refine hK.out _ _ ?_ (fun hHeld => ?_)
            · exact ⟨(hHeld.1).old hb5, (hHeld.2.1).old hb5, (hHeld.2.2.1).old hb5, (hHeld.2.2.2.1).old hb5, (hHeld.2.2.2.2).trans ((hb5).mono (hHeld.2.2.2.2).size)⟩
            clear hK K
            try simp only [Act.put, List.setIfInBounds_toArray, List.set_cons_zero, List.set_cons_succ]
            refine wpAnyH_take (i := 12) (oi := ⟨some 38, _, _, _, _, _⟩) (v := ?_) rfl (by kernel_rfl) (by kernel_rfl) (by kernel_rfl) (fun _ _ _ h => h) (Or.inl ⟨by kernel_rfl, ?_⟩) hHeld ?_
            rotate_left
            · intro w1 hSw; (try dsimp only at hSw); go_simp <;> with_reducible rfl
            try simp only [Act.put, List.setIfInBounds_toArray, List.set_cons_zero, List.set_cons_succ]
            refine wpAnyH_take (i := 13) (oi := ⟨some 39, _, _, _, _, _⟩) (v := ?_) rfl (by kernel_rfl) (by kernel_rfl) (by kernel_rfl) (fun _ _ _ h => h) (Or.inl ⟨by kernel_rfl, ?_⟩) hHeld ?_
            rotate_left
            · intro w1 hSw; (try dsimp only at hSw); go_simp <;> with_reducible rfl
            try simp only [Act.put, List.setIfInBounds_toArray, List.set_cons_zero, List.set_cons_succ]
            refine wpAnyH_take (i := 14) (oi := ⟨some 7, _, _, _, _, _⟩) (v := ?_) rfl (by kernel_rfl) (by kernel_rfl) (by kernel_rfl) (fun _ _ _ h => h) (Or.inl ⟨by kernel_rfl, ?_⟩) hHeld ?_
            rotate_left
            · intro w1 hSw; (try dsimp only at hSw); go_simp <;> with_reducible rfl
            try simp only [Act.put, List.setIfInBounds_toArray, List.set_cons_zero, List.set_cons_succ]
            refine wpAnyH_done (by kernel_rfl) ?_ _
            have HQ : Hid (Row _ (w.heap.size) 34 [.int .i64 a, .int .i64 b, .int .i64 c, .int .i64 d, .int .i64 x, .int .i64 y] ∧ Row _ (w.heap.size + 1) 45 [.complex .f32 0 0, .complex .f32 0 0, .complex .f32 0 0, .complex .f32 0 0] ∧ Row _ g 45 (sampV R i) ∧ Below w.heap.size w _) := ⟨hHeld.1, hHeld.2.2.1, hHeld.2.2.2.1, hHeld.2.2.2.2⟩
            clear hHeld HT2
            go_wp2_with fail
            go_roundg 0
            case measure => omega
            case rel => exact .inr (.inr ⟨rfl, rfl, rfl, HQ.out⟩)
        · have cc := HT.out.2.2.1.cell i; have hl4 : i < (sampV R i).length := by rw [sampV_len]; omega
          rw [List.getElem?_eq_getElem hl4] at cc
          have ff := HT.out.2.2.1.free i
          go_wp2_with fail
          go_roundw
          case rel => exact ⟨i + 1, by omega, by go_num, HT.out.1.far (by dsimp only; omega) _, HT.out.2.1.far (by dsimp only; omega) _, by rw [show sampV R (i + 1) = (sampV R i).set i (.complex .f32 r1 r2) from by show (sampV R i).set i (.complex .f32 (R i).1 (R i).2) = _; rw [← HRI.out]]; exact HT.out.2.2.1.set i _, HT.out.2.2.2.setCell (by dsimp only; omega) _⟩
          case measure => simp [intOf]; omega
    · obtain rfl : i = 4 := by omega
      have hr0 := HR.out.2.1
      have hbw := HR.out.2.2.2
      have hV : sampV R 4 = [.complex .f32 (R 0).1 (R 0).2, .complex .f32 (R 1).1 (R 1).2, .complex .f32 (R 2).1 (R 2).2, .complex .f32 (R 3).1 (R 3).2] := rfl
      obtain ⟨⟨p0, q0⟩, e0⟩ : ∃ p, p = R 0 := ⟨_, rfl⟩
      obtain ⟨⟨p1, q1⟩, e1⟩ : ∃ p, p = R 1 := ⟨_, rfl⟩
      obtain ⟨⟨p2, q2⟩, e2⟩ : ∃ p, p = R 2 := ⟨_, rfl⟩
      obtain ⟨⟨p3, q3⟩, e3⟩ : ∃ p, p = R 3 := ⟨_, rfl⟩
      rw [← e0, ← e1, ← e2, ← e3] at hV
      have hRg := HR.out.2.2.1
      rw [hV] at hRg
      dsimp only at hV hRg
      have HVE := Lib.hid hV
      clear hV HR e0 e1 e2 e3
      have HRG := Lib.hid hRg
      clear hRg
      go_wp2_with (first
        | (refine wpList_store_row rfl 45 _ _ rfl (w.heap.size + 1) #[.complex .f32 p0 q0, .complex .f32 p1 q1, .complex .f32 p2 q2, .complex .f32 p3 q3] rfl rfl 45 _ hr0 ?_ ?_ ?_ ?_; (kernel_rfl); (rfl); (simp [Value.oneCell']))
        | (refine wpList_load_row rfl 45 _ rfl g rfl 45 #[.complex .f32 p0 q0, .complex .f32 p1 q1, .complex .f32 p2 q2, .complex .f32 p3 q3] (0, 0) _ HRG.out Tryz.underlying45 rfl ?_ ?_; (kernel_rfl)))
      refine bodyPost_ret (results_rt rfl _ _ (w.heap.size + 1) 45 #[.complex .f32 p0 q0, .complex .f32 p1 q1, .complex .f32 p2 q2, .complex .f32 p3 q3] (0, 0) _ rfl (hr0.setRow [.complex .f32 p0 q0, .complex .f32 p1 q1, .complex .f32 p2 q2, .complex .f32 p3 q3]) Tryz.underlying45 rfl (by kernel_rfl)) rfl ⟨by rw [HVE.out]; rfl, Below.setRow hbw (by omega) _⟩
end Go.Proofs.YtlflfieknibgmaaGreatDoor
