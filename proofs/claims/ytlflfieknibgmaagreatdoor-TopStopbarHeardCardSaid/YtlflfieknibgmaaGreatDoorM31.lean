import Derived.Test.YtlflfieknibgmaaGreatDoorM30
namespace Go.Proofs.YtlflfieknibgmaaGreatDoor
set_option linter.all false
open Go.RowKit Go.Fl
def Mad (x y : Nat) (f : Int) (s t : Nat × Nat) : Prop := ∃ k l, (∀ w, (binOp .mul 118 (.complex .f64 x y) (.complex .f64 (floatOfInt .f64 f) 0)).run Tryz.prog w = .ok (.complex .f64 k l) w) ∧ ∀ w, (binOp .add 118 (.complex .f64 s.1 s.2) (.complex .f64 k l)).run Tryz.prog w = .ok (.complex .f64 t.1 t.2) w
def mixP (s m : P4) : Nat → List Value
  | 0 => s.L64
  | 1 => [.complex .f64 m.a.1 m.a.2, .complex .f64 s.b.1 s.b.2, .complex .f64 s.c.1 s.c.2, .complex .f64 s.d.1 s.d.2]
  | 2 => [.complex .f64 m.a.1 m.a.2, .complex .f64 m.b.1 m.b.2, .complex .f64 s.c.1 s.c.2, .complex .f64 s.d.1 s.d.2]
  | 3 => [.complex .f64 m.a.1 m.a.2, .complex .f64 m.b.1 m.b.2, .complex .f64 m.c.1 m.c.2, .complex .f64 s.d.1 s.d.2]
  | _ => m.L64
structure PartOk (p : P4) (Q : Nat → P4) : Prop where
  zero : Q 0 = ⟨(0, 0), (0, 0), (0, 0), (0, 0)⟩
  at' : ∀ t, t < 4 → ∃ x y fl fh, p.L64[t]? = some (.complex .f64 x y) ∧ ([.int .i64 1, .int .i64 1, .int .i64 (-1), .int .i64 (-1)] : List Value)[t]? = some (.int .i64 fl) ∧ ([.int .i64 1, .int .i64 (-1), .int .i64 1, .int .i64 (-1)] : List Value)[t]? = some (.int .i64 fh) ∧ (fl = 1 ∨ fl = -1) ∧ (fh = 1 ∨ fh = -1) ∧ Mad x y 1 (Q t).a (Q (t + 1)).a ∧ Mad x y fl (Q t).b (Q (t + 1)).b ∧ Mad x y fh (Q t).c (Q (t + 1)).c ∧ Mad x y (fl * fh) (Q t).d (Q (t + 1)).d
set_option maxRecDepth 100000 in
set_option maxHeartbeats 8000000 in
theorem parted_by (p : P4) (Q : Nat → P4) (w : World) (hQ : PartOk p Q) : Calls Tryz.prog 112 #[.agg p.L64.toArray] w fun e w' => e = .returned (.agg (Q 4).L64.toArray) ∧ Below w.heap.size w w' := by
  have HQ := Lib.hid hQ
  clear hQ
  obtain ⟨⟨a1, a2⟩, ⟨b1, b2⟩, ⟨c1, c2⟩, ⟨d1, d2⟩⟩ := p
  rw [show (P4.L64 ⟨(a1, a2), (b1, b2), (c1, c2), (d1, d2)⟩).toArray = #[.complex .f64 a1 a2, .complex .f64 b1 b2, .complex .f64 c1 c2, .complex .f64 d1 d2] from rfl]
  have hi0 : ∀ w, (Instr.index 124 (.agg #[.int .i64 1, .int .i64 1, .int .i64 (-1), .int .i64 (-1), .func (.func 107) #[] #[], .int .i64 1, .int .i64 (-1), .int .i64 1, .int .i64 (-1), .func (.func 108) #[] #[]]) (.int .i64 0)).run Tryz.prog w = .ok (.agg #[.int .i64 1, .int .i64 1, .int .i64 (-1), .int .i64 (-1), .func (.func 107) #[] #[]]) w := fun w => by kernel_rfl
  have hi1 : ∀ w, (Instr.index 124 (.agg #[.int .i64 1, .int .i64 1, .int .i64 (-1), .int .i64 (-1), .func (.func 107) #[] #[], .int .i64 1, .int .i64 (-1), .int .i64 1, .int .i64 (-1), .func (.func 108) #[] #[]]) (.int .i64 1)).run Tryz.prog w = .ok (.agg #[.int .i64 1, .int .i64 (-1), .int .i64 1, .int .i64 (-1), .func (.func 108) #[] #[]]) w := fun w => by kernel_rfl
  have hf0 : ∀ w, (Instr.field 123 (.agg #[.int .i64 1, .int .i64 1, .int .i64 (-1), .int .i64 (-1), .func (.func 107) #[] #[]]) 0).run Tryz.prog w = .ok (.agg #[.int .i64 1, .int .i64 1, .int .i64 (-1), .int .i64 (-1)]) w := fun w => by kernel_rfl
  have hf1 : ∀ w, (Instr.field 123 (.agg #[.int .i64 1, .int .i64 (-1), .int .i64 1, .int .i64 (-1), .func (.func 108) #[] #[]]) 0).run Tryz.prog w = .ok (.agg #[.int .i64 1, .int .i64 (-1), .int .i64 1, .int .i64 (-1)]) w := fun w => by kernel_rfl
  have HA0 : Hid (Row ((w.alloc (.cells #[.complex .f64 a1 a2, .complex .f64 b1 b2, .complex .f64 c1 c2, .complex .f64 d1 d2] 129)).alloc (.cells #[.complex .f64 0 0, .complex .f64 0 0, .complex .f64 0 0, .complex .f64 0 0] 129)) w.heap.size 129 [.complex .f64 a1 a2, .complex .f64 b1 b2, .complex .f64 c1 c2, .complex .f64 d1 d2] ∧ Row ((w.alloc (.cells #[.complex .f64 a1 a2, .complex .f64 b1 b2, .complex .f64 c1 c2, .complex .f64 d1 d2] 129)).alloc (.cells #[.complex .f64 0 0, .complex .f64 0 0, .complex .f64 0 0, .complex .f64 0 0] 129)) (w.heap.size + 1) 129 [.complex .f64 0 0, .complex .f64 0 0, .complex .f64 0 0, .complex .f64 0 0] ∧ Below w.heap.size w ((w.alloc (.cells #[.complex .f64 a1 a2, .complex .f64 b1 b2, .complex .f64 c1 c2, .complex .f64 d1 d2] 129)).alloc (.cells #[.complex .f64 0 0, .complex .f64 0 0, .complex .f64 0 0, .complex .f64 0 0] 129))) := ⟨(rowAt w w.heap.size rfl).alloc _, rowAt _ _ (by simp), ((Below.refl _ _).alloc (Nat.le_refl _) _).alloc (by simp) _⟩
  go_enter Tryz.func112, Tryz.ntmps112
  go_wp2_with fail
  refine (tones_any _).mono ?_
  rintro e w2 ⟨rfl, hb2⟩
  have HA2 : Hid (Row w2 w.heap.size 129 [.complex .f64 a1 a2, .complex .f64 b1 b2, .complex .f64 c1 c2, .complex .f64 d1 d2] ∧ Row w2 (w.heap.size + 1) 129 [.complex .f64 0 0, .complex .f64 0 0, .complex .f64 0 0, .complex .f64 0 0] ∧ Below w.heap.size w w2) := ⟨HA0.out.1.old hb2, HA0.out.2.1.old hb2, HA0.out.2.2.trans (hb2.mono HA0.out.2.2.size)⟩
  clear hb2 HA0
  go_wp2_with fail
  refine (tones_any _).mono ?_
  rintro e w3 ⟨rfl, hb3⟩
  have HA3 : Hid (Row w3 w.heap.size 129 [.complex .f64 a1 a2, .complex .f64 b1 b2, .complex .f64 c1 c2, .complex .f64 d1 d2] ∧ Row w3 (w.heap.size + 1) 129 [.complex .f64 0 0, .complex .f64 0 0, .complex .f64 0 0, .complex .f64 0 0] ∧ Below w.heap.size w w3) := ⟨HA2.out.1.old hb3, HA2.out.2.1.old hb3, HA2.out.2.2.trans (hb3.mono HA2.out.2.2.size)⟩
  clear hb3 HA2
  go_upto_region 3 with fail
  obtain ⟨g, hg⟩ : ∃ g, g = w3.heap.size := ⟨_, rfl⟩
  have hgz : w.heap.size + 1 < g := by have := HA3.out.2.1.lt; omega
  refine genT (fun V => Row V (g + 1 + 1) 129 [.complex .f64 0 0, .complex .f64 0 0, .complex .f64 0 0, .complex .f64 0 0] ∧ Row V w.heap.size 129 [.complex .f64 a1 a2, .complex .f64 b1 b2, .complex .f64 c1 c2, .complex .f64 d1 d2] ∧ Row V (w.heap.size + 1) 129 [.complex .f64 0 0, .complex .f64 0 0, .complex .f64 0 0, .complex .f64 0 0] ∧ Row V g 120 [.int .i64 1, .int .i64 1, .int .i64 (-1), .int .i64 (-1)] ∧ Row V (g + 1) 120 [.int .i64 1, .int .i64 (-1), .int .i64 1, .int .i64 (-1)] ∧ Below w.heap.size w V) ⟨rowAt _ _ (by simp [hg]), ((HA3.out.1.alloc _).alloc _).alloc _, ((HA3.out.2.1.alloc _).alloc _).alloc _, ((rowAt _ _ (by simp [hg])).alloc _).alloc _, (rowAt _ _ (by simp [hg])).alloc _, ((HA3.out.2.2.alloc HA3.out.2.2.size _).alloc (by have := HA3.out.2.2.size; simp; omega) _).alloc (by have := HA3.out.2.2.size; simp; omega) _⟩ ?_
  rw [← hg]
  intro W0 s0
  have HS0 : Hid (Row W0 (g + 1 + 1) 129 (Q 0).L64 ∧ Row W0 w.heap.size 129 [.complex .f64 a1 a2, .complex .f64 b1 b2, .complex .f64 c1 c2, .complex .f64 d1 d2] ∧ Row W0 (w.heap.size + 1) 129 [.complex .f64 0 0, .complex .f64 0 0, .complex .f64 0 0, .complex .f64 0 0] ∧ Row W0 g 120 [.int .i64 1, .int .i64 1, .int .i64 (-1), .int .i64 (-1)] ∧ Row W0 (g + 1) 120 [.int .i64 1, .int .i64 (-1), .int .i64 1, .int .i64 (-1)] ∧ Below w.heap.size w W0) := by rw [HQ.out.zero]; exact s0
  clear s0 HA3 hg
  go_wp2
  go_loopw [15] (fun i wr => ∃ t : Nat, t ≤ 4 ∧ i = .int .i64 t ∧ Hid (Row wr (g + 1 + 1) 129 (Q t).L64 ∧ Row wr w.heap.size 129 [.complex .f64 a1 a2, .complex .f64 b1 b2, .complex .f64 c1 c2, .complex .f64 d1 d2] ∧ Row wr (w.heap.size + 1) 129 [.complex .f64 0 0, .complex .f64 0 0, .complex .f64 0 0, .complex .f64 0 0] ∧ Row wr g 120 [.int .i64 1, .int .i64 1, .int .i64 (-1), .int .i64 (-1)] ∧ Row wr (g + 1) 120 [.int .i64 1, .int .i64 (-1), .int .i64 1, .int .i64 (-1)] ∧ Below w.heap.size w wr)) (fun i _ => 4 - (intOf i).toNat)
  case atStart => exact ⟨0, by omega, rfl, HS0.out⟩
  case round =>
    clear HS0
    obtain ⟨t, ht, rfl, HR⟩ := hrel
    by_cases hlt : t < 4
    · obtain ⟨x1, x2, fl, fh, hp, hl, hh, hfl, hfh, ⟨k1, l1, m1f, a1f⟩, ⟨k2, l2, m2f, a2f⟩, ⟨k3, l3, m3f, a3f⟩, ⟨k4, l4, m4f, a4f⟩⟩ := HQ.out.at' t hlt
      have HP : Hid (([.complex .f64 a1 a2, .complex .f64 b1 b2, .complex .f64 c1 c2, .complex .f64 d1 d2] : List Value)[t]? = some (.complex .f64 x1 x2)) := hp
      have HL := Lib.hid hl; have HH := Lib.hid hh
      obtain ⟨fp, hfp⟩ : ∃ fp, fp = fl * fh := ⟨_, rfl⟩
      have ew : IntKind.i64.wrap (fl * fh) = fp := by rw [hfp]; rcases hfl with rfl | rfl <;> rcases hfh with rfl | rfl <;> rfl
      rw [← hfp] at m4f
      obtain ⟨⟨⟨s1, s2⟩, ⟨t1, t2⟩, ⟨u1, u2⟩, ⟨v1, v2⟩⟩, hs⟩ : ∃ p, p = Q t := ⟨_, rfl⟩
      obtain ⟨⟨⟨m1, m2⟩, ⟨n1, n2⟩, ⟨o1, o2⟩, ⟨p1, p2⟩⟩, hq⟩ : ∃ p, p = Q (t + 1) := ⟨_, rfl⟩
      have HQT := Lib.hid hq
      rw [← hs] at a1f a2f a3f a4f HR
      rw [← hq] at a1f a2f a3f a4f
      dsimp only at a1f a2f a3f a4f
      have HR0 : Hid (Row wr (g + 1 + 1) 129 [.complex .f64 s1 s2, .complex .f64 t1 t2, .complex .f64 u1 u2, .complex .f64 v1 v2] ∧ Row wr w.heap.size 129 [.complex .f64 a1 a2, .complex .f64 b1 b2, .complex .f64 c1 c2, .complex .f64 d1 d2] ∧ Row wr (w.heap.size + 1) 129 [.complex .f64 0 0, .complex .f64 0 0, .complex .f64 0 0, .complex .f64 0 0] ∧ Row wr g 120 [.int .i64 1, .int .i64 1, .int .i64 (-1), .int .i64 (-1)] ∧ Row wr (g + 1) 120 [.int .i64 1, .int .i64 (-1), .int .i64 1, .int .i64 (-1)] ∧ Below w.heap.size w wr) := HR.out
      clear hp hl hh hfp hfl hfh hs hq HR
      go_upto_region 6 with fail
      refine genT (fun V => Row V (g + 1 + 1) 129 [.complex .f64 s1 s2, .complex .f64 t1 t2, .complex .f64 u1 u2, .complex .f64 v1 v2] ∧ Row V w.heap.size 129 [.complex .f64 a1 a2, .complex .f64 b1 b2, .complex .f64 c1 c2, .complex .f64 d1 d2] ∧ Row V (w.heap.size + 1) 129 [.complex .f64 0 0, .complex .f64 0 0, .complex .f64 0 0, .complex .f64 0 0] ∧ Row V g 120 [.int .i64 1, .int .i64 1, .int .i64 (-1), .int .i64 (-1)] ∧ Row V (g + 1) 120 [.int .i64 1, .int .i64 (-1), .int .i64 1, .int .i64 (-1)] ∧ Below w.heap.size w V) HR0.out ?_
      intro W1 s1
      have HS1 := Lib.hid s1
      clear s1 HR0
      refine wp_region_held_drew (S := fun V => Row V (g + 1 + 1) 129 [.complex .f64 s1 s2, .complex .f64 t1 t2, .complex .f64 u1 u2, .complex .f64 v1 v2] ∧ Row V w.heap.size 129 [.complex .f64 a1 a2, .complex .f64 b1 b2, .complex .f64 c1 c2, .complex .f64 d1 d2] ∧ Row V (w.heap.size + 1) 129 [.complex .f64 0 0, .complex .f64 0 0, .complex .f64 0 0, .complex .f64 0 0] ∧ Row V g 120 [.int .i64 1, .int .i64 1, .int .i64 (-1), .int .i64 (-1)] ∧ Row V (g + 1) 120 [.int .i64 1, .int .i64 (-1), .int .i64 1, .int .i64 (-1)] ∧ Below w.heap.size w V) (by kernel_rfl) ?_ (fun hHeld => ?_)
      · exact ⟨(HS1.out.1).drew, (HS1.out.2.1).drew, (HS1.out.2.2.1).drew, (HS1.out.2.2.2.1).drew, (HS1.out.2.2.2.2.1).drew, (HS1.out.2.2.2.2.2).drew⟩
      refine wpAnyH_take (i := 0) (oi := ⟨some 18, _, _, _, _, _⟩) (v := ?_) rfl (by kernel_rfl) (by kernel_rfl) (by kernel_rfl) (fun _ _ _ h => h) (Or.inl ⟨by kernel_rfl, ?_⟩) hHeld ?_
      rotate_left
      · intro w1 hSw; (try dsimp only at hSw); go_simp <;> with_reducible rfl
      try simp only [Act.put, List.setIfInBounds_toArray, List.set_cons_zero, List.set_cons_succ]
      refine wpAnyH_take (i := 1) (oi := ⟨some 19, _, _, _, _, _⟩) (v := ?_) rfl (by kernel_rfl) (by kernel_rfl) (by kernel_rfl) (fun _ _ _ h => h) (Or.inl ⟨by kernel_rfl, ?_⟩) hHeld ?_
      rotate_left
      · intro w1 hSw; (try dsimp only at hSw); go_simp <;> with_reducible rfl
      try simp only [Act.put, List.setIfInBounds_toArray, List.set_cons_zero, List.set_cons_succ]
      refine wpAnyH_take (i := 2) (oi := ⟨some 20, _, _, _, _, _⟩) (v := ?_) rfl (by kernel_rfl) (by kernel_rfl) (by kernel_rfl) (fun _ _ _ h => h) (Or.inl ⟨by kernel_rfl, ?_⟩) hHeld ?_
      rotate_left
      · intro w1 hSw; (try dsimp only at hSw); have cc := (hSw.2.2.2.1).cell t; rw [HL.out] at cc; go_simp <;> with_reducible rfl
      try simp only [Act.put, List.setIfInBounds_toArray, List.set_cons_zero, List.set_cons_succ]
      refine wpAnyH_take (i := 3) (oi := ⟨some 21, _, _, _, _, _⟩) (v := ?_) rfl (by kernel_rfl) (by kernel_rfl) (by kernel_rfl) (fun _ _ _ h => h) (Or.inl ⟨by kernel_rfl, ?_⟩) hHeld ?_
      rotate_left
      · intro w1 hSw; (try dsimp only at hSw); go_simp <;> with_reducible rfl
      try simp only [Act.put, List.setIfInBounds_toArray, List.set_cons_zero, List.set_cons_succ]
      refine wpAnyH_take (i := 4) (oi := ⟨some 22, _, _, _, _, _⟩) (v := ?_) rfl (by kernel_rfl) (by kernel_rfl) (by kernel_rfl) (fun _ _ _ h => h) (Or.inl ⟨by kernel_rfl, ?_⟩) hHeld ?_
      rotate_left
      · intro w1 hSw; (try dsimp only at hSw); go_simp <;> with_reducible rfl
      try simp only [Act.put, List.setIfInBounds_toArray, List.set_cons_zero, List.set_cons_succ]
      refine wpAnyH_take (i := 5) (oi := ⟨some 23, _, _, _, _, _⟩) (v := ?_) rfl (by kernel_rfl) (by kernel_rfl) (by kernel_rfl) (fun _ _ _ h => h) (Or.inl ⟨by kernel_rfl, ?_⟩) hHeld ?_
      rotate_left
      · intro w1 hSw; (try dsimp only at hSw); have cc := (hSw.2.2.2.2.1).cell t; rw [HH.out] at cc; go_simp <;> with_reducible rfl
      try simp only [Act.put, List.setIfInBounds_toArray, List.set_cons_zero, List.set_cons_succ]
      refine wpAnyH_take (i := 6) (oi := ⟨some 24, _, _, _, _, _⟩) (v := ?_) rfl (by kernel_rfl) (by kernel_rfl) (by kernel_rfl) (fun _ _ _ h => h) (Or.inl ⟨by kernel_rfl, ?_⟩) hHeld ?_
      rotate_left
      · intro w1 hSw; (try dsimp only at hSw); go_simp <;> with_reducible rfl
      try simp only [Act.put, List.setIfInBounds_toArray, List.set_cons_zero, List.set_cons_succ]
      refine wpAnyH_take (i := 7) (oi := ⟨some 25, _, _, _, _, _⟩) (v := ?_) rfl (by kernel_rfl) (by kernel_rfl) (by kernel_rfl) (fun _ _ _ h => h) (Or.inl ⟨by kernel_rfl, ?_⟩) hHeld ?_
      rotate_left
      · intro w1 hSw; (try dsimp only at hSw); go_simp <;> with_reducible rfl
      try simp only [Act.put, List.setIfInBounds_toArray, List.set_cons_zero, List.set_cons_succ]
      refine wpAnyH_take (i := 8) (oi := ⟨some 26, _, _, _, _, _⟩) (v := ?_) rfl (by kernel_rfl) (by kernel_rfl) (by kernel_rfl) (fun _ _ _ h => h) (Or.inl ⟨by kernel_rfl, ?_⟩) hHeld ?_
      rotate_left
      · intro w1 hSw; (try dsimp only at hSw); have cc := (hSw.2.2.2.1).cell t; rw [HL.out] at cc; go_simp <;> with_reducible rfl
      try simp only [Act.put, List.setIfInBounds_toArray, List.set_cons_zero, List.set_cons_succ]
      refine wpAnyH_take (i := 9) (oi := ⟨some 27, _, _, _, _, _⟩) (v := ?_) rfl (by kernel_rfl) (by kernel_rfl) (by kernel_rfl) (fun _ _ _ h => h) (Or.inl ⟨by kernel_rfl, ?_⟩) hHeld ?_
      rotate_left
      · intro w1 hSw; (try dsimp only at hSw); go_simp <;> with_reducible rfl
      try simp only [Act.put, List.setIfInBounds_toArray, List.set_cons_zero, List.set_cons_succ]
      refine wpAnyH_take (i := 10) (oi := ⟨some 28, _, _, _, _, _⟩) (v := ?_) rfl (by kernel_rfl) (by kernel_rfl) (by kernel_rfl) (fun _ _ _ h => h) (Or.inl ⟨by kernel_rfl, ?_⟩) hHeld ?_
      rotate_left
      · intro w1 hSw; (try dsimp only at hSw); go_simp <;> with_reducible rfl
      try simp only [Act.put, List.setIfInBounds_toArray, List.set_cons_zero, List.set_cons_succ]
      refine wpAnyH_take (i := 11) (oi := ⟨some 29, _, _, _, _, _⟩) (v := ?_) rfl (by kernel_rfl) (by kernel_rfl) (by kernel_rfl) (fun _ _ _ h => h) (Or.inl ⟨by kernel_rfl, ?_⟩) hHeld ?_
      rotate_left
      · intro w1 hSw; (try dsimp only at hSw); have cc := (hSw.2.2.2.2.1).cell t; rw [HH.out] at cc; go_simp <;> with_reducible rfl
      try simp only [Act.put, List.setIfInBounds_toArray, List.set_cons_zero, List.set_cons_succ]
      refine wpAnyH_take (i := 12) (oi := ⟨some 30, _, _, _, _, _⟩) (v := ?_) rfl (by kernel_rfl) (by kernel_rfl) (by kernel_rfl) (fun _ _ _ h => h) (Or.inl ⟨by kernel_rfl, ?_⟩) hHeld ?_
      rotate_left
      · intro w1 hSw; go_simp <;> with_reducible rfl
      try simp only [Act.put, List.setIfInBounds_toArray, List.set_cons_zero, List.set_cons_succ]
      refine wpAnyH_take (i := 13) (oi := ⟨some 31, _, _, _, _, _⟩) (v := ?_) rfl (by kernel_rfl) (by kernel_rfl) (by kernel_rfl) (fun _ _ _ h => h) (Or.inl ⟨by kernel_rfl, ?_⟩) hHeld ?_
      rotate_left
      · intro w1 hSw; (try dsimp only at hSw); go_simp <;> with_reducible rfl
      try simp only [Act.put, List.setIfInBounds_toArray, List.set_cons_zero, List.set_cons_succ]
      refine wpAnyH_take (i := 14) (oi := ⟨some 32, _, _, _, _, _⟩) (v := ?_) rfl (by kernel_rfl) (by kernel_rfl) (by kernel_rfl) (fun _ _ _ h => h) (Or.inl ⟨by kernel_rfl, ?_⟩) hHeld ?_
      rotate_left
      · intro w1 hSw; (try dsimp only at hSw); go_simp <;> with_reducible rfl
      try simp only [Act.put, List.setIfInBounds_toArray, List.set_cons_zero, List.set_cons_succ]
      refine wpAnyH_done (by kernel_rfl) ?_ _
      have HT0 := Lib.hid hHeld
      clear hHeld HS1
      have hi0 : ∀ w, (Instr.index 120 (.agg #[.int .i64 1, .int .i64 fl, .int .i64 fh, .int .i64 fp]) (.int .i64 0)).run Tryz.prog w = .ok (.int .i64 1) w := fun w => by kernel_rfl
      have hi1 : ∀ w, (Instr.index 120 (.agg #[.int .i64 1, .int .i64 fl, .int .i64 fh, .int .i64 fp]) (.int .i64 1)).run Tryz.prog w = .ok (.int .i64 fl) w := fun w => by kernel_rfl
      have hi2 : ∀ w, (Instr.index 120 (.agg #[.int .i64 1, .int .i64 fl, .int .i64 fh, .int .i64 fp]) (.int .i64 2)).run Tryz.prog w = .ok (.int .i64 fh) w := fun w => by kernel_rfl
      have hi3 : ∀ w, (Instr.index 120 (.agg #[.int .i64 1, .int .i64 fl, .int .i64 fh, .int .i64 fp]) (.int .i64 3)).run Tryz.prog w = .ok (.int .i64 fp) w := fun w => by kernel_rfl
      go_wp2
      try rw [show decide ((t : Int) < 4) = true from decide_eq_true (by omega)]
      go_loopw [32] (fun u wx => ∃ j : Nat, j ≤ 4 ∧ u = .int .i64 j ∧ Hid (Row wx (g + 1 + 1) 129 (mixP ⟨(s1, s2), (t1, t2), (u1, u2), (v1, v2)⟩ ⟨(m1, m2), (n1, n2), (o1, o2), (p1, p2)⟩ j) ∧ Row wx w.heap.size 129 [.complex .f64 a1 a2, .complex .f64 b1 b2, .complex .f64 c1 c2, .complex .f64 d1 d2] ∧ Row wx (w.heap.size + 1) 129 [.complex .f64 0 0, .complex .f64 0 0, .complex .f64 0 0, .complex .f64 0 0] ∧ Row wx g 120 [.int .i64 1, .int .i64 1, .int .i64 (-1), .int .i64 (-1)] ∧ Row wx (g + 1) 120 [.int .i64 1, .int .i64 (-1), .int .i64 1, .int .i64 (-1)] ∧ Below w.heap.size w wx)) (fun u _ => 4 - (intOf u).toNat)
      case atStart => exact ⟨0, by omega, rfl, HT0.out⟩
      case round =>
        clear HT0
        obtain ⟨j, hj, rfl, HJ⟩ := hrel
        have hjj : j = 0 ∨ j = 1 ∨ j = 2 ∨ j = 3 ∨ j = 4 := by omega
        rcases hjj with rfl | rfl | rfl | rfl | rfl
        · have HT0 : Hid (Row wr (g + 1 + 1) 129 [.complex .f64 s1 s2, .complex .f64 t1 t2, .complex .f64 u1 u2, .complex .f64 v1 v2] ∧ Row wr w.heap.size 129 [.complex .f64 a1 a2, .complex .f64 b1 b2, .complex .f64 c1 c2, .complex .f64 d1 d2] ∧ Row wr (w.heap.size + 1) 129 [.complex .f64 0 0, .complex .f64 0 0, .complex .f64 0 0, .complex .f64 0 0] ∧ Row wr g 120 [.int .i64 1, .int .i64 1, .int .i64 (-1), .int .i64 (-1)] ∧ Row wr (g + 1) 120 [.int .i64 1, .int .i64 (-1), .int .i64 1, .int .i64 (-1)] ∧ Below w.heap.size w wr) := HJ.out
          clear HJ
          go_upto_region 9 with fail
          refine genT (fun V => Row V (g + 1 + 1) 129 [.complex .f64 s1 s2, .complex .f64 t1 t2, .complex .f64 u1 u2, .complex .f64 v1 v2] ∧ Row V w.heap.size 129 [.complex .f64 a1 a2, .complex .f64 b1 b2, .complex .f64 c1 c2, .complex .f64 d1 d2] ∧ Row V (w.heap.size + 1) 129 [.complex .f64 0 0, .complex .f64 0 0, .complex .f64 0 0, .complex .f64 0 0] ∧ Row V g 120 [.int .i64 1, .int .i64 1, .int .i64 (-1), .int .i64 (-1)] ∧ Row V (g + 1) 120 [.int .i64 1, .int .i64 (-1), .int .i64 1, .int .i64 (-1)] ∧ Below w.heap.size w V) HT0.out ?_
          clear HT0
          intro V0 r0
          have HT0 := Lib.hid r0
          clear r0
          refine wp_region_held_drew (S := fun V => (∃ u, Row V (g + 1 + 1) 129 [u, .complex .f64 t1 t2, .complex .f64 u1 u2, .complex .f64 v1 v2]) ∧ Row V w.heap.size 129 [.complex .f64 a1 a2, .complex .f64 b1 b2, .complex .f64 c1 c2, .complex .f64 d1 d2] ∧ Row V (w.heap.size + 1) 129 [.complex .f64 0 0, .complex .f64 0 0, .complex .f64 0 0, .complex .f64 0 0] ∧ Row V g 120 [.int .i64 1, .int .i64 1, .int .i64 (-1), .int .i64 (-1)] ∧ Row V (g + 1) 120 [.int .i64 1, .int .i64 (-1), .int .i64 1, .int .i64 (-1)] ∧ Below w.heap.size w V) (by kernel_rfl) ?_ (fun hHeld => ?_)
          · exact ⟨⟨_, HT0.out.1.drew⟩, (HT0.out.2.1).drew, (HT0.out.2.2.1).drew, (HT0.out.2.2.2.1).drew, (HT0.out.2.2.2.2.1).drew, (HT0.out.2.2.2.2.2).drew⟩
          refine wpAnyH_take (i := 0) (oi := ⟨some 36, _, _, _, _, _⟩) (v := ?_) rfl (by kernel_rfl) (by kernel_rfl) (by kernel_rfl) (fun _ _ _ h => h) (Or.inl ⟨by kernel_rfl, ?_⟩) hHeld ?_
          rotate_left
          · intro w1 hSw; (try dsimp only at hSw); go_simp <;> with_reducible rfl
          try simp only [Act.put, List.setIfInBounds_toArray, List.set_cons_zero, List.set_cons_succ]
          refine wpAnyH_take (i := 1) (oi := ⟨some 37, _, _, _, _, _⟩) (v := ?_) rfl (by kernel_rfl) (by kernel_rfl) (by kernel_rfl) (fun _ _ _ h => h) (Or.inl ⟨by kernel_rfl, ?_⟩) hHeld ?_
          rotate_left
          · intro w1 hSw; (try dsimp only at hSw); go_simp <;> with_reducible rfl
          try simp only [Act.put, List.setIfInBounds_toArray, List.set_cons_zero, List.set_cons_succ]
          refine wpAnyH_take (i := 3) (oi := ⟨some 39, _, _, _, _, _⟩) (v := ?_) rfl (by kernel_rfl) (by kernel_rfl) (by kernel_rfl) (fun _ _ _ h => h) (Or.inl ⟨by kernel_rfl, ?_⟩) hHeld ?_
          rotate_left
          · intro w1 hSw; (try dsimp only at hSw); go_simp <;> with_reducible rfl
          try simp only [Act.put, List.setIfInBounds_toArray, List.set_cons_zero, List.set_cons_succ]
          refine wpAnyH_take (i := 4) (oi := ⟨some 40, _, _, _, _, _⟩) (v := ?_) rfl (by kernel_rfl) (by kernel_rfl) (by kernel_rfl) (fun _ _ _ h => h) (Or.inl ⟨by kernel_rfl, ?_⟩) hHeld ?_
          rotate_left
          · intro w1 hSw; (try dsimp only at hSw); go_simp <;> with_reducible rfl
          try simp only [Act.put, List.setIfInBounds_toArray, List.set_cons_zero, List.set_cons_succ]
          refine wpAnyH_take (i := 5) (oi := ⟨some 41, _, _, _, _, _⟩) (v := ?_) rfl (by kernel_rfl) (by kernel_rfl) (by kernel_rfl) (fun _ _ _ h => h) (Or.inl ⟨by kernel_rfl, ?_⟩) hHeld ?_
          rotate_left
          · intro w1 hSw; (try dsimp only at hSw); have cc := (hSw.2.1).cell t; rw [HP.out] at cc; go_simp <;> with_reducible rfl
          try simp only [Act.put, List.setIfInBounds_toArray, List.set_cons_zero, List.set_cons_succ]
          refine wpAnyH_take (i := 6) (oi := ⟨some 42, _, _, _, _, _⟩) (v := ?_) rfl (by kernel_rfl) (by kernel_rfl) (by kernel_rfl) (fun _ _ _ h => h) (Or.inl ⟨by kernel_rfl, ?_⟩) hHeld ?_
          rotate_left
          · intro w1 hSw; (try dsimp only at hSw); go_simp <;> with_reducible rfl
          try simp only [Act.put, List.setIfInBounds_toArray, List.set_cons_zero, List.set_cons_succ]
          refine wpAnyH_take (i := 7) (oi := ⟨some 43, _, _, _, _, _⟩) (v := ?_) rfl (by kernel_rfl) (by kernel_rfl) (by kernel_rfl) (fun _ _ _ h => h) (Or.inl ⟨by kernel_rfl, ?_⟩) hHeld ?_
          rotate_left
          · intro w1 hSw; (try dsimp only at hSw); go_simp <;> with_reducible rfl
          try simp only [Act.put, List.setIfInBounds_toArray, List.set_cons_zero, List.set_cons_succ]
          refine wpAnyH_ready (rs := [2, 8]) (by kernel_rfl) (by simp) ?_
          refine AllReadyH.cons rfl (fun K hK => ?_) (AllReadyH.cons rfl (fun K hK => ?_) (AllReadyH.nil))
          ·
            have cc := (HT0.out.1.drew).cell 0
            simp only [List.getElem?_cons_succ, List.getElem?_cons_zero] at cc
            go_simp
            refine hK.out _ _ ?_ (fun hHeld => ?_)
            · exact hHeld
            clear hK K
            try simp only [Act.put, List.setIfInBounds_toArray, List.set_cons_zero, List.set_cons_succ]
            refine wpAnyH_ready (rs := [8]) (by kernel_rfl) (by simp) ?_
            refine AllReadyH.cons rfl (fun K hK => ?_) (AllReadyH.nil)
            go_simp
            refine hK.out _ _ ?_ (fun hHeld => ?_)
            · exact hHeld
            clear hK K
            try simp only [Act.put, List.setIfInBounds_toArray, List.set_cons_zero, List.set_cons_succ]
            refine wpAnyH_take (i := 9) (oi := ⟨some 45, _, _, _, _, _⟩) (v := ?_) rfl (by kernel_rfl) (by kernel_rfl) (by kernel_rfl) (fun _ _ _ h => h) (Or.inl ⟨by kernel_rfl, ?_⟩) hHeld ?_
            rotate_left
            · intro w1 hSw; (try dsimp only at hSw); go_simp <;> with_reducible rfl
            try simp only [Act.put, List.setIfInBounds_toArray, List.set_cons_zero, List.set_cons_succ]
            refine wpAnyH_take (i := 10) (oi := ⟨some 46, _, _, _, _, _⟩) (v := ?_) rfl (by kernel_rfl) (by kernel_rfl) (by kernel_rfl) (fun _ _ _ h => h) (Or.inl ⟨by kernel_rfl, ?_⟩) hHeld ?_
            rotate_left
            · intro w1 hSw; (try dsimp only at hSw); go_simp <;> with_reducible rfl
            try simp only [Act.put, List.setIfInBounds_toArray, List.set_cons_zero, List.set_cons_succ]
            refine wpAnyH_take (i := 11) (oi := ⟨some 47, _, _, _, _, _⟩) (v := ?_) rfl (by kernel_rfl) (by kernel_rfl) (by kernel_rfl) (fun _ _ _ h => h) (Or.inl ⟨by kernel_rfl, ?_⟩) hHeld ?_
            rotate_left
            · intro w1 hSw; (try dsimp only at hSw); go_simp <;> with_reducible rfl
            try simp only [Act.put, List.setIfInBounds_toArray, List.set_cons_zero, List.set_cons_succ]
            refine wpAnyH_ready (rs := [12]) (by kernel_rfl) (by simp) ?_
            refine AllReadyH.cons rfl (fun K hK => ?_) (AllReadyH.nil)
            have cc := (HT0.out.1.drew).cell 0
            simp only [List.getElem?_cons_succ, List.getElem?_cons_zero] at cc
            have ff := (HT0.out.1.drew).free 0
            go_simp
            refine hK.out _ _ ?_ (fun hHeld => ?_)
            · exact ⟨⟨(.complex .f64 m1 m2), (HT0.out.1.drew).set 0 (.complex .f64 m1 m2)⟩, (hHeld.2.1).far (by dsimp only; omega) _, (hHeld.2.2.1).far (by dsimp only; omega) _, (hHeld.2.2.2.1).far (by dsimp only; omega) _, (hHeld.2.2.2.2.1).far (by dsimp only; omega) _, (hHeld.2.2.2.2.2).setCell (by dsimp only; omega) _⟩
            clear hK K
            try simp only [Act.put, List.setIfInBounds_toArray, List.set_cons_zero, List.set_cons_succ]
            refine wpAnyH_done (by kernel_rfl) ?_ _
            have HN := Lib.hid hHeld.2
            have HR9 := Lib.hid ((HT0.out.1.drew).set 0 (.complex .f64 m1 m2))
            clear hHeld HT0
            go_wp2_with fail
            go_roundw
            case rel => first | exact ⟨1, by omega, by go_num, HR9.out, HN.out⟩ | exact ⟨_, _, _, _, _, _, _, _, _, _, _, _, _, _, _, _, _, _, _, ⟨1, by omega, rfl, HR9.out, HN.out⟩, rfl⟩
            case measure => simp [intOf]
          ·
            go_simp
            refine hK.out _ _ ?_ (fun hHeld => ?_)
            · exact hHeld
            clear hK K
            try simp only [Act.put, List.setIfInBounds_toArray, List.set_cons_zero, List.set_cons_succ]
            refine wpAnyH_take (i := 9) (oi := ⟨some 45, _, _, _, _, _⟩) (v := ?_) rfl (by kernel_rfl) (by kernel_rfl) (by kernel_rfl) (fun _ _ _ h => h) (Or.inl ⟨by kernel_rfl, ?_⟩) hHeld ?_
            rotate_left
            · intro w1 hSw; (try dsimp only at hSw); go_simp <;> with_reducible rfl
            try simp only [Act.put, List.setIfInBounds_toArray, List.set_cons_zero, List.set_cons_succ]
            refine wpAnyH_ready (rs := [2]) (by kernel_rfl) (by simp) ?_
            refine AllReadyH.cons rfl (fun K hK => ?_) (AllReadyH.nil)
            have cc := (HT0.out.1.drew).cell 0
            simp only [List.getElem?_cons_succ, List.getElem?_cons_zero] at cc
            go_simp
            refine hK.out _ _ ?_ (fun hHeld => ?_)
            · exact hHeld
            clear hK K
            try simp only [Act.put, List.setIfInBounds_toArray, List.set_cons_zero, List.set_cons_succ]
            refine wpAnyH_take (i := 10) (oi := ⟨some 46, _, _, _, _, _⟩) (v := ?_) rfl (by kernel_rfl) (by kernel_rfl) (by kernel_rfl) (fun _ _ _ h => h) (Or.inl ⟨by kernel_rfl, ?_⟩) hHeld ?_
            rotate_left
            · intro w1 hSw; (try dsimp only at hSw); go_simp <;> with_reducible rfl
            try simp only [Act.put, List.setIfInBounds_toArray, List.set_cons_zero, List.set_cons_succ]
            refine wpAnyH_take (i := 11) (oi := ⟨some 47, _, _, _, _, _⟩) (v := ?_) rfl (by kernel_rfl) (by kernel_rfl) (by kernel_rfl) (fun _ _ _ h => h) (Or.inl ⟨by kernel_rfl, ?_⟩) hHeld ?_
            rotate_left
            · intro w1 hSw; (try dsimp only at hSw); go_simp <;> with_reducible rfl
            try simp only [Act.put, List.setIfInBounds_toArray, List.set_cons_zero, List.set_cons_succ]
            refine wpAnyH_ready (rs := [12]) (by kernel_rfl) (by simp) ?_
            refine AllReadyH.cons rfl (fun K hK => ?_) (AllReadyH.nil)
            have cc := (HT0.out.1.drew).cell 0
            simp only [List.getElem?_cons_succ, List.getElem?_cons_zero] at cc
            have ff := (HT0.out.1.drew).free 0
            go_simp
            refine hK.out _ _ ?_ (fun hHeld => ?_)
            · exact ⟨⟨(.complex .f64 m1 m2), (HT0.out.1.drew).set 0 (.complex .f64 m1 m2)⟩, (hHeld.2.1).far (by dsimp only; omega) _, (hHeld.2.2.1).far (by dsimp only; omega) _, (hHeld.2.2.2.1).far (by dsimp only; omega) _, (hHeld.2.2.2.2.1).far (by dsimp only; omega) _, (hHeld.2.2.2.2.2).setCell (by dsimp only; omega) _⟩
            clear hK K
            try simp only [Act.put, List.setIfInBounds_toArray, List.set_cons_zero, List.set_cons_succ]
            refine wpAnyH_done (by kernel_rfl) ?_ _
            have HN := Lib.hid hHeld.2
            have HR9 := Lib.hid ((HT0.out.1.drew).set 0 (.complex .f64 m1 m2))
            clear hHeld HT0
            go_wp2_with fail
            go_roundw
            case rel => first | exact ⟨1, by omega, by go_num, HR9.out, HN.out⟩ | exact ⟨_, _, _, _, _, _, _, _, _, _, _, _, _, _, _, _, _, _, _, ⟨1, by omega, rfl, HR9.out, HN.out⟩, rfl⟩
            case measure => simp [intOf]
        · have HT1 : Hid (Row wr (g + 1 + 1) 129 [.complex .f64 m1 m2, .complex .f64 t1 t2, .complex .f64 u1 u2, .complex .f64 v1 v2] ∧ Row wr w.heap.size 129 [.complex .f64 a1 a2, .complex .f64 b1 b2, .complex .f64 c1 c2, .complex .f64 d1 d2] ∧ Row wr (w.heap.size + 1) 129 [.complex .f64 0 0, .complex .f64 0 0, .complex .f64 0 0, .complex .f64 0 0] ∧ Row wr g 120 [.int .i64 1, .int .i64 1, .int .i64 (-1), .int .i64 (-1)] ∧ Row wr (g + 1) 120 [.int .i64 1, .int .i64 (-1), .int .i64 1, .int .i64 (-1)] ∧ Below w.heap.size w wr) := HJ.out
          clear HJ
          go_upto_region 9 with fail
          refine genT (fun V => Row V (g + 1 + 1) 129 [.complex .f64 m1 m2, .complex .f64 t1 t2, .complex .f64 u1 u2, .complex .f64 v1 v2] ∧ Row V w.heap.size 129 [.complex .f64 a1 a2, .complex .f64 b1 b2, .complex .f64 c1 c2, .complex .f64 d1 d2] ∧ Row V (w.heap.size + 1) 129 [.complex .f64 0 0, .complex .f64 0 0, .complex .f64 0 0, .complex .f64 0 0] ∧ Row V g 120 [.int .i64 1, .int .i64 1, .int .i64 (-1), .int .i64 (-1)] ∧ Row V (g + 1) 120 [.int .i64 1, .int .i64 (-1), .int .i64 1, .int .i64 (-1)] ∧ Below w.heap.size w V) HT1.out ?_
          clear HT1
          intro V1 r1
          have HT1 := Lib.hid r1
          clear r1
          refine wp_region_held_drew (S := fun V => (∃ u, Row V (g + 1 + 1) 129 [.complex .f64 m1 m2, u, .complex .f64 u1 u2, .complex .f64 v1 v2]) ∧ Row V w.heap.size 129 [.complex .f64 a1 a2, .complex .f64 b1 b2, .complex .f64 c1 c2, .complex .f64 d1 d2] ∧ Row V (w.heap.size + 1) 129 [.complex .f64 0 0, .complex .f64 0 0, .complex .f64 0 0, .complex .f64 0 0] ∧ Row V g 120 [.int .i64 1, .int .i64 1, .int .i64 (-1), .int .i64 (-1)] ∧ Row V (g + 1) 120 [.int .i64 1, .int .i64 (-1), .int .i64 1, .int .i64 (-1)] ∧ Below w.heap.size w V) (by kernel_rfl) ?_ (fun hHeld => ?_)
          · exact ⟨⟨_, HT1.out.1.drew⟩, (HT1.out.2.1).drew, (HT1.out.2.2.1).drew, (HT1.out.2.2.2.1).drew, (HT1.out.2.2.2.2.1).drew, (HT1.out.2.2.2.2.2).drew⟩
          refine wpAnyH_take (i := 0) (oi := ⟨some 36, _, _, _, _, _⟩) (v := ?_) rfl (by kernel_rfl) (by kernel_rfl) (by kernel_rfl) (fun _ _ _ h => h) (Or.inl ⟨by kernel_rfl, ?_⟩) hHeld ?_
          rotate_left
          · intro w1 hSw; (try dsimp only at hSw); go_simp <;> with_reducible rfl
          try simp only [Act.put, List.setIfInBounds_toArray, List.set_cons_zero, List.set_cons_succ]
          refine wpAnyH_take (i := 1) (oi := ⟨some 37, _, _, _, _, _⟩) (v := ?_) rfl (by kernel_rfl) (by kernel_rfl) (by kernel_rfl) (fun _ _ _ h => h) (Or.inl ⟨by kernel_rfl, ?_⟩) hHeld ?_
          rotate_left
          · intro w1 hSw; (try dsimp only at hSw); go_simp <;> with_reducible rfl
          try simp only [Act.put, List.setIfInBounds_toArray, List.set_cons_zero, List.set_cons_succ]
          refine wpAnyH_take (i := 3) (oi := ⟨some 39, _, _, _, _, _⟩) (v := ?_) rfl (by kernel_rfl) (by kernel_rfl) (by kernel_rfl) (fun _ _ _ h => h) (Or.inl ⟨by kernel_rfl, ?_⟩) hHeld ?_
          rotate_left
          · intro w1 hSw; (try dsimp only at hSw); go_simp <;> with_reducible rfl
          try simp only [Act.put, List.setIfInBounds_toArray, List.set_cons_zero, List.set_cons_succ]
          refine wpAnyH_take (i := 4) (oi := ⟨some 40, _, _, _, _, _⟩) (v := ?_) rfl (by kernel_rfl) (by kernel_rfl) (by kernel_rfl) (fun _ _ _ h => h) (Or.inl ⟨by kernel_rfl, ?_⟩) hHeld ?_
          rotate_left
          · intro w1 hSw; (try dsimp only at hSw); go_simp <;> with_reducible rfl
          try simp only [Act.put, List.setIfInBounds_toArray, List.set_cons_zero, List.set_cons_succ]
          refine wpAnyH_take (i := 5) (oi := ⟨some 41, _, _, _, _, _⟩) (v := ?_) rfl (by kernel_rfl) (by kernel_rfl) (by kernel_rfl) (fun _ _ _ h => h) (Or.inl ⟨by kernel_rfl, ?_⟩) hHeld ?_
          rotate_left
          · intro w1 hSw; (try dsimp only at hSw); have cc := (hSw.2.1).cell t; rw [HP.out] at cc; go_simp <;> with_reducible rfl
          try simp only [Act.put, List.setIfInBounds_toArray, List.set_cons_zero, List.set_cons_succ]
          refine wpAnyH_take (i := 6) (oi := ⟨some 42, _, _, _, _, _⟩) (v := ?_) rfl (by kernel_rfl) (by kernel_rfl) (by kernel_rfl) (fun _ _ _ h => h) (Or.inl ⟨by kernel_rfl, ?_⟩) hHeld ?_
          rotate_left
          · intro w1 hSw; (try dsimp only at hSw); go_simp <;> with_reducible rfl
          try simp only [Act.put, List.setIfInBounds_toArray, List.set_cons_zero, List.set_cons_succ]
          refine wpAnyH_take (i := 7) (oi := ⟨some 43, _, _, _, _, _⟩) (v := ?_) rfl (by kernel_rfl) (by kernel_rfl) (by kernel_rfl) (fun _ _ _ h => h) (Or.inl ⟨by kernel_rfl, ?_⟩) hHeld ?_
          rotate_left
          · intro w1 hSw; (try dsimp only at hSw); go_simp <;> with_reducible rfl
          try simp only [Act.put, List.setIfInBounds_toArray, List.set_cons_zero, List.set_cons_succ]
          refine wpAnyH_ready (rs := [2, 8]) (by kernel_rfl) (by simp) ?_
          refine AllReadyH.cons rfl (fun K hK => ?_) (AllReadyH.cons rfl (fun K hK => ?_) (AllReadyH.nil))
          ·
            have cc := (HT1.out.1.drew).cell 1
            simp only [List.getElem?_cons_succ, List.getElem?_cons_zero] at cc
            go_simp
            refine hK.out _ _ ?_ (fun hHeld => ?_)
            · exact hHeld
            clear hK K
            try simp only [Act.put, List.setIfInBounds_toArray, List.set_cons_zero, List.set_cons_succ]
            refine wpAnyH_ready (rs := [8]) (by kernel_rfl) (by simp) ?_
            refine AllReadyH.cons rfl (fun K hK => ?_) (AllReadyH.nil)
            go_simp
            refine hK.out _ _ ?_ (fun hHeld => ?_)
            · exact hHeld
            clear hK K
            try simp only [Act.put, List.setIfInBounds_toArray, List.set_cons_zero, List.set_cons_succ]
            refine wpAnyH_take (i := 9) (oi := ⟨some 45, _, _, _, _, _⟩) (v := ?_) rfl (by kernel_rfl) (by kernel_rfl) (by kernel_rfl) (fun _ _ _ h => h) (Or.inl ⟨by kernel_rfl, ?_⟩) hHeld ?_
            rotate_left
            · intro w1 hSw; (try dsimp only at hSw); go_simp <;> with_reducible rfl
            try simp only [Act.put, List.setIfInBounds_toArray, List.set_cons_zero, List.set_cons_succ]
            refine wpAnyH_take (i := 10) (oi := ⟨some 46, _, _, _, _, _⟩) (v := ?_) rfl (by kernel_rfl) (by kernel_rfl) (by kernel_rfl) (fun _ _ _ h => h) (Or.inl ⟨by kernel_rfl, ?_⟩) hHeld ?_
            rotate_left
            · intro w1 hSw; (try dsimp only at hSw); go_simp <;> with_reducible rfl
            try simp only [Act.put, List.setIfInBounds_toArray, List.set_cons_zero, List.set_cons_succ]
            refine wpAnyH_take (i := 11) (oi := ⟨some 47, _, _, _, _, _⟩) (v := ?_) rfl (by kernel_rfl) (by kernel_rfl) (by kernel_rfl) (fun _ _ _ h => h) (Or.inl ⟨by kernel_rfl, ?_⟩) hHeld ?_
            rotate_left
            · intro w1 hSw; (try dsimp only at hSw); go_simp <;> with_reducible rfl
            try simp only [Act.put, List.setIfInBounds_toArray, List.set_cons_zero, List.set_cons_succ]
            refine wpAnyH_ready (rs := [12]) (by kernel_rfl) (by simp) ?_
            refine AllReadyH.cons rfl (fun K hK => ?_) (AllReadyH.nil)
            have cc := (HT1.out.1.drew).cell 1
            simp only [List.getElem?_cons_succ, List.getElem?_cons_zero] at cc
            have ff := (HT1.out.1.drew).free 1
            go_simp
            refine hK.out _ _ ?_ (fun hHeld => ?_)
            · exact ⟨⟨(.complex .f64 n1 n2), (HT1.out.1.drew).set 1 (.complex .f64 n1 n2)⟩, (hHeld.2.1).far (by dsimp only; omega) _, (hHeld.2.2.1).far (by dsimp only; omega) _, (hHeld.2.2.2.1).far (by dsimp only; omega) _, (hHeld.2.2.2.2.1).far (by dsimp only; omega) _, (hHeld.2.2.2.2.2).setCell (by dsimp only; omega) _⟩
            clear hK K
            try simp only [Act.put, List.setIfInBounds_toArray, List.set_cons_zero, List.set_cons_succ]
            refine wpAnyH_done (by kernel_rfl) ?_ _
            have HN := Lib.hid hHeld.2
            have HR9 := Lib.hid ((HT1.out.1.drew).set 1 (.complex .f64 n1 n2))
            clear hHeld HT1
            go_wp2_with fail
            go_roundw
            case rel => first | exact ⟨2, by omega, by go_num, HR9.out, HN.out⟩ | exact ⟨_, _, _, _, _, _, _, _, _, _, _, _, _, _, _, _, _, _, _, ⟨2, by omega, rfl, HR9.out, HN.out⟩, rfl⟩
            case measure => simp [intOf]
          ·
            go_simp
            refine hK.out _ _ ?_ (fun hHeld => ?_)
            · exact hHeld
            clear hK K
            try simp only [Act.put, List.setIfInBounds_toArray, List.set_cons_zero, List.set_cons_succ]
            refine wpAnyH_take (i := 9) (oi := ⟨some 45, _, _, _, _, _⟩) (v := ?_) rfl (by kernel_rfl) (by kernel_rfl) (by kernel_rfl) (fun _ _ _ h => h) (Or.inl ⟨by kernel_rfl, ?_⟩) hHeld ?_
            rotate_left
            · intro w1 hSw; (try dsimp only at hSw); go_simp <;> with_reducible rfl
            try simp only [Act.put, List.setIfInBounds_toArray, List.set_cons_zero, List.set_cons_succ]
            refine wpAnyH_ready (rs := [2]) (by kernel_rfl) (by simp) ?_
            refine AllReadyH.cons rfl (fun K hK => ?_) (AllReadyH.nil)
            have cc := (HT1.out.1.drew).cell 1
            simp only [List.getElem?_cons_succ, List.getElem?_cons_zero] at cc
            go_simp
            refine hK.out _ _ ?_ (fun hHeld => ?_)
            · exact hHeld
            clear hK K
            try simp only [Act.put, List.setIfInBounds_toArray, List.set_cons_zero, List.set_cons_succ]
            refine wpAnyH_take (i := 10) (oi := ⟨some 46, _, _, _, _, _⟩) (v := ?_) rfl (by kernel_rfl) (by kernel_rfl) (by kernel_rfl) (fun _ _ _ h => h) (Or.inl ⟨by kernel_rfl, ?_⟩) hHeld ?_
            rotate_left
            · intro w1 hSw; (try dsimp only at hSw); go_simp <;> with_reducible rfl
            try simp only [Act.put, List.setIfInBounds_toArray, List.set_cons_zero, List.set_cons_succ]
            refine wpAnyH_take (i := 11) (oi := ⟨some 47, _, _, _, _, _⟩) (v := ?_) rfl (by kernel_rfl) (by kernel_rfl) (by kernel_rfl) (fun _ _ _ h => h) (Or.inl ⟨by kernel_rfl, ?_⟩) hHeld ?_
            rotate_left
            · intro w1 hSw; (try dsimp only at hSw); go_simp <;> with_reducible rfl
            try simp only [Act.put, List.setIfInBounds_toArray, List.set_cons_zero, List.set_cons_succ]
            refine wpAnyH_ready (rs := [12]) (by kernel_rfl) (by simp) ?_
            refine AllReadyH.cons rfl (fun K hK => ?_) (AllReadyH.nil)
            have cc := (HT1.out.1.drew).cell 1
            simp only [List.getElem?_cons_succ, List.getElem?_cons_zero] at cc
            have ff := (HT1.out.1.drew).free 1
            go_simp
            refine hK.out _ _ ?_ (fun hHeld => ?_)
            · exact ⟨⟨(.complex .f64 n1 n2), (HT1.out.1.drew).set 1 (.complex .f64 n1 n2)⟩, (hHeld.2.1).far (by dsimp only; omega) _, (hHeld.2.2.1).far (by dsimp only; omega) _, (hHeld.2.2.2.1).far (by dsimp only; omega) _, (hHeld.2.2.2.2.1).far (by dsimp only; omega) _, (hHeld.2.2.2.2.2).setCell (by dsimp only; omega) _⟩
            clear hK K
            try simp only [Act.put, List.setIfInBounds_toArray, List.set_cons_zero, List.set_cons_succ]
            refine wpAnyH_done (by kernel_rfl) ?_ _
            have HN := Lib.hid hHeld.2
            have HR9 := Lib.hid ((HT1.out.1.drew).set 1 (.complex .f64 n1 n2))
            clear hHeld HT1
            go_wp2_with fail
            go_roundw
            case rel => first | exact ⟨2, by omega, by go_num, HR9.out, HN.out⟩ | exact ⟨_, _, _, _, _, _, _, _, _, _, _, _, _, _, _, _, _, _, _, ⟨2, by omega, rfl, HR9.out, HN.out⟩, rfl⟩
            case measure => simp [intOf]
        · have HT2 : Hid (Row wr (g + 1 + 1) 129 [.complex .f64 m1 m2, .complex .f64 n1 n2, .complex .f64 u1 u2, .complex .f64 v1 v2] ∧ Row wr w.heap.size 129 [.complex .f64 a1 a2, .complex .f64 b1 b2, .complex .f64 c1 c2, .complex .f64 d1 d2] ∧ Row wr (w.heap.size + 1) 129 [.complex .f64 0 0, .complex .f64 0 0, .complex .f64 0 0, .complex .f64 0 0] ∧ Row wr g 120 [.int .i64 1, .int .i64 1, .int .i64 (-1), .int .i64 (-1)] ∧ Row wr (g + 1) 120 [.int .i64 1, .int .i64 (-1), .int .i64 1, .int .i64 (-1)] ∧ Below w.heap.size w wr) := HJ.out
          clear HJ
          go_upto_region 9 with fail
          refine genT (fun V => Row V (g + 1 + 1) 129 [.complex .f64 m1 m2, .complex .f64 n1 n2, .complex .f64 u1 u2, .complex .f64 v1 v2] ∧ Row V w.heap.size 129 [.complex .f64 a1 a2, .complex .f64 b1 b2, .complex .f64 c1 c2, .complex .f64 d1 d2] ∧ Row V (w.heap.size + 1) 129 [.complex .f64 0 0, .complex .f64 0 0, .complex .f64 0 0, .complex .f64 0 0] ∧ Row V g 120 [.int .i64 1, .int .i64 1, .int .i64 (-1), .int .i64 (-1)] ∧ Row V (g + 1) 120 [.int .i64 1, .int .i64 (-1), .int .i64 1, .int .i64 (-1)] ∧ Below w.heap.size w V) HT2.out ?_
          clear HT2
          intro V2 r2
          have HT2 := Lib.hid r2
          clear r2
          refine wp_region_held_drew (S := fun V => (∃ u, Row V (g + 1 + 1) 129 [.complex .f64 m1 m2, .complex .f64 n1 n2, u, .complex .f64 v1 v2]) ∧ Row V w.heap.size 129 [.complex .f64 a1 a2, .complex .f64 b1 b2, .complex .f64 c1 c2, .complex .f64 d1 d2] ∧ Row V (w.heap.size + 1) 129 [.complex .f64 0 0, .complex .f64 0 0, .complex .f64 0 0, .complex .f64 0 0] ∧ Row V g 120 [.int .i64 1, .int .i64 1, .int .i64 (-1), .int .i64 (-1)] ∧ Row V (g + 1) 120 [.int .i64 1, .int .i64 (-1), .int .i64 1, .int .i64 (-1)] ∧ Below w.heap.size w V) (by kernel_rfl) ?_ (fun hHeld => ?_)
          · exact ⟨⟨_, HT2.out.1.drew⟩, (HT2.out.2.1).drew, (HT2.out.2.2.1).drew, (HT2.out.2.2.2.1).drew, (HT2.out.2.2.2.2.1).drew, (HT2.out.2.2.2.2.2).drew⟩
          refine wpAnyH_take (i := 0) (oi := ⟨some 36, _, _, _, _, _⟩) (v := ?_) rfl (by kernel_rfl) (by kernel_rfl) (by kernel_rfl) (fun _ _ _ h => h) (Or.inl ⟨by kernel_rfl, ?_⟩) hHeld ?_
          rotate_left
          · intro w1 hSw; (try dsimp only at hSw); go_simp <;> with_reducible rfl
          try simp only [Act.put, List.setIfInBounds_toArray, List.set_cons_zero, List.set_cons_succ]
          refine wpAnyH_take (i := 1) (oi := ⟨some 37, _, _, _, _, _⟩) (v := ?_) rfl (by kernel_rfl) (by kernel_rfl) (by kernel_rfl) (fun _ _ _ h => h) (Or.inl ⟨by kernel_rfl, ?_⟩) hHeld ?_
          rotate_left
          · intro w1 hSw; (try dsimp only at hSw); go_simp <;> with_reducible rfl
          try simp only [Act.put, List.setIfInBounds_toArray, List.set_cons_zero, List.set_cons_succ]
          refine wpAnyH_take (i := 3) (oi := ⟨some 39, _, _, _, _, _⟩) (v := ?_) rfl (by kernel_rfl) (by kernel_rfl) (by kernel_rfl) (fun _ _ _ h => h) (Or.inl ⟨by kernel_rfl, ?_⟩) hHeld ?_
          rotate_left
          · intro w1 hSw; (try dsimp only at hSw); go_simp <;> with_reducible rfl
          try simp only [Act.put, List.setIfInBounds_toArray, List.set_cons_zero, List.set_cons_succ]
          refine wpAnyH_take (i := 4) (oi := ⟨some 40, _, _, _, _, _⟩) (v := ?_) rfl (by kernel_rfl) (by kernel_rfl) (by kernel_rfl) (fun _ _ _ h => h) (Or.inl ⟨by kernel_rfl, ?_⟩) hHeld ?_
          rotate_left
          · intro w1 hSw; (try dsimp only at hSw); go_simp <;> with_reducible rfl
          try simp only [Act.put, List.setIfInBounds_toArray, List.set_cons_zero, List.set_cons_succ]
          refine wpAnyH_take (i := 5) (oi := ⟨some 41, _, _, _, _, _⟩) (v := ?_) rfl (by kernel_rfl) (by kernel_rfl) (by kernel_rfl) (fun _ _ _ h => h) (Or.inl ⟨by kernel_rfl, ?_⟩) hHeld ?_
          rotate_left
          · intro w1 hSw; (try dsimp only at hSw); have cc := (hSw.2.1).cell t; rw [HP.out] at cc; go_simp <;> with_reducible rfl
          try simp only [Act.put, List.setIfInBounds_toArray, List.set_cons_zero, List.set_cons_succ]
          refine wpAnyH_take (i := 6) (oi := ⟨some 42, _, _, _, _, _⟩) (v := ?_) rfl (by kernel_rfl) (by kernel_rfl) (by kernel_rfl) (fun _ _ _ h => h) (Or.inl ⟨by kernel_rfl, ?_⟩) hHeld ?_
          rotate_left
          · intro w1 hSw; (try dsimp only at hSw); go_simp <;> with_reducible rfl
          try simp only [Act.put, List.setIfInBounds_toArray, List.set_cons_zero, List.set_cons_succ]
          refine wpAnyH_take (i := 7) (oi := ⟨some 43, _, _, _, _, _⟩) (v := ?_) rfl (by kernel_rfl) (by kernel_rfl) (by kernel_rfl) (fun _ _ _ h => h) (Or.inl ⟨by kernel_rfl, ?_⟩) hHeld ?_
          rotate_left
          · intro w1 hSw; (try dsimp only at hSw); go_simp <;> with_reducible rfl
          try simp only [Act.put, List.setIfInBounds_toArray, List.set_cons_zero, List.set_cons_succ]
          refine wpAnyH_ready (rs := [2, 8]) (by kernel_rfl) (by simp) ?_
          refine AllReadyH.cons rfl (fun K hK => ?_) (AllReadyH.cons rfl (fun K hK => ?_) (AllReadyH.nil))
          ·
            have cc := (HT2.out.1.drew).cell 2
            simp only [List.getElem?_cons_succ, List.getElem?_cons_zero] at cc
            go_simp
            refine hK.out _ _ ?_ (fun hHeld => ?_)
            · exact hHeld
            clear hK K
            try simp only [Act.put, List.setIfInBounds_toArray, List.set_cons_zero, List.set_cons_succ]
            refine wpAnyH_ready (rs := [8]) (by kernel_rfl) (by simp) ?_
            refine AllReadyH.cons rfl (fun K hK => ?_) (AllReadyH.nil)
            go_simp
            refine hK.out _ _ ?_ (fun hHeld => ?_)
            · exact hHeld
            clear hK K
            try simp only [Act.put, List.setIfInBounds_toArray, List.set_cons_zero, List.set_cons_succ]
            refine wpAnyH_take (i := 9) (oi := ⟨some 45, _, _, _, _, _⟩) (v := ?_) rfl (by kernel_rfl) (by kernel_rfl) (by kernel_rfl) (fun _ _ _ h => h) (Or.inl ⟨by kernel_rfl, ?_⟩) hHeld ?_
            rotate_left
            · intro w1 hSw; (try dsimp only at hSw); go_simp <;> with_reducible rfl
            try simp only [Act.put, List.setIfInBounds_toArray, List.set_cons_zero, List.set_cons_succ]
            refine wpAnyH_take (i := 10) (oi := ⟨some 46, _, _, _, _, _⟩) (v := ?_) rfl (by kernel_rfl) (by kernel_rfl) (by kernel_rfl) (fun _ _ _ h => h) (Or.inl ⟨by kernel_rfl, ?_⟩) hHeld ?_
            rotate_left
            · intro w1 hSw; (try dsimp only at hSw); go_simp <;> with_reducible rfl
            try simp only [Act.put, List.setIfInBounds_toArray, List.set_cons_zero, List.set_cons_succ]
            refine wpAnyH_take (i := 11) (oi := ⟨some 47, _, _, _, _, _⟩) (v := ?_) rfl (by kernel_rfl) (by kernel_rfl) (by kernel_rfl) (fun _ _ _ h => h) (Or.inl ⟨by kernel_rfl, ?_⟩) hHeld ?_
            rotate_left
            · intro w1 hSw; (try dsimp only at hSw); go_simp <;> with_reducible rfl
            try simp only [Act.put, List.setIfInBounds_toArray, List.set_cons_zero, List.set_cons_succ]
            refine wpAnyH_ready (rs := [12]) (by kernel_rfl) (by simp) ?_
            refine AllReadyH.cons rfl (fun K hK => ?_) (AllReadyH.nil)
            have cc := (HT2.out.1.drew).cell 2
            simp only [List.getElem?_cons_succ, List.getElem?_cons_zero] at cc
            have ff := (HT2.out.1.drew).free 2
            go_simp
            refine hK.out _ _ ?_ (fun hHeld => ?_)
            · exact ⟨⟨(.complex .f64 o1 o2), (HT2.out.1.drew).set 2 (.complex .f64 o1 o2)⟩, (hHeld.2.1).far (by dsimp only; omega) _, (hHeld.2.2.1).far (by dsimp only; omega) _, (hHeld.2.2.2.1).far (by dsimp only; omega) _, (hHeld.2.2.2.2.1).far (by dsimp only; omega) _, (hHeld.2.2.2.2.2).setCell (by dsimp only; omega) _⟩
            clear hK K
            try simp only [Act.put, List.setIfInBounds_toArray, List.set_cons_zero, List.set_cons_succ]
            refine wpAnyH_done (by kernel_rfl) ?_ _
            have HN := Lib.hid hHeld.2
            have HR9 := Lib.hid ((HT2.out.1.drew).set 2 (.complex .f64 o1 o2))
            clear hHeld HT2
            go_wp2_with fail
            go_roundw
            case rel => first | exact ⟨3, by omega, by go_num, HR9.out, HN.out⟩ | exact ⟨_, _, _, _, _, _, _, _, _, _, _, _, _, _, _, _, _, _, _, ⟨3, by omega, rfl, HR9.out, HN.out⟩, rfl⟩
            case measure => simp [intOf]
          ·
            go_simp
            refine hK.out _ _ ?_ (fun hHeld => ?_)
            · exact hHeld
            clear hK K
            try simp only [Act.put, List.setIfInBounds_toArray, List.set_cons_zero, List.set_cons_succ]
            refine wpAnyH_take (i := 9) (oi := ⟨some 45, _, _, _, _, _⟩) (v := ?_) rfl (by kernel_rfl) (by kernel_rfl) (by kernel_rfl) (fun _ _ _ h => h) (Or.inl ⟨by kernel_rfl, ?_⟩) hHeld ?_
            rotate_left
            · intro w1 hSw; (try dsimp only at hSw); go_simp <;> with_reducible rfl
            try simp only [Act.put, List.setIfInBounds_toArray, List.set_cons_zero, List.set_cons_succ]
            refine wpAnyH_ready (rs := [2]) (by kernel_rfl) (by simp) ?_
            refine AllReadyH.cons rfl (fun K hK => ?_) (AllReadyH.nil)
            have cc := (HT2.out.1.drew).cell 2
            simp only [List.getElem?_cons_succ, List.getElem?_cons_zero] at cc
            go_simp
            refine hK.out _ _ ?_ (fun hHeld => ?_)
            · exact hHeld
            clear hK K
            try simp only [Act.put, List.setIfInBounds_toArray, List.set_cons_zero, List.set_cons_succ]
            refine wpAnyH_take (i := 10) (oi := ⟨some 46, _, _, _, _, _⟩) (v := ?_) rfl (by kernel_rfl) (by kernel_rfl) (by kernel_rfl) (fun _ _ _ h => h) (Or.inl ⟨by kernel_rfl, ?_⟩) hHeld ?_
            rotate_left
            · intro w1 hSw; (try dsimp only at hSw); go_simp <;> with_reducible rfl
            try simp only [Act.put, List.setIfInBounds_toArray, List.set_cons_zero, List.set_cons_succ]
            refine wpAnyH_take (i := 11) (oi := ⟨some 47, _, _, _, _, _⟩) (v := ?_) rfl (by kernel_rfl) (by kernel_rfl) (by kernel_rfl) (fun _ _ _ h => h) (Or.inl ⟨by kernel_rfl, ?_⟩) hHeld ?_
            rotate_left
            · intro w1 hSw; (try dsimp only at hSw); go_simp <;> with_reducible rfl
            try simp only [Act.put, List.setIfInBounds_toArray, List.set_cons_zero, List.set_cons_succ]
            refine wpAnyH_ready (rs := [12]) (by kernel_rfl) (by simp) ?_
            refine AllReadyH.cons rfl (fun K hK => ?_) (AllReadyH.nil)
            have cc := (HT2.out.1.drew).cell 2
            simp only [List.getElem?_cons_succ, List.getElem?_cons_zero] at cc
            have ff := (HT2.out.1.drew).free 2
            go_simp
            refine hK.out _ _ ?_ (fun hHeld => ?_)
            · exact ⟨⟨(.complex .f64 o1 o2), (HT2.out.1.drew).set 2 (.complex .f64 o1 o2)⟩, (hHeld.2.1).far (by dsimp only; omega) _, (hHeld.2.2.1).far (by dsimp only; omega) _, (hHeld.2.2.2.1).far (by dsimp only; omega) _, (hHeld.2.2.2.2.1).far (by dsimp only; omega) _, (hHeld.2.2.2.2.2).setCell (by dsimp only; omega) _⟩
            clear hK K
            try simp only [Act.put, List.setIfInBounds_toArray, List.set_cons_zero, List.set_cons_succ]
            refine wpAnyH_done (by kernel_rfl) ?_ _
            have HN := Lib.hid hHeld.2
            have HR9 := Lib.hid ((HT2.out.1.drew).set 2 (.complex .f64 o1 o2))
            clear hHeld HT2
            go_wp2_with fail
            go_roundw
            case rel => first | exact ⟨3, by omega, by go_num, HR9.out, HN.out⟩ | exact ⟨_, _, _, _, _, _, _, _, _, _, _, _, _, _, _, _, _, _, _, ⟨3, by omega, rfl, HR9.out, HN.out⟩, rfl⟩
            case measure => simp [intOf]
        · have HT3 : Hid (Row wr (g + 1 + 1) 129 [.complex .f64 m1 m2, .complex .f64 n1 n2, .complex .f64 o1 o2, .complex .f64 v1 v2] ∧ Row wr w.heap.size 129 [.complex .f64 a1 a2, .complex .f64 b1 b2, .complex .f64 c1 c2, .complex .f64 d1 d2] ∧ Row wr (w.heap.size + 1) 129 [.complex .f64 0 0, .complex .f64 0 0, .complex .f64 0 0, .complex .f64 0 0] ∧ Row wr g 120 [.int .i64 1, .int .i64 1, .int .i64 (-1), .int .i64 (-1)] ∧ Row wr (g + 1) 120 [.int .i64 1, .int .i64 (-1), .int .i64 1, .int .i64 (-1)] ∧ Below w.heap.size w wr) := HJ.out
          clear HJ
          go_upto_region 9 with fail
          refine genT (fun V => Row V (g + 1 + 1) 129 [.complex .f64 m1 m2, .complex .f64 n1 n2, .complex .f64 o1 o2, .complex .f64 v1 v2] ∧ Row V w.heap.size 129 [.complex .f64 a1 a2, .complex .f64 b1 b2, .complex .f64 c1 c2, .complex .f64 d1 d2] ∧ Row V (w.heap.size + 1) 129 [.complex .f64 0 0, .complex .f64 0 0, .complex .f64 0 0, .complex .f64 0 0] ∧ Row V g 120 [.int .i64 1, .int .i64 1, .int .i64 (-1), .int .i64 (-1)] ∧ Row V (g + 1) 120 [.int .i64 1, .int .i64 (-1), .int .i64 1, .int .i64 (-1)] ∧ Below w.heap.size w V) HT3.out ?_
          clear HT3
          intro V3 r3
          have HT3 := Lib.hid r3
          clear r3
          refine wp_region_held_drew (S := fun V => (∃ u, Row V (g + 1 + 1) 129 [.complex .f64 m1 m2, .complex .f64 n1 n2, .complex .f64 o1 o2, u]) ∧ Row V w.heap.size 129 [.complex .f64 a1 a2, .complex .f64 b1 b2, .complex .f64 c1 c2, .complex .f64 d1 d2] ∧ Row V (w.heap.size + 1) 129 [.complex .f64 0 0, .complex .f64 0 0, .complex .f64 0 0, .complex .f64 0 0] ∧ Row V g 120 [.int .i64 1, .int .i64 1, .int .i64 (-1), .int .i64 (-1)] ∧ Row V (g + 1) 120 [.int .i64 1, .int .i64 (-1), .int .i64 1, .int .i64 (-1)] ∧ Below w.heap.size w V) (by kernel_rfl) ?_ (fun hHeld => ?_)
          · exact ⟨⟨_, HT3.out.1.drew⟩, (HT3.out.2.1).drew, (HT3.out.2.2.1).drew, (HT3.out.2.2.2.1).drew, (HT3.out.2.2.2.2.1).drew, (HT3.out.2.2.2.2.2).drew⟩
          refine wpAnyH_take (i := 0) (oi := ⟨some 36, _, _, _, _, _⟩) (v := ?_) rfl (by kernel_rfl) (by kernel_rfl) (by kernel_rfl) (fun _ _ _ h => h) (Or.inl ⟨by kernel_rfl, ?_⟩) hHeld ?_
          rotate_left
          · intro w1 hSw; (try dsimp only at hSw); go_simp <;> with_reducible rfl
          try simp only [Act.put, List.setIfInBounds_toArray, List.set_cons_zero, List.set_cons_succ]
          refine wpAnyH_take (i := 1) (oi := ⟨some 37, _, _, _, _, _⟩) (v := ?_) rfl (by kernel_rfl) (by kernel_rfl) (by kernel_rfl) (fun _ _ _ h => h) (Or.inl ⟨by kernel_rfl, ?_⟩) hHeld ?_
          rotate_left
          · intro w1 hSw; (try dsimp only at hSw); go_simp <;> with_reducible rfl
          try simp only [Act.put, List.setIfInBounds_toArray, List.set_cons_zero, List.set_cons_succ]
          refine wpAnyH_take (i := 3) (oi := ⟨some 39, _, _, _, _, _⟩) (v := ?_) rfl (by kernel_rfl) (by kernel_rfl) (by kernel_rfl) (fun _ _ _ h => h) (Or.inl ⟨by kernel_rfl, ?_⟩) hHeld ?_
          rotate_left
          · intro w1 hSw; (try dsimp only at hSw); go_simp <;> with_reducible rfl
          try simp only [Act.put, List.setIfInBounds_toArray, List.set_cons_zero, List.set_cons_succ]
          refine wpAnyH_take (i := 4) (oi := ⟨some 40, _, _, _, _, _⟩) (v := ?_) rfl (by kernel_rfl) (by kernel_rfl) (by kernel_rfl) (fun _ _ _ h => h) (Or.inl ⟨by kernel_rfl, ?_⟩) hHeld ?_
          rotate_left
          · intro w1 hSw; (try dsimp only at hSw); go_simp <;> with_reducible rfl
          try simp only [Act.put, List.setIfInBounds_toArray, List.set_cons_zero, List.set_cons_succ]
          refine wpAnyH_take (i := 5) (oi := ⟨some 41, _, _, _, _, _⟩) (v := ?_) rfl (by kernel_rfl) (by kernel_rfl) (by kernel_rfl) (fun _ _ _ h => h) (Or.inl ⟨by kernel_rfl, ?_⟩) hHeld ?_
          rotate_left
          · intro w1 hSw; (try dsimp only at hSw); have cc := (hSw.2.1).cell t; rw [HP.out] at cc; go_simp <;> with_reducible rfl
          try simp only [Act.put, List.setIfInBounds_toArray, List.set_cons_zero, List.set_cons_succ]
          refine wpAnyH_take (i := 6) (oi := ⟨some 42, _, _, _, _, _⟩) (v := ?_) rfl (by kernel_rfl) (by kernel_rfl) (by kernel_rfl) (fun _ _ _ h => h) (Or.inl ⟨by kernel_rfl, ?_⟩) hHeld ?_
          rotate_left
          · intro w1 hSw; (try dsimp only at hSw); go_simp <;> with_reducible rfl
          try simp only [Act.put, List.setIfInBounds_toArray, List.set_cons_zero, List.set_cons_succ]
          refine wpAnyH_take (i := 7) (oi := ⟨some 43, _, _, _, _, _⟩) (v := ?_) rfl (by kernel_rfl) (by kernel_rfl) (by kernel_rfl) (fun _ _ _ h => h) (Or.inl ⟨by kernel_rfl, ?_⟩) hHeld ?_
          rotate_left
          · intro w1 hSw; (try dsimp only at hSw); go_simp <;> with_reducible rfl
          try simp only [Act.put, List.setIfInBounds_toArray, List.set_cons_zero, List.set_cons_succ]
          refine wpAnyH_ready (rs := [2, 8]) (by kernel_rfl) (by simp) ?_
          refine AllReadyH.cons rfl (fun K hK => ?_) (AllReadyH.cons rfl (fun K hK => ?_) (AllReadyH.nil))
          ·
            have cc := (HT3.out.1.drew).cell 3
            simp only [List.getElem?_cons_succ, List.getElem?_cons_zero] at cc
            go_simp
            refine hK.out _ _ ?_ (fun hHeld => ?_)
            · exact hHeld
            clear hK K
            try simp only [Act.put, List.setIfInBounds_toArray, List.set_cons_zero, List.set_cons_succ]
            refine wpAnyH_ready (rs := [8]) (by kernel_rfl) (by simp) ?_
            refine AllReadyH.cons rfl (fun K hK => ?_) (AllReadyH.nil)
            go_simp
            refine hK.out _ _ ?_ (fun hHeld => ?_)
            · exact hHeld
            clear hK K
            try simp only [Act.put, List.setIfInBounds_toArray, List.set_cons_zero, List.set_cons_succ]
            refine wpAnyH_take (i := 9) (oi := ⟨some 45, _, _, _, _, _⟩) (v := ?_) rfl (by kernel_rfl) (by kernel_rfl) (by kernel_rfl) (fun _ _ _ h => h) (Or.inl ⟨by kernel_rfl, ?_⟩) hHeld ?_
            rotate_left
            · intro w1 hSw; (try dsimp only at hSw); go_simp <;> with_reducible rfl
            try simp only [Act.put, List.setIfInBounds_toArray, List.set_cons_zero, List.set_cons_succ]
            refine wpAnyH_take (i := 10) (oi := ⟨some 46, _, _, _, _, _⟩) (v := ?_) rfl (by kernel_rfl) (by kernel_rfl) (by kernel_rfl) (fun _ _ _ h => h) (Or.inl ⟨by kernel_rfl, ?_⟩) hHeld ?_
            rotate_left
            · intro w1 hSw; (try dsimp only at hSw); go_simp <;> with_reducible rfl
            try simp only [Act.put, List.setIfInBounds_toArray, List.set_cons_zero, List.set_cons_succ]
            refine wpAnyH_take (i := 11) (oi := ⟨some 47, _, _, _, _, _⟩) (v := ?_) rfl (by kernel_rfl) (by kernel_rfl) (by kernel_rfl) (fun _ _ _ h => h) (Or.inl ⟨by kernel_rfl, ?_⟩) hHeld ?_
            rotate_left
            · intro w1 hSw; (try dsimp only at hSw); go_simp <;> with_reducible rfl
            try simp only [Act.put, List.setIfInBounds_toArray, List.set_cons_zero, List.set_cons_succ]
            refine wpAnyH_ready (rs := [12]) (by kernel_rfl) (by simp) ?_
            refine AllReadyH.cons rfl (fun K hK => ?_) (AllReadyH.nil)
            have cc := (HT3.out.1.drew).cell 3
            simp only [List.getElem?_cons_succ, List.getElem?_cons_zero] at cc
            have ff := (HT3.out.1.drew).free 3
            go_simp
            refine hK.out _ _ ?_ (fun hHeld => ?_)
            · exact ⟨⟨(.complex .f64 p1 p2), (HT3.out.1.drew).set 3 (.complex .f64 p1 p2)⟩, (hHeld.2.1).far (by dsimp only; omega) _, (hHeld.2.2.1).far (by dsimp only; omega) _, (hHeld.2.2.2.1).far (by dsimp only; omega) _, (hHeld.2.2.2.2.1).far (by dsimp only; omega) _, (hHeld.2.2.2.2.2).setCell (by dsimp only; omega) _⟩
            clear hK K
            try simp only [Act.put, List.setIfInBounds_toArray, List.set_cons_zero, List.set_cons_succ]
            refine wpAnyH_done (by kernel_rfl) ?_ _
            have HN := Lib.hid hHeld.2
            have HR9 := Lib.hid ((HT3.out.1.drew).set 3 (.complex .f64 p1 p2))
            clear hHeld HT3
            go_wp2_with fail
            go_roundw
            case rel => first | exact ⟨4, by omega, by go_num, HR9.out, HN.out⟩ | exact ⟨_, _, _, _, _, _, _, _, _, _, _, _, _, _, _, _, _, _, _, ⟨4, by omega, rfl, HR9.out, HN.out⟩, rfl⟩
            case measure => simp [intOf]
          ·
            go_simp
            refine hK.out _ _ ?_ (fun hHeld => ?_)
            · exact hHeld
            clear hK K
            try simp only [Act.put, List.setIfInBounds_toArray, List.set_cons_zero, List.set_cons_succ]
            refine wpAnyH_take (i := 9) (oi := ⟨some 45, _, _, _, _, _⟩) (v := ?_) rfl (by kernel_rfl) (by kernel_rfl) (by kernel_rfl) (fun _ _ _ h => h) (Or.inl ⟨by kernel_rfl, ?_⟩) hHeld ?_
            rotate_left
            · intro w1 hSw; (try dsimp only at hSw); go_simp <;> with_reducible rfl
            try simp only [Act.put, List.setIfInBounds_toArray, List.set_cons_zero, List.set_cons_succ]
            refine wpAnyH_ready (rs := [2]) (by kernel_rfl) (by simp) ?_
            refine AllReadyH.cons rfl (fun K hK => ?_) (AllReadyH.nil)
            have cc := (HT3.out.1.drew).cell 3
            simp only [List.getElem?_cons_succ, List.getElem?_cons_zero] at cc
            go_simp
            refine hK.out _ _ ?_ (fun hHeld => ?_)
            · exact hHeld
            clear hK K
            try simp only [Act.put, List.setIfInBounds_toArray, List.set_cons_zero, List.set_cons_succ]
            refine wpAnyH_take (i := 10) (oi := ⟨some 46, _, _, _, _, _⟩) (v := ?_) rfl (by kernel_rfl) (by kernel_rfl) (by kernel_rfl) (fun _ _ _ h => h) (Or.inl ⟨by kernel_rfl, ?_⟩) hHeld ?_
            rotate_left
            · intro w1 hSw; (try dsimp only at hSw); go_simp <;> with_reducible rfl
            try simp only [Act.put, List.setIfInBounds_toArray, List.set_cons_zero, List.set_cons_succ]
            refine wpAnyH_take (i := 11) (oi := ⟨some 47, _, _, _, _, _⟩) (v := ?_) rfl (by kernel_rfl) (by kernel_rfl) (by kernel_rfl) (fun _ _ _ h => h) (Or.inl ⟨by kernel_rfl, ?_⟩) hHeld ?_
            rotate_left
            · intro w1 hSw; (try dsimp only at hSw); go_simp <;> with_reducible rfl
            try simp only [Act.put, List.setIfInBounds_toArray, List.set_cons_zero, List.set_cons_succ]
            refine wpAnyH_ready (rs := [12]) (by kernel_rfl) (by simp) ?_
            refine AllReadyH.cons rfl (fun K hK => ?_) (AllReadyH.nil)
            have cc := (HT3.out.1.drew).cell 3
            simp only [List.getElem?_cons_succ, List.getElem?_cons_zero] at cc
            have ff := (HT3.out.1.drew).free 3
            go_simp
            refine hK.out _ _ ?_ (fun hHeld => ?_)
            · exact ⟨⟨(.complex .f64 p1 p2), (HT3.out.1.drew).set 3 (.complex .f64 p1 p2)⟩, (hHeld.2.1).far (by dsimp only; omega) _, (hHeld.2.2.1).far (by dsimp only; omega) _, (hHeld.2.2.2.1).far (by dsimp only; omega) _, (hHeld.2.2.2.2.1).far (by dsimp only; omega) _, (hHeld.2.2.2.2.2).setCell (by dsimp only; omega) _⟩
            clear hK K
            try simp only [Act.put, List.setIfInBounds_toArray, List.set_cons_zero, List.set_cons_succ]
            refine wpAnyH_done (by kernel_rfl) ?_ _
            have HN := Lib.hid hHeld.2
            have HR9 := Lib.hid ((HT3.out.1.drew).set 3 (.complex .f64 p1 p2))
            clear hHeld HT3
            go_wp2_with fail
            go_roundw
            case rel => first | exact ⟨4, by omega, by go_num, HR9.out, HN.out⟩ | exact ⟨_, _, _, _, _, _, _, _, _, _, _, _, _, _, _, _, _, _, _, ⟨4, by omega, rfl, HR9.out, HN.out⟩, rfl⟩
            case measure => simp [intOf]
        · have HT4 : Hid (Row wr (g + 1 + 1) 129 [.complex .f64 m1 m2, .complex .f64 n1 n2, .complex .f64 o1 o2, .complex .f64 p1 p2] ∧ Row wr w.heap.size 129 [.complex .f64 a1 a2, .complex .f64 b1 b2, .complex .f64 c1 c2, .complex .f64 d1 d2] ∧ Row wr (w.heap.size + 1) 129 [.complex .f64 0 0, .complex .f64 0 0, .complex .f64 0 0, .complex .f64 0 0] ∧ Row wr g 120 [.int .i64 1, .int .i64 1, .int .i64 (-1), .int .i64 (-1)] ∧ Row wr (g + 1) 120 [.int .i64 1, .int .i64 (-1), .int .i64 1, .int .i64 (-1)] ∧ Below w.heap.size w wr) := HJ.out
          clear HJ
          go_wp2_with fail
          go_roundw
          case rel => exact ⟨t + 1, by omega, by go_num, by rw [← HQT.out]; exact HT4.out⟩
          case measure => simp [intOf]; omega
    · obtain rfl : t = 4 := by omega
      obtain ⟨⟨⟨m1, m2⟩, ⟨n1, n2⟩, ⟨o1, o2⟩, ⟨p1, p2⟩⟩, hs⟩ : ∃ p, p = Q 4 := ⟨_, rfl⟩
      rw [← hs] at HR
      have HSX := Lib.hid hs
      clear hs
      have HR5 : Hid (Row wr (g + 1 + 1) 129 [.complex .f64 m1 m2, .complex .f64 n1 n2, .complex .f64 o1 o2, .complex .f64 p1 p2]) := HR.out.1
      have hr0 := HR.out.2.2.1
      have hbw := HR.out.2.2.2.2.2
      go_wp2_with (first
        | (refine wpList_store_row rfl 129 _ _ rfl (w.heap.size + 1) #[.complex .f64 m1 m2, .complex .f64 n1 n2, .complex .f64 o1 o2, .complex .f64 p1 p2] rfl rfl 129 _ hr0 ?_ ?_ ?_ ?_; (kernel_rfl); (rfl); (simp [Value.oneCell']))
        | (refine wpList_load_row rfl 129 _ rfl (g + 1 + 1) rfl 129 #[.complex .f64 m1 m2, .complex .f64 n1 n2, .complex .f64 o1 o2, .complex .f64 p1 p2] (0, 0) _ HR5.out Tryz.underlying129 rfl ?_ ?_; (kernel_rfl)))
      refine bodyPost_ret (results_rowA rfl _ _ (w.heap.size + 1) 129 #[.complex .f64 m1 m2, .complex .f64 n1 n2, .complex .f64 o1 o2, .complex .f64 p1 p2] (0, 0) _ rfl (hr0.setRow [.complex .f64 m1 m2, .complex .f64 n1 n2, .complex .f64 o1 o2, .complex .f64 p1 p2]) Tryz.underlying129 rfl (by kernel_rfl)) rfl ⟨by rw [← HSX.out]; rfl, Below.setRow hbw (by omega) _⟩
end Go.Proofs.YtlflfieknibgmaaGreatDoor
