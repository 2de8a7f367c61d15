import Derived.Test.YtoclnlimnjnbkaaGreatDoorM15
import Derived.WalkLawsBesides
import Derived.Deep.RegionLaw
namespace Go.Proofs.YtoclnlimnjnbkaaGreatDoor
set_option linter.all false
open Go.RowKit Go.Fl
theorem step_app {P : Program} {w : World} {ops : Array Oper} {o : Oper} {a : Act} {K : Act → World → Prop} {Q : Exit → Act → World → Prop} {E : Prop} (hgd : o.guard = none) (s x : Operand) (t : TypeId)
    (ho : o.op = .call { callee := .builtin .append, args := #[s, x], argTypes := #[t, t] })
    (base : Nat) (e : TypeId) (z : Value) (size bytes : Nat) (ht : P.underlying t = some (.slice e)) (hinfo : (P.info? e).map (fun i => (i.zero, i.size, i.bytes)) = some (some z, size, bytes)) (hzs : z.cells.size = size) (hsz : 0 < size)
    (v : Value) (n : Nat) (xs : List Value) (hs : a.eval s = v) (hown : w.ownsRow base e size v n xs)
    (g m c : Nat) (news : List Value) (hx : a.eval x = .slice (some ⟨g, 0, none⟩) m c) (u : TypeId) (hr : Row w g u news) (hl : news.length = m * size) (h1 : ∀ u ∈ news, u.oneCell' = true)
    (h63 : n + m ≤ maxLen) (hbytes : (n + m) * bytes ≤ 140737488355328) (hbase : base ≤ w.heap.size)
    (h : ∀ v' w', w'.ownsRow base e size v' (n + m) (xs ++ news) → w.grownBy w' v.ownBlock → K (a.put o.dst v') w') :
    if Region.wanted o (yielded ops a.tmps) = true then Oper.wp P o a w K Q else E := by
  have hw : Region.wanted o (yielded ops a.tmps) = true := by simp [Region.wanted, hgd]
  rw [if_pos hw]
  obtain ⟨i, hi, hz0, hz1, hz2⟩ := info_parts hinfo
  exact wp_append_own w s x t ho base e i z size bytes ht hi hz0 hz1 hz2 hzs hsz v n xs hs hown ⟨g, 0, none⟩ m c news hx hl
    (fun j u hu => by
      obtain ⟨b, off, hh, hcell⟩ := Rd.row hr j u hu
      cases hh
      by_cases hj : j = 0
      · subst hj; simpa [Addr.add] using hcell
      · simpa [Addr.add, hj] using hcell) h1 h63 hbytes hbase fun v' w' h2 h3 _ => h v' w' h2 h3
theorem row_owns {w : World} {g : Nat} {e : TypeId} {vs : List Value} (h : Row w g e vs) (size n B : Nat) (hl : vs.length = n * size) (hn : n ≤ maxLen) (hB : B ≤ g) : w.ownsRow B e size (.slice (some ⟨g, 0, none⟩) n n) n vs :=
  ⟨hl, .inr ⟨g, n, vs.toArray, rfl, hB, h, Nat.le_refl _, hn, by simpa using hl, by rw [← hl]; simp⟩⟩
theorem splice_zero (z : Value) (cs ds : List Value) (n m : Nat) (hn : n = cs.length) (hm : m = ds.length) : splice (splice (List.replicate (n + m) z) 0 cs) n ds = cs ++ ds := by
  subst hn; subst hm
  have e1 : splice (List.replicate (cs.length + ds.length) z) 0 cs = cs ++ List.replicate ds.length z := by
    simp [splice]
  rw [e1]
  simp [splice]
theorem markC_one (l : List (Int × ByteArray)) : ∀ v ∈ markC l, v.oneCell' = true := by
  intro v hv
  simp only [markC, List.mem_flatMap] at hv
  obtain ⟨p, -, hp⟩ := hv
  rcases List.mem_cons.1 hp with rfl | hp
  · rfl
  · rcases List.mem_cons.1 hp with rfl | hp
    · rfl
    · cases hp
theorem flts_one (l : List Nat) : ∀ v ∈ flts l, v.oneCell' = true := by
  intro v hv; obtain ⟨b, -, rfl⟩ := List.mem_map.1 hv; rfl
theorem genF {p : World → Prop} {w0 w : World} (g : Nat) (t : TypeId) (v : List Value) (h0 : Row w g t v) (hb : Below w0.heap.size w0 w) (h : ∀ W, Row W g t v → Below w0.heap.size w0 W → p W) : p w := h w h0 hb
theorem slice_end {P : Program} (t : TypeId) (ht : P.underlying t = some (.slice (P.elem t))) (hs : ∀ w, (sizeOf (P.elem t)).run P w = .ok 1 w) (g n m : Nat) (w : World) :
    (Instr.slice t (.slice (some ⟨g, 0, none⟩) (n + m) (n + m)) (some (.int .i64 (n : Int))) none none).run P w = .ok (.slice (some ⟨g, if m = 0 then 0 else n, none⟩) m m) w := by
  rw [run_slice_l w t (some ⟨g, 0, none⟩) (n + m) (n + m) ht .i64 (n : Int) (by omega) (by omega), hs]
  simp only [Result.andThen, sliced, Nat.mul_one, Int.toNat_natCast]
  by_cases hm : m = 0
  · subst hm; simp
  · have hne : ¬ n + m = n := by omega
    rw [if_neg hne, if_neg hm]
    by_cases hj : n = 0
    · subst hj; simp [Addr.add]
    · simp [Addr.add, hj]
set_option maxRecDepth 100000 in
set_option maxHeartbeats 4000000 in
theorem joined_ok (st sp : Int) (A1 B1 A2 B2 : Option Addr) (n1 c1 m1 d1 n2 c2 m2 d2 : Nat) (xs ys : List Nat) (ms ns : List (Int × ByteArray)) (st2 : Int) (w : World) (hA1 : Rd w A1 (flts xs)) (hB1 : Rd w B1 (markC ms)) (hA2 : Rd w A2 (flts ys)) (hB2 : Rd w B2 (markC ns)) (hn1 : n1 = xs.length) (hm1 : m1 = ms.length) (hn2 : n2 = ys.length) (hm2 : m2 = ns.length)
    (h1 : recI st sp xs ms = 0) (h2 : recI (tickI st sp xs.length) sp ys ns = 0) (hst : st2 = tickI st sp xs.length) (hxy : xs.length + ys.length ≤ 4096) (hmn : ms.length + ns.length ≤ 16) :
    Calls Tryz.prog 39 #[.agg #[.int .i64 st, .int .i64 sp, .slice A1 n1 c1, .slice B1 m1 d1], .agg #[.int .i64 st2, .int .i64 sp, .slice A2 n2 c2, .slice B2 m2 d2]] w
      fun e w' => ∃ g v, e = .returned (.tuple #[.agg #[.int .i64 st, .int .i64 sp, .slice (some ⟨g, 0, none⟩) (xs.length + ys.length) (xs.length + ys.length), v], .int .i64 0]) ∧
        Row w' g 56 (flts (xs ++ ys)) ∧ w'.ownsRow w.heap.size 117 2 v (ms.length + ns.length) (markC (ms.map (shiftM 0) ++ ns.map (shiftM xs.length))) ∧ w.heap.size ≤ g ∧ Below w.heap.size w w' := by
  subst hn1; subst hm1; subst hn2; subst hm2; subst hst
  have HA1 : Hid (∀ W, Below w.heap.size w W → Rd W A1 (flts xs)) := fun W h => hA1.below h
  have HB1 : Hid (∀ W, Below w.heap.size w W → Rd W B1 (markC ms)) := fun W h => hB1.below h
  have HA2 : Hid (∀ W, Below w.heap.size w W → Rd W A2 (flts ys)) := fun W h => hA2.below h
  have HB2 : Hid (∀ W, Below w.heap.size w W → Rd W B2 (markC ns)) := fun W h => hB2.below h
  have H1 := Lib.hid h1; have H2 := Lib.hid h2
  clear hA1 hB1 hA2 hB2 h1 h2
  have R0 := Row.new w 33 [.int .i64 st, .int .i64 sp, .slice A1 xs.length c1, .slice B1 ms.length d1]
  have R1 := Row.new (w.alloc (.cells #[.int .i64 st, .int .i64 sp, .slice A1 xs.length c1, .slice B1 ms.length d1] 33)) 33 [.int .i64 (tickI st sp xs.length), .int .i64 sp, .slice A2 ys.length c2, .slice B2 ns.length d2]
  have R2 := Row.new ((w.alloc (.cells #[.int .i64 st, .int .i64 sp, .slice A1 xs.length c1, .slice B1 ms.length d1] 33)).alloc (.cells #[.int .i64 (tickI st sp xs.length), .int .i64 sp, .slice A2 ys.length c2, .slice B2 ns.length d2] 33)) 33 zero4
  rw [World.size_alloc] at R1
  rw [World.size_alloc, World.size_alloc] at R2
  have R0' := (R0.alloc (.cells #[.int .i64 (tickI st sp xs.length), .int .i64 sp, .slice A2 ys.length c2, .slice B2 ns.length d2] 33)).alloc (.cells zero4.toArray 33)
  have R1' := R1.alloc (.cells zero4.toArray 33)
  have RB := (((Below.refl w.heap.size w).alloc (Nat.le_refl _) (.cells #[.int .i64 st, .int .i64 sp, .slice A1 xs.length c1, .slice B1 ms.length d1] 33)).alloc (by simp) (.cells #[.int .i64 (tickI st sp xs.length), .int .i64 sp, .slice A2 ys.length c2, .slice B2 ns.length d2] 33)).alloc (by simp; omega) (.cells zero4.toArray 33)
  have HR0 := Lib.hid R0'; have HR1 := Lib.hid R1'; have HR2 := Lib.hid R2; have HRB := Lib.hid RB
  clear R0 R1 R2 R0' R1' RB
  have hxy1 : IntKind.i64.wrap ((xs.length : Int) + (ys.length : Int)) = (xs.length : Int) + (ys.length : Int) := IntWalk.i64_in _ (by omega)
  have hmn1 : IntKind.i64.wrap ((ms.length : Int) + (ns.length : Int)) = (ms.length : Int) + (ns.length : Int) := IntWalk.i64_in _ (by omega)
  have hxy2 : decide ((4096 : Int) < (xs.length : Int) + (ys.length : Int)) = false := decide_eq_false (by omega)
  have hmn2 : decide ((16 : Int) < (ms.length : Int) + (ns.length : Int)) = false := decide_eq_false (by omega)
  go_enter Tryz.func39, Tryz.ntmps39
  go_upto_region 1 with fail
  refine genD (w0 := w) w.heap.size (w.heap.size + 1) (w.heap.size + 1 + 1) _ _ _ _ _ _ HR0.out HR1.out HR2.out HRB.out ?_
  clear HR0 HR1 HR2 HRB
  intro W R0 R1 R2 RB
  have G0 := Lib.hid R0; have G1 := Lib.hid R1; have G2 := Lib.hid R2; have GB := Lib.hid RB
  have s2 := R2.lt
  have S2 := Lib.hid s2
  clear R0 R1 R2 RB s2
  refine wp_region_held_drew (S := fun w' => w'.cell? ⟨w.heap.size, 0, none⟩ = some (.int .i64 st) ∧ w'.cell? ⟨w.heap.size, 1, none⟩ = some (.int .i64 sp) ∧ w'.cell? ⟨w.heap.size, 2, none⟩ = some (.slice A1 xs.length c1) ∧ w'.cell? ⟨w.heap.size, 3, none⟩ = some (.slice B1 ms.length d1) ∧ w'.cell? ⟨w.heap.size + 1, 0, none⟩ = some (.int .i64 (tickI st sp xs.length)) ∧ w'.cell? ⟨w.heap.size + 1, 1, none⟩ = some (.int .i64 sp) ∧ w'.cell? ⟨w.heap.size + 1, 2, none⟩ = some (.slice A2 ys.length c2) ∧ w'.cell? ⟨w.heap.size + 1, 3, none⟩ = some (.slice B2 ns.length d2) ∧ Below W.heap.size W w') (by kernel_rfl) ?_ (fun hHeld => ?_)
  · exact ⟨G0.out.cell 0, G0.out.cell 1, G0.out.cell 2, G0.out.cell 3, G1.out.cell 0, G1.out.cell 1, G1.out.cell 2, G1.out.cell 3, (Below.refl _ _).drew⟩
  refine wpAnyH_take (i := 0) (v := ?_) rfl (by kernel_rfl) (by kernel_rfl) (by kernel_rfl) (fun _ _ _ h => h) (Or.inl ⟨by kernel_rfl, ?_⟩) hHeld ?_
  rotate_left
  · intro w1 hSw; (try dsimp only at hSw); go_simp <;> with_reducible rfl
  try simp only [Act.put, List.setIfInBounds_toArray, List.set_cons_zero, List.set_cons_succ]
  refine wpAnyH_take (i := 2) (v := ?_) rfl (by kernel_rfl) (by kernel_rfl) (by kernel_rfl) (fun _ _ _ h => h) (Or.inl ⟨by kernel_rfl, ?_⟩) hHeld ?_
  rotate_left
  · intro w1 hSw; (try dsimp only at hSw); go_simp <;> with_reducible rfl
  try simp only [Act.put, List.setIfInBounds_toArray, List.set_cons_zero, List.set_cons_succ]
  refine wpAnyH_take (i := 4) (v := ?_) rfl (by kernel_rfl) (by kernel_rfl) (by kernel_rfl) (fun _ _ _ h => h) (Or.inl ⟨by kernel_rfl, ?_⟩) hHeld ?_
  rotate_left
  · intro w1 hSw; (try dsimp only at hSw); go_simp <;> with_reducible rfl
  try simp only [Act.put, List.setIfInBounds_toArray, List.set_cons_zero, List.set_cons_succ]
  refine wpAnyH_take (i := 5) (v := ?_) rfl (by kernel_rfl) (by kernel_rfl) (by kernel_rfl) (fun _ _ _ h => h) (Or.inl ⟨by kernel_rfl, ?_⟩) hHeld ?_
  rotate_left
  · intro w1 hSw; (try dsimp only at hSw); go_simp <;> with_reducible rfl
  try simp only [Act.put, List.setIfInBounds_toArray, List.set_cons_zero, List.set_cons_succ]
  refine wpAnyH_take (i := 6) (v := ?_) rfl (by kernel_rfl) (by kernel_rfl) (by kernel_rfl) (fun _ _ _ h => h) (Or.inl ⟨by kernel_rfl, ?_⟩) hHeld ?_
  rotate_left
  · intro w1 hSw; (try dsimp only at hSw); go_simp <;> with_reducible rfl
  try simp only [Act.put, List.setIfInBounds_toArray, List.set_cons_zero, List.set_cons_succ]
  refine wpAnyH_take (i := 7) (v := ?_) rfl (by kernel_rfl) (by kernel_rfl) (by kernel_rfl) (fun _ _ _ h => h) (Or.inl ⟨by kernel_rfl, ?_⟩) hHeld ?_
  rotate_left
  · intro w1 hSw; (try dsimp only at hSw); go_simp <;> with_reducible rfl
  try simp only [Act.put, List.setIfInBounds_toArray, List.set_cons_zero, List.set_cons_succ]
  refine wpAnyH_take (i := 8) (v := ?_) rfl (by kernel_rfl) (by kernel_rfl) (by kernel_rfl) (fun _ _ _ h => h) (Or.inl ⟨by kernel_rfl, ?_⟩) hHeld ?_
  rotate_left
  · intro w1 hSw; (try dsimp only at hSw); go_simp <;> with_reducible rfl
  try simp only [Act.put, List.setIfInBounds_toArray, List.set_cons_zero, List.set_cons_succ]
  refine wpAnyH_take (i := 10) (v := ?_) rfl (by kernel_rfl) (by kernel_rfl) (by kernel_rfl) (fun _ _ _ h => h) (Or.inl ⟨by kernel_rfl, ?_⟩) hHeld ?_
  rotate_left
  · intro w1 hSw; (try dsimp only at hSw); go_simp <;> with_reducible rfl
  try simp only [Act.put, List.setIfInBounds_toArray, List.set_cons_zero, List.set_cons_succ]
  refine wpAnyH_take (i := 11) (v := ?_) rfl (by kernel_rfl) (by kernel_rfl) (by kernel_rfl) (fun _ _ _ h => h) (Or.inl ⟨by kernel_rfl, ?_⟩) hHeld ?_
  rotate_left
  · intro w1 hSw; (try dsimp only at hSw); go_simp <;> with_reducible rfl
  try simp only [Act.put, List.setIfInBounds_toArray, List.set_cons_zero, List.set_cons_succ]
  refine wpAnyH_take (i := 12) (v := ?_) rfl (by kernel_rfl) (by kernel_rfl) (by kernel_rfl) (fun _ _ _ h => h) (Or.inl ⟨by kernel_rfl, ?_⟩) hHeld ?_
  rotate_left
  · intro w1 hSw; (try dsimp only at hSw); go_simp <;> with_reducible rfl
  try simp only [Act.put, List.setIfInBounds_toArray, List.set_cons_zero, List.set_cons_succ]
  refine wpAnyH_take (i := 13) (v := ?_) rfl (by kernel_rfl) (by kernel_rfl) (by kernel_rfl) (fun _ _ _ h => h) (Or.inl ⟨by kernel_rfl, ?_⟩) hHeld ?_
  rotate_left
  · intro w1 hSw; (try dsimp only at hSw); go_simp <;> with_reducible rfl
  try simp only [Act.put, List.setIfInBounds_toArray, List.set_cons_zero, List.set_cons_succ]
  refine wpAnyH_take (i := 14) (v := ?_) rfl (by kernel_rfl) (by kernel_rfl) (by kernel_rfl) (fun _ _ _ h => h) (Or.inl ⟨by kernel_rfl, ?_⟩) hHeld ?_
  rotate_left
  · intro w1 hSw; (try dsimp only at hSw); go_simp <;> with_reducible rfl
  try simp only [Act.put, List.setIfInBounds_toArray, List.set_cons_zero, List.set_cons_succ]
  refine wpAnyH_take (i := 15) (v := ?_) rfl (by kernel_rfl) (by kernel_rfl) (by kernel_rfl) (fun _ _ _ h => h) (Or.inl ⟨by kernel_rfl, ?_⟩) hHeld ?_
  rotate_left
  · intro w1 hSw; (try dsimp only at hSw); go_simp <;> with_reducible rfl
  try simp only [Act.put, List.setIfInBounds_toArray, List.set_cons_zero, List.set_cons_succ]
  refine wpAnyH_take (i := 19) (v := ?_) rfl (by kernel_rfl) (by kernel_rfl) (by kernel_rfl) (fun _ _ _ h => h) (Or.inl ⟨by kernel_rfl, ?_⟩) hHeld ?_
  rotate_left
  · intro w1 hSw; (try dsimp only at hSw); go_simp <;> with_reducible rfl
  try simp only [Act.put, List.setIfInBounds_toArray, List.set_cons_zero, List.set_cons_succ]
  refine wpAnyH_take (i := 20) (v := ?_) rfl (by kernel_rfl) (by kernel_rfl) (by kernel_rfl) (fun _ _ _ h => h) (Or.inl ⟨by kernel_rfl, ?_⟩) hHeld ?_
  rotate_left
  · intro w1 hSw; (try dsimp only at hSw); go_simp <;> with_reducible rfl
  try simp only [Act.put, List.setIfInBounds_toArray, List.set_cons_zero, List.set_cons_succ]
  refine wpAnyH_take (i := 21) (v := ?_) rfl (by kernel_rfl) (by kernel_rfl) (by kernel_rfl) (fun _ _ _ h => h) (Or.inl ⟨by kernel_rfl, ?_⟩) hHeld ?_
  rotate_left
  · intro w1 hSw; (try dsimp only at hSw); go_simp <;> with_reducible rfl
  try simp only [Act.put, List.setIfInBounds_toArray, List.set_cons_zero, List.set_cons_succ]
  refine wpAnyH_take (i := 22) (v := ?_) rfl (by kernel_rfl) (by kernel_rfl) (by kernel_rfl) (fun _ _ _ h => h) (Or.inl ⟨by kernel_rfl, ?_⟩) hHeld ?_
  rotate_left
  · intro w1 hSw; (try dsimp only at hSw); go_simp <;> with_reducible rfl
  try simp only [Act.put, List.setIfInBounds_toArray, List.set_cons_zero, List.set_cons_succ]
  refine wpAnyH_take (i := 23) (v := ?_) rfl (by kernel_rfl) (by kernel_rfl) (by kernel_rfl) (fun _ _ _ h => h) (Or.inl ⟨by kernel_rfl, ?_⟩) hHeld ?_
  rotate_left
  · intro w1 hSw; (try dsimp only at hSw); go_simp <;> with_reducible rfl
  try simp only [Act.put, List.setIfInBounds_toArray, List.set_cons_zero, List.set_cons_succ]
  refine wpAnyH_take (i := 24) (v := ?_) rfl (by kernel_rfl) (by kernel_rfl) (by kernel_rfl) (fun _ _ _ h => h) (Or.inl ⟨by kernel_rfl, ?_⟩) hHeld ?_
  rotate_left
  · intro w1 hSw; (try dsimp only at hSw); go_simp <;> with_reducible rfl
  try simp only [Act.put, List.setIfInBounds_toArray, List.set_cons_zero, List.set_cons_succ]
  refine wpAnyH_take (i := 25) (v := ?_) rfl (by kernel_rfl) (by kernel_rfl) (by kernel_rfl) (fun _ _ _ h => h) (Or.inl ⟨by kernel_rfl, ?_⟩) hHeld ?_
  rotate_left
  · intro w1 hSw; (try dsimp only at hSw); go_simp <;> with_reducible rfl
  try simp only [Act.put, List.setIfInBounds_toArray, List.set_cons_zero, List.set_cons_succ]
  refine wpAnyH_take (i := 26) (v := ?_) rfl (by kernel_rfl) (by kernel_rfl) (by kernel_rfl) (fun _ _ _ h => h) (Or.inl ⟨by kernel_rfl, ?_⟩) hHeld ?_
  rotate_left
  · intro w1 hSw; (try dsimp only at hSw); go_simp <;> with_reducible rfl
  try simp only [Act.put, List.setIfInBounds_toArray, List.set_cons_zero, List.set_cons_succ]
  refine wpAnyH_take (i := 28) (v := ?_) rfl (by kernel_rfl) (by kernel_rfl) (by kernel_rfl) (fun _ _ _ h => h) (Or.inl ⟨by kernel_rfl, ?_⟩) hHeld ?_
  rotate_left
  · intro w1 hSw; (try dsimp only at hSw); go_simp <;> with_reducible rfl
  try simp only [Act.put, List.setIfInBounds_toArray, List.set_cons_zero, List.set_cons_succ]
  refine wpAnyH_take (i := 29) (v := ?_) rfl (by kernel_rfl) (by kernel_rfl) (by kernel_rfl) (fun _ _ _ h => h) (Or.inl ⟨by kernel_rfl, ?_⟩) hHeld ?_
  rotate_left
  · intro w1 hSw; (try dsimp only at hSw); go_simp <;> with_reducible rfl
  try simp only [Act.put, List.setIfInBounds_toArray, List.set_cons_zero, List.set_cons_succ]
  refine wpAnyH_take (i := 30) (v := ?_) rfl (by kernel_rfl) (by kernel_rfl) (by kernel_rfl) (fun _ _ _ h => h) (Or.inl ⟨by kernel_rfl, ?_⟩) hHeld ?_
  rotate_left
  · intro w1 hSw; (try dsimp only at hSw); go_simp <;> with_reducible rfl
  try simp only [Act.put, List.setIfInBounds_toArray, List.set_cons_zero, List.set_cons_succ]
  refine wpAnyH_take (i := 31) (v := ?_) rfl (by kernel_rfl) (by kernel_rfl) (by kernel_rfl) (fun _ _ _ h => h) (Or.inl ⟨by kernel_rfl, ?_⟩) hHeld ?_
  rotate_left
  · intro w1 hSw; (try dsimp only at hSw); go_simp <;> with_reducible rfl
  try simp only [Act.put, List.setIfInBounds_toArray, List.set_cons_zero, List.set_cons_succ]
  refine wpAnyH_take (i := 32) (v := ?_) rfl (by kernel_rfl) (by kernel_rfl) (by kernel_rfl) (fun _ _ _ h => h) (Or.inl ⟨by kernel_rfl, ?_⟩) hHeld ?_
  rotate_left
  · intro w1 hSw; (try dsimp only at hSw); go_simp <;> with_reducible rfl
  try simp only [Act.put, List.setIfInBounds_toArray, List.set_cons_zero, List.set_cons_succ]
  refine wpAnyH_take (i := 33) (v := ?_) rfl (by kernel_rfl) (by kernel_rfl) (by kernel_rfl) (fun _ _ _ h => h) (Or.inl ⟨by kernel_rfl, ?_⟩) hHeld ?_
  rotate_left
  · intro w1 hSw; (try dsimp only at hSw); go_simp <;> with_reducible rfl
  try simp only [Act.put, List.setIfInBounds_toArray, List.set_cons_zero, List.set_cons_succ]
  refine wpAnyH_take (i := 34) (v := ?_) rfl (by kernel_rfl) (by kernel_rfl) (by kernel_rfl) (fun _ _ _ h => h) (Or.inl ⟨by kernel_rfl, ?_⟩) hHeld ?_
  rotate_left
  · intro w1 hSw; (try dsimp only at hSw); go_simp <;> with_reducible rfl
  try simp only [Act.put, List.setIfInBounds_toArray, List.set_cons_zero, List.set_cons_succ]
  refine wpAnyH_take (i := 35) (v := ?_) rfl (by kernel_rfl) (by kernel_rfl) (by kernel_rfl) (fun _ _ _ h => h) (Or.inl ⟨by kernel_rfl, ?_⟩) hHeld ?_
  rotate_left
  · intro w1 hSw; (try dsimp only at hSw); go_simp <;> with_reducible rfl
  try simp only [Act.put, List.setIfInBounds_toArray, List.set_cons_zero, List.set_cons_succ]
  refine wpAnyH_ready (rs := [1]) (by kernel_rfl) (by simp) ?_
  refine AllReadyH.cons rfl (fun K hK => ?_) AllReadyH.nil
  go_simp
  go_at_call 45
  refine (checkRecording_any _ _ _ _ _ _ _ _ xs ms _ (HA1.out _ (GB.out.trans (hHeld.2.2.2.2.2.2.2.2.mono GB.out.size))) (HB1.out _ (GB.out.trans (hHeld.2.2.2.2.2.2.2.2.mono GB.out.size))) rfl rfl (by omega)).mono ?_
  rintro e w1 ⟨rfl, hb1⟩
  rw [H1.out]
  try go_simp
  refine hK.out _ _ ?_ (fun hHeld => ?_)
  · exact ⟨keepC hHeld.1 hb1, keepC hHeld.2.1 hb1, keepC hHeld.2.2.1 hb1, keepC hHeld.2.2.2.1 hb1, keepC hHeld.2.2.2.2.1 hb1, keepC hHeld.2.2.2.2.2.1 hb1, keepC hHeld.2.2.2.2.2.2.1 hb1, keepC hHeld.2.2.2.2.2.2.2.1 hb1, hHeld.2.2.2.2.2.2.2.2.trans ((hb1).mono hHeld.2.2.2.2.2.2.2.2.size)⟩
  clear hK K
  try simp only [Act.put, List.setIfInBounds_toArray, List.set_cons_zero, List.set_cons_succ]
  refine wpAnyH_ready (rs := [3]) (by kernel_rfl) (by simp) ?_
  refine AllReadyH.cons rfl (fun K hK => ?_) AllReadyH.nil
  go_simp
  go_at_call 45
  refine (checkRecording_any _ _ _ _ _ _ _ _ ys ns _ (HA2.out _ (GB.out.trans (hHeld.2.2.2.2.2.2.2.2.mono GB.out.size))) (HB2.out _ (GB.out.trans (hHeld.2.2.2.2.2.2.2.2.mono GB.out.size))) rfl rfl (by omega)).mono ?_
  rintro e w1 ⟨rfl, hb1⟩
  rw [H2.out]
  try go_simp
  refine hK.out _ _ ?_ (fun hHeld => ?_)
  · exact ⟨keepC hHeld.1 hb1, keepC hHeld.2.1 hb1, keepC hHeld.2.2.1 hb1, keepC hHeld.2.2.2.1 hb1, keepC hHeld.2.2.2.2.1 hb1, keepC hHeld.2.2.2.2.2.1 hb1, keepC hHeld.2.2.2.2.2.2.1 hb1, keepC hHeld.2.2.2.2.2.2.2.1 hb1, hHeld.2.2.2.2.2.2.2.2.trans ((hb1).mono hHeld.2.2.2.2.2.2.2.2.size)⟩
  clear hK K
  try simp only [Act.put, List.setIfInBounds_toArray, List.set_cons_zero, List.set_cons_succ]
  refine wpAnyH_ready (rs := [9]) (by kernel_rfl) (by simp) ?_
  refine AllReadyH.cons rfl (fun K hK => ?_) AllReadyH.nil
  go_simp
  go_at_call 96
  refine (failed_any _ _ _).mono ?_
  rintro e w1 ⟨rfl, rfl⟩
  try go_simp
  refine hK.out _ _ ?_ (fun hHeld => ?_)
  · exact hHeld
  clear hK K
  try simp only [Act.put, List.setIfInBounds_toArray, List.set_cons_zero, List.set_cons_succ]
  refine wpAnyH_ready (rs := [16]) (by kernel_rfl) (by simp) ?_
  refine AllReadyH.cons rfl (fun K hK => ?_) AllReadyH.nil
  go_simp
  go_at_call 97
  refine (tick_any _ _ _ _ _ _ _ _ _ _).mono ?_
  rintro e w1 ⟨rfl, hb1⟩
  try go_simp
  refine hK.out _ _ ?_ (fun hHeld => ?_)
  · exact ⟨keepC hHeld.1 hb1, keepC hHeld.2.1 hb1, keepC hHeld.2.2.1 hb1, keepC hHeld.2.2.2.1 hb1, keepC hHeld.2.2.2.2.1 hb1, keepC hHeld.2.2.2.2.2.1 hb1, keepC hHeld.2.2.2.2.2.2.1 hb1, keepC hHeld.2.2.2.2.2.2.2.1 hb1, hHeld.2.2.2.2.2.2.2.2.trans ((hb1).mono hHeld.2.2.2.2.2.2.2.2.size)⟩
  clear hK K
  try simp only [Act.put, List.setIfInBounds_toArray, List.set_cons_zero, List.set_cons_succ]
  refine wpAnyH_take (i := 17) (v := ?_) rfl (by kernel_rfl) (by kernel_rfl) (by kernel_rfl) (fun _ _ _ h => h) (Or.inl ⟨by kernel_rfl, ?_⟩) hHeld ?_
  rotate_left
  · intro w1 hSw; (try dsimp only at hSw); go_simp <;> with_reducible rfl
  try simp only [Act.put, List.setIfInBounds_toArray, List.set_cons_zero, List.set_cons_succ]
  refine wpAnyH_ready (rs := [18]) (by kernel_rfl) (by simp) ?_
  refine AllReadyH.cons rfl (fun K hK => ?_) AllReadyH.nil
  go_simp
  go_at_call 96
  refine (failed_any _ _ _).mono ?_
  rintro e w1 ⟨rfl, rfl⟩
  try go_simp
  refine hK.out _ _ ?_ (fun hHeld => ?_)
  · exact hHeld
  clear hK K
  try simp only [Act.put, List.setIfInBounds_toArray, List.set_cons_zero, List.set_cons_succ]
  refine wpAnyH_ready (rs := [27]) (by kernel_rfl) (by simp) ?_
  refine AllReadyH.cons rfl (fun K hK => ?_) AllReadyH.nil
  go_simp
  go_at_call 96
  refine (failed_any _ _ _).mono ?_
  rintro e w1 ⟨rfl, rfl⟩
  try go_simp
  refine hK.out _ _ ?_ (fun hHeld => ?_)
  · exact hHeld
  clear hK K
  try simp only [Act.put, List.setIfInBounds_toArray, List.set_cons_zero, List.set_cons_succ]
  refine wpAnyH_ready (rs := [36]) (by kernel_rfl) (by simp) ?_
  refine AllReadyH.cons rfl (fun K hK => ?_) AllReadyH.nil
  go_simp
  go_at_call 96
  refine (failed_any _ _ _).mono ?_
  rintro e w1 ⟨rfl, rfl⟩
  try go_simp
  refine hK.out _ _ ?_ (fun hHeld => ?_)
  · exact hHeld
  clear hK K
  try simp only [Act.put, List.setIfInBounds_toArray, List.set_cons_zero, List.set_cons_succ]
  refine wpAnyH_ready (rs := [37]) (by kernel_rfl) (by simp) ?_
  refine AllReadyH.cons rfl (fun K hK => ?_) AllReadyH.nil
  go_simp
  refine hK.out _ _ ?_ (fun hHeld => ?_)
  · exact ⟨keepC hHeld.1 ((Below.refl _ _).alloc (Nat.le_refl _) _), keepC hHeld.2.1 ((Below.refl _ _).alloc (Nat.le_refl _) _), keepC hHeld.2.2.1 ((Below.refl _ _).alloc (Nat.le_refl _) _), keepC hHeld.2.2.2.1 ((Below.refl _ _).alloc (Nat.le_refl _) _), keepC hHeld.2.2.2.2.1 ((Below.refl _ _).alloc (Nat.le_refl _) _), keepC hHeld.2.2.2.2.2.1 ((Below.refl _ _).alloc (Nat.le_refl _) _), keepC hHeld.2.2.2.2.2.2.1 ((Below.refl _ _).alloc (Nat.le_refl _) _), keepC hHeld.2.2.2.2.2.2.2.1 ((Below.refl _ _).alloc (Nat.le_refl _) _), hHeld.2.2.2.2.2.2.2.2.trans ((((Below.refl _ _).alloc (Nat.le_refl _) _)).mono hHeld.2.2.2.2.2.2.2.2.size)⟩
  clear hK K
  try simp only [Act.put, List.setIfInBounds_toArray, List.set_cons_zero, List.set_cons_succ]
  refine wpAnyH_ready (rs := [38]) (by kernel_rfl) (by simp) ?_
  refine AllReadyH.cons rfl (fun K hK => ?_) AllReadyH.nil
  go_simp
  go_at_call 76
  refine (firstV_any _ _ _ [0, 0, whenI false 2, whenI false 11, whenI false 5, whenI false 5] _ ?_ rfl (by simp)).mono ?_
  · exact Rd.new _ _ _ _ (by simp)
  rintro e w1 ⟨rfl, rfl⟩
  try go_simp
  refine hK.out _ _ ?_ (fun hHeld => ?_)
  · exact hHeld
  clear hK K
  try simp only [Act.put, List.setIfInBounds_toArray, List.set_cons_zero, List.set_cons_succ]
  refine wpAnyH_take (i := 39) (oi := { dst := some 6, op := Op.assign (Operand.tmp 48), type := 28, pos := _, after := #[{ on := 38, ground := Ground.data }, { on := 38, ground := Ground.chain }, { on := 0, ground := Ground.phase }, { on := 1, ground := Ground.phase }, { on := 2, ground := Ground.phase }, { on := 3, ground := Ground.phase }, { on := 4, ground := Ground.phase }, { on := 5, ground := Ground.phase }, { on := 6, ground := Ground.phase }, { on := 7, ground := Ground.phase }, { on := 8, ground := Ground.phase }, { on := 9, ground := Ground.phase }, { on := 10, ground := Ground.phase }, { on := 11, ground := Ground.phase }, { on := 12, ground := Ground.phase }, { on := 13, ground := Ground.phase }, { on := 14, ground := Ground.phase }, { on := 15, ground := Ground.phase }, { on := 16, ground := Ground.phase }, { on := 17, ground := Ground.phase }, { on := 18, ground := Ground.phase }, { on := 19, ground := Ground.phase }, { on := 20, ground := Ground.phase }, { on := 21, ground := Ground.phase }, { on := 22, ground := Ground.phase }, { on := 23, ground := Ground.phase }, { on := 24, ground := Ground.phase }, { on := 25, ground := Ground.phase }, { on := 26, ground := Ground.phase }, { on := 27, ground := Ground.phase }, { on := 28, ground := Ground.phase }, { on := 29, ground := Ground.phase }, { on := 30, ground := Ground.phase }, { on := 31, ground := Ground.phase }, { on := 32, ground := Ground.phase }, { on := 33, ground := Ground.phase }, { on := 34, ground := Ground.phase }, { on := 35, ground := Ground.phase }, { on := 36, ground := Ground.phase }, { on := 37, ground := Ground.phase }, { on := 38, ground := Ground.phase }], guard := none }) (v := ?_) rfl (by kernel_rfl) (by kernel_rfl) (by kernel_rfl) (fun _ _ _ h => h) (Or.inl ⟨by kernel_rfl, ?_⟩) hHeld ?_
  rotate_left
  · intro w1 hSw; (try dsimp only at hSw); go_simp <;> with_reducible rfl
  try simp only [Act.put, List.setIfInBounds_toArray, List.set_cons_zero, List.set_cons_succ]
  refine wpAnyH_done (by kernel_rfl) ?_ _
  have I0 := Lib.hid (G0.out.old hHeld.2.2.2.2.2.2.2.2); have I1 := Lib.hid (G1.out.old hHeld.2.2.2.2.2.2.2.2); have I2 := Lib.hid (G2.out.old hHeld.2.2.2.2.2.2.2.2)
  have IB := Lib.hid (GB.out.trans (hHeld.2.2.2.2.2.2.2.2.mono GB.out.size))
  clear hHeld G0 G1 G2 GB S2
  go_upto_region 4 with fail
  refine genD (w0 := w) w.heap.size (w.heap.size + 1) (w.heap.size + 1 + 1) _ _ _ _ _ _ I0.out I1.out I2.out IB.out ?_
  clear I0 I1 I2 IB
  intro W2 R0 R1 R2 RB
  have J0 := Lib.hid R0; have J1 := Lib.hid R1; have J2 := Lib.hid R2; have JB := Lib.hid RB
  have q2 := R0.cell 2
  have r2 := R1.cell 2
  have s2 := R2.lt
  have S2 := Lib.hid s2
  simp only [List.getElem?_cons_succ, List.getElem?_cons_zero] at q2 r2
  have hmk : ∀ W : World, (Instr.makeSlice 22 (.int .i64 ((xs.length : Int) + (ys.length : Int))) (.int .i64 ((xs.length : Int) + (ys.length : Int)))).run Tryz.prog W = .ok (.slice (some ⟨W.heap.size, 0, none⟩) (xs.length + ys.length) (xs.length + ys.length)) (W.alloc (.cells (List.replicate (xs.length + ys.length) (.float .f32 0)).toArray 56)) := fun W => by
    have h := make1 (P := Tryz.prog) 22 56 (.float .f32 0) 4 Tryz.underlying22 info37 rfl (xs.length + ys.length) (by omega) (by omega) W
    rw [Int.natCast_add] at h
    exact h
  clear R0 R1 R2 RB s2
  go_upto_region 5 with fail
  have b3 : Below W2.heap.size W2 (W2.alloc (.cells (List.replicate (xs.length + ys.length) (.float .f32 0)).toArray 56)) := (Below.refl _ _).alloc (Nat.le_refl _) _
  have r3 := Row.new W2 56 (List.replicate (xs.length + ys.length) (.float .f32 0))
  refine genF W2.heap.size 56 (List.replicate (xs.length + ys.length) (.float .f32 0)) r3 b3 ?_
  clear r3 b3 q2 r2
  intro W3 r3 b3
  have q2 := (J0.out.old b3).cell 2
  simp only [List.getElem?_cons_succ, List.getElem?_cons_zero] at q2
  have hfx : (flts xs).length = xs.length := by simp [flts]
  have hfy : (flts ys).length = ys.length := by simp [flts]
  have Gn : Hid ((flts xs).length = Nat.min xs.length (xs.length + ys.length)) := by unfold Hid; rw [hfx]; exact (Nat.min_eq_left (by omega)).symm
  have Gf : Hid (0 + (flts xs).length ≤ (List.replicate (xs.length + ys.length) (Value.float .f32 0)).length) := by unfold Hid; rw [hfx, List.length_replicate]; omega
  have HR3 := Lib.hid r3; have HB3 := Lib.hid b3
  have HAx := Lib.hid (HA1.out W3 (JB.out.trans (b3.mono JB.out.size)))
  clear r3 b3
  go_upto_region 6 with (refine wpList_copy_splice (o := ⟨some 64, _, _, _, _, _⟩) rfl (.tmp 61) (.tmp 63) 22 22 rfl 56 Tryz.underlying22 (by kernel_rfl) (some ⟨W2.heap.size, 0, none⟩) A1 (xs.length + ys.length) (xs.length + ys.length) xs.length c1 (by simp [Act.eval, Act.put]) (by simp [Act.eval, Act.put]) W2.heap.size 0 (List.replicate (xs.length + ys.length) (.float .f32 0)) 56 HR3.out (flts xs) Gn.out (fun h => ⟨rfl, HAx.out.src h⟩) Gf.out (flts_one _) W2.heap.size W2 HB3.out (Nat.le_refl _) ?_; intro W4 g4 b4)
  have H4 : Hid (Row W4 W2.heap.size 56 (splice (List.replicate (xs.length + ys.length) (.float .f32 0)) 0 (flts xs))) := g4
  have HB4 := Lib.hid b4
  have HAy := Lib.hid (HA2.out W4.drew ((JB.out.trans (b4.mono JB.out.size)).drew))
  have Gm : Hid ((flts ys).length = Nat.min ys.length ys.length) := by unfold Hid; rw [hfy]; exact (Nat.min_self _).symm
  have Ge : Hid (xs.length + (flts ys).length ≤ (splice (List.replicate (xs.length + ys.length) (Value.float .f32 0)) 0 (flts xs)).length) := by unfold Hid; rw [length_splice _ _ _ Gf.out, List.length_replicate, hfy]; exact Nat.le_refl _
  have Gd : Hid (0 < (flts ys).length → ¬ ys.length = 0) := by unfold Hid; rw [hfy]; omega
  have hsl := fun W => slice_end (P := Tryz.prog) 22 (by kernel_rfl) (fun _ => by kernel_rfl) W2.heap.size xs.length ys.length W
  obtain ⟨off, hoff⟩ : ∃ off, off = if ys.length = 0 then 0 else xs.length := ⟨_, rfl⟩
  simp only [← hoff] at hsl
  have Ho : Hid (¬ ys.length = 0 → xs.length = off) := fun h => by rw [hoff, if_neg h]
  clear hoff
  clear g4 b4 q2 Gn Gf HR3 HB3 HAx hmk
  refine wp_region_held_drew (S := fun w' => w'.cell? ⟨w.heap.size + 1, 2, none⟩ = some (.slice A2 ys.length c2)) (by kernel_rfl) ?_ (fun hHeld => ?_)
  · exact (J1.out.old HB4.out).cell 2
  refine wpAnyH_take (i := 0) (v := ?_) rfl (by kernel_rfl) (by kernel_rfl) (by kernel_rfl) (fun _ _ _ h => h) (Or.inl ⟨by kernel_rfl, ?_⟩) hHeld ?_
  rotate_left
  · intro w1 hSw; (try dsimp only at hSw); go_simp <;> with_reducible rfl
  try simp only [Act.put, List.setIfInBounds_toArray, List.set_cons_zero, List.set_cons_succ]
  refine wpAnyH_take (i := 1) (v := ?_) rfl (by kernel_rfl) (by kernel_rfl) (by kernel_rfl) (fun _ _ _ h => h) (Or.inl ⟨by kernel_rfl, ?_⟩) hHeld ?_
  rotate_left
  · intro w1 hSw; (try dsimp only at hSw); go_simp <;> with_reducible rfl
  try simp only [Act.put, List.setIfInBounds_toArray, List.set_cons_zero, List.set_cons_succ]
  refine wpAnyH_take (i := 2) (v := ?_) rfl (by kernel_rfl) (by kernel_rfl) (by kernel_rfl) (fun _ _ _ h => h) (Or.inl ⟨by kernel_rfl, ?_⟩) hHeld ?_
  rotate_left
  · intro w1 hSw; (try dsimp only at hSw); go_simp <;> with_reducible rfl
  try simp only [Act.put, List.setIfInBounds_toArray, List.set_cons_zero, List.set_cons_succ]
  refine wpAnyH_take (i := 3) (v := ?_) rfl (by kernel_rfl) (by kernel_rfl) (by kernel_rfl) (fun _ _ _ h => h) (Or.inl ⟨by kernel_rfl, ?_⟩) hHeld ?_
  rotate_left
  · intro w1 hSw; (try dsimp only at hSw); go_simp <;> with_reducible rfl
  try simp only [Act.put, List.setIfInBounds_toArray, List.set_cons_zero, List.set_cons_succ]
  refine wpAnyH_take (i := 4) (v := ?_) rfl (by kernel_rfl) (by kernel_rfl) (by kernel_rfl) (fun _ _ _ h => h) (Or.inl ⟨by kernel_rfl, ?_⟩) hHeld ?_
  rotate_left
  · intro w1 hSw; (try dsimp only at hSw); go_simp <;> with_reducible rfl
  try simp only [Act.put, List.setIfInBounds_toArray, List.set_cons_zero, List.set_cons_succ]
  refine wpAnyH_ready (rs := [5]) (by kernel_rfl) (by simp) ?_
  refine AllReadyH.cons rfl (fun K hK => ?_) AllReadyH.nil
  refine step_copy_splice rfl (.tmp 67) (.tmp 69) 22 22 rfl 56 Tryz.underlying22 (by kernel_rfl) (some ⟨W2.heap.size, off, none⟩) A2 ys.length ys.length ys.length c2 (by simp [Act.eval, Act.put]) (by simp [Act.eval, Act.put]) W2.heap.size xs.length (splice (List.replicate (xs.length + ys.length) (.float .f32 0)) 0 (flts xs)) 56 H4.out (flts ys) Gm.out (fun h => ⟨by rw [Ho.out (Gd.out h)], HAy.out.src h⟩) Ge.out (flts_one _) W2.heap.size W2 HB4.out.drew (Nat.le_refl _) ?_
  intro W5 hg5 hb5
  refine hK.out _ _ ?_ (fun hHeld => ?_)
  · exact (J1.out.old hb5).cell 2
  clear hK K
  try simp only [Act.put, List.setIfInBounds_toArray, List.set_cons_zero, List.set_cons_succ]
  refine wpAnyH_done (by kernel_rfl) ?_ _
  have g5 : Row W5 W2.heap.size 56 (flts (xs ++ ys)) := by
    have h := hg5.out
    rw [splice_zero _ _ _ _ _ hfx.symm hfy.symm] at h
    have e : flts (xs ++ ys) = flts xs ++ flts ys := by simp [flts]
    rw [e]
    exact h
  have H5 := Lib.hid g5
  have L0 := Lib.hid (J0.out.old hb5); have L1 := Lib.hid (J1.out.old hb5); have L2 := Lib.hid (J2.out.old hb5)
  have LB := Lib.hid (JB.out.trans (hb5.mono JB.out.size))
  have z5 := H5.out.lt
  have Z5 := Lib.hid z5
  clear g5 hg5 hb5 hHeld H4 HB4 HAy Gm Ge Gd hsl J0 J1 J2 JB z5
  go_upto_region 7 with fail
  refine wp_region_held_drew (S := fun w' => w'.cell? ⟨w.heap.size, 3, none⟩ = some (.slice B1 ms.length d1) ∧ w'.cell? ⟨w.heap.size + 1, 3, none⟩ = some (.slice B2 ns.length d2) ∧ Below w.heap.size w w') (by kernel_rfl) ?_ (fun hHeld => ?_)
  · exact ⟨L0.out.cell 3, L1.out.cell 3, LB.out.drew⟩
  refine wpAnyH_take (i := 0) (v := ?_) rfl (by kernel_rfl) (by kernel_rfl) (by kernel_rfl) (fun _ _ _ h => h) (Or.inl ⟨by kernel_rfl, ?_⟩) hHeld ?_
  rotate_left
  · intro w1 hSw; (try dsimp only at hSw); go_simp <;> with_reducible rfl
  try simp only [Act.put, List.setIfInBounds_toArray, List.set_cons_zero, List.set_cons_succ]
  refine wpAnyH_take (i := 1) (v := ?_) rfl (by kernel_rfl) (by kernel_rfl) (by kernel_rfl) (fun _ _ _ h => h) (Or.inl ⟨by kernel_rfl, ?_⟩) hHeld ?_
  rotate_left
  · intro w1 hSw; (try dsimp only at hSw); go_simp <;> with_reducible rfl
  try simp only [Act.put, List.setIfInBounds_toArray, List.set_cons_zero, List.set_cons_succ]
  refine wpAnyH_take (i := 3) (v := ?_) rfl (by kernel_rfl) (by kernel_rfl) (by kernel_rfl) (fun _ _ _ h => h) (Or.inl ⟨by kernel_rfl, ?_⟩) hHeld ?_
  rotate_left
  · intro w1 hSw; (try dsimp only at hSw); go_simp <;> with_reducible rfl
  try simp only [Act.put, List.setIfInBounds_toArray, List.set_cons_zero, List.set_cons_succ]
  refine wpAnyH_take (i := 4) (v := ?_) rfl (by kernel_rfl) (by kernel_rfl) (by kernel_rfl) (fun _ _ _ h => h) (Or.inl ⟨by kernel_rfl, ?_⟩) hHeld ?_
  rotate_left
  · intro w1 hSw; (try dsimp only at hSw); go_simp <;> with_reducible rfl
  try simp only [Act.put, List.setIfInBounds_toArray, List.set_cons_zero, List.set_cons_succ]
  refine wpAnyH_take (i := 5) (v := ?_) rfl (by kernel_rfl) (by kernel_rfl) (by kernel_rfl) (fun _ _ _ h => h) (Or.inl ⟨by kernel_rfl, ?_⟩) hHeld ?_
  rotate_left
  · intro w1 hSw; (try dsimp only at hSw); go_simp <;> with_reducible rfl
  try simp only [Act.put, List.setIfInBounds_toArray, List.set_cons_zero, List.set_cons_succ]
  refine wpAnyH_ready (rs := [2]) (by kernel_rfl) (by simp) ?_
  refine AllReadyH.cons rfl (fun K hK => ?_) AllReadyH.nil
  go_simp
  go_at_call 98
  refine (moved_any B1 _ _ ms _ _ (HB1.out _ hHeld.2.2) rfl (by omega)).mono ?_
  rintro e wa ⟨ga, rfl, hra, hga, hba⟩
  have hb5a : Below W5.heap.size W5 wa := (Below.refl _ W5).drew.trans hba
  try go_simp
  refine hK.out _ _ ?_ (fun hHeld => ?_)
  · exact ⟨keepC hHeld.1 hba, keepC hHeld.2.1 hba, hHeld.2.2.trans ((hba).mono hHeld.2.2.size)⟩
  clear hK K
  try simp only [Act.put, List.setIfInBounds_toArray, List.set_cons_zero, List.set_cons_succ]
  refine wpAnyH_ready (rs := [6]) (by kernel_rfl) (by simp) ?_
  refine AllReadyH.cons rfl (fun K hK => ?_) AllReadyH.nil
  go_simp
  go_at_call 98
  refine (moved_any B2 _ _ ns _ _ (HB2.out _ hHeld.2.2) rfl (by omega)).mono ?_
  rintro e wb ⟨gb, rfl, hrb, hgb, hbb⟩
  have hb5b : Below W5.heap.size W5 wb := hb5a.trans (hbb.mono hb5a.size)
  try go_simp
  refine hK.out _ _ ?_ (fun hHeld => ?_)
  · exact ⟨keepC hHeld.1 hbb, keepC hHeld.2.1 hbb, hHeld.2.2.trans ((hbb).mono hHeld.2.2.size)⟩
  clear hK K
  try simp only [Act.put, List.setIfInBounds_toArray, List.set_cons_zero, List.set_cons_succ]
  refine wpAnyH_ready (rs := [7]) (by kernel_rfl) (by simp) ?_
  refine AllReadyH.cons rfl (fun K hK => ?_) AllReadyH.nil
  have z5 := Z5.out
  have z6 := hb5a.size
  have z7 := hb5b.size
  have z8 : W5.heap.size ≤ ga := hga
  refine step_app rfl (.tmp 73) (.tmp 77) 31 rfl W2.heap.size 117 (.agg #[.int .i64 0, .string ⟨#[]⟩]) 2 24 Tryz.underlying31 info158 rfl (by decide) (.slice (some ⟨ga, 0, none⟩) ms.length ms.length) ms.length (markC (ms.map (shiftM 0))) (by simp [Act.eval, Act.put]) (row_owns (hra.old hbb) 2 ms.length W2.heap.size (by simp [markC_length]) (by unfold maxLen; omega) (by omega)) gb ns.length ns.length (markC (ns.map (shiftM xs.length))) (by simp [Act.eval, Act.put]) 117 hrb (by simp [markC_length]) (markC_one _) (by unfold maxLen; omega) (by omega) (by omega) ?_
  intro v7 W7 ho7 hg7
  refine hK.out _ _ ?_ (fun hHeld => ?_)
  · exact ⟨(L0.out.old (hb5b.grown hg7 hb5b.size (fun k hk => by cases hk; exact z8))).cell 3, (L1.out.old (hb5b.grown hg7 hb5b.size (fun k hk => by cases hk; exact z8))).cell 3, LB.out.trans ((hb5b.grown hg7 hb5b.size (fun k hk => by cases hk; exact z8)).mono LB.out.size)⟩
  clear hK K
  try simp only [Act.put, List.setIfInBounds_toArray, List.set_cons_zero, List.set_cons_succ]
  refine wpAnyH_take (i := 8) (oi := { dst := some 9, op := Op.assign (Operand.tmp 78), type := 31, pos := _, after := #[{ on := 7, ground := Ground.data }, { on := 7, ground := Ground.chain }, { on := 0, ground := Ground.phase }, { on := 1, ground := Ground.phase }, { on := 2, ground := Ground.phase }, { on := 3, ground := Ground.phase }, { on := 4, ground := Ground.phase }, { on := 5, ground := Ground.phase }, { on := 6, ground := Ground.phase }, { on := 7, ground := Ground.phase }], guard := none }) (v := ?_) rfl (by kernel_rfl) (by kernel_rfl) (by kernel_rfl) (fun _ _ _ h => h) (Or.inl ⟨by kernel_rfl, ?_⟩) hHeld ?_
  rotate_left
  · intro w1 hSw; (try dsimp only at hSw); go_simp <;> with_reducible rfl
  try simp only [Act.put, List.setIfInBounds_toArray, List.set_cons_zero, List.set_cons_succ]
  refine wpAnyH_done (by kernel_rfl) ?_ _
  have hb57 : Below W5.heap.size W5 W7 := hb5b.grown hg7 hb5b.size (fun k hk => by cases hk; have := hb5a.size; omega)
  have M0 := Lib.hid (L0.out.old hb57); have M1 := Lib.hid (L1.out.old hb57); have M2 := Lib.hid (L2.out.old hb57); have M5 := Lib.hid (H5.out.old hb57)
  have MB := Lib.hid (LB.out.trans (hb57.mono LB.out.size))
  obtain ⟨A7, c7, rfl, -⟩ := owned_slice ho7
  have HO := Lib.hid ho7
  have p0 := M0.out.cell 0
  have p1 := M0.out.cell 1
  simp only [List.getElem?_cons_succ, List.getElem?_cons_zero] at p0 p1
  clear hb57 hb5a hb5b hba hbb hra hrb hga hgb ho7 hg7 hHeld L0 L1 L2 H5 LB
  go_wp2_with (refine wpList_store_row rfl 33 _ _ rfl (w.heap.size + 1 + 1) [Value.int .i64 st, .int .i64 sp, .slice (some ⟨W2.heap.size, 0, none⟩) (xs.length + ys.length) (xs.length + ys.length), .slice A7 (ms.length + ns.length) c7].toArray rfl rfl 33 _ M2.out ?_ ?_ ?_ ?_; (kernel_rfl); (rfl); (simp [Value.oneCell']))
  have hrow : Row (W7.setRow (w.heap.size + 1 + 1) [Value.int .i64 st, .int .i64 sp, .slice (some ⟨W2.heap.size, 0, none⟩) (xs.length + ys.length) (xs.length + ys.length), .slice A7 (ms.length + ns.length) c7].toArray) (w.heap.size + 1 + 1) 33 [Value.int .i64 st, .int .i64 sp, .slice (some ⟨W2.heap.size, 0, none⟩) (xs.length + ys.length) (xs.length + ys.length), .slice A7 (ms.length + ns.length) c7] := M2.out.setRow _
  have z2 := S2.out
  refine bodyPost_ret (results_row_tmp rfl _ _ (w.heap.size + 1 + 1) 33 _ (0, 0) _ rfl hrow Tryz.underlying33 rfl (by kernel_rfl)) rfl ⟨W2.heap.size, .slice A7 (ms.length + ns.length) c7, ?_, ?_, ?_, ?_, ?_⟩
  · rfl
  · exact Row.farRow M5.out (by omega) _
  · rw [markC_app]; exact owns_far HO.out _ _ (by omega) (by omega)
  · omega
  · exact Below.setRow MB.out (by omega) _
end Go.Proofs.YtoclnlimnjnbkaaGreatDoor
namespace Go.Proofs.YtoclnlimnjnbkaaGreatDoor
set_option linter.all false
open Go.RowKit Go.Maps Go.Fl
def heB (b : Nat) (v : Value) (wd cd : ByteArray) : List Value := [.map (some b), v, .string wd, .string cd]
def lettB (cd : ByteArray) : ByteArray := if has (LD 26) (.string cd.data.toList) then (match (LD 26).atKey (.string cd.data.toList) (.lit (.string [])) with | .lit (.string l) => ⟨l.toArray⟩ | _ => ⟨#[]⟩) else ⟨#[63]⟩
def HeI (w0 : World) (g b : Nat) (wds : List ByteArray) (wd cd : ByteArray) (W : World) : Prop :=
  w0.heap.size ≤ g ∧ ∃ v, Row W g 175 (heB b v wd cd) ∧ W.ownsMap Tryz.prog 9 (plainElem Tryz.prog 9) b 26 (LD 26) ∧ W.ownsRow w0.heap.size 9 1 v wds.length (strs wds) ∧ Below w0.heap.size w0 W
theorem not_row {W : World} {g : Nat} {vs : List Value} {B n : Nat} {v : Value} {xs : List Value} (h : Row W g 175 vs) (hr : W.ownsRow B 9 1 v n xs) : v.ownBlock = none ∨ v.ownBlock ≠ some g := by
  rcases hr.2 with ⟨h1, _⟩ | ⟨k, cap, cur, h1, _, h3, _⟩
  · exact .inl (by rw [h1]; rfl)
  · refine .inr ?_
    rw [h1]
    intro e
    have e2 : k = g := by simpa [Value.ownBlock] using e
    subst e2
    rw [show W.heap[k]? = _ from h] at h3
    cases h3
theorem not_map {H : Type} {W : World} {g b n : Nat} {vs : List Value} {R : Value → Option (DataW H × List MemPlace)} {D : DataW H} {k t : TypeId} (h : Row W g t vs) (hm : W.ownsMap Tryz.prog k R b n D) : b ≠ g := by
  intro e; subst e
  obtain ⟨es, clock, h1, _⟩ := hm
  rw [show W.heap[b]? = _ from h] at h1
  cases h1
theorem HeI.set {w0 W : World} {g b : Nat} {wds : List ByteArray} {wd cd wd' cd' : ByteArray} {v : Value} {i : Nat} {u : Value} (hg : w0.heap.size ≤ g) (h1 : Row W g 175 (heB b v wd cd)) (h2 : W.ownsMap Tryz.prog 9 (plainElem Tryz.prog 9) b 26 (LD 26)) (h3 : W.ownsRow w0.heap.size 9 1 v wds.length (strs wds)) (h4 : Below w0.heap.size w0 W)
    (hs : (heB b v wd cd).set i u = heB b v wd' cd') : HeI w0 g b wds wd' cd' (W.setCell ⟨g, i, none⟩ u) := by
  have hgr : W.grownBy (W.setCell ⟨g, i, none⟩ u) (some g) := ⟨rfl, rfl, rfl, by simp, fun k _ hk => heap_setCell_other _ _ _ _ (fun e => hk (by rw [e]))⟩
  refine ⟨hg, v, by rw [← hs]; exact h1.set i u, h2.kept hgr (fun e => not_map h1 h2 (Option.some.inj e)), h3.kept hgr (not_row h1 h3), h4.setCell (by simpa using hg) _⟩
set_option maxRecDepth 100000 in
set_option maxHeartbeats 400000 in
theorem on_any (w0 : World) (g b : Nat) (wds : List ByteArray) (wd cd : ByteArray) (n d : Int) (w : World) (hI : HeI w0 g b wds wd cd w) (hn : 0 ≤ n ∧ n ≤ 100000) (hd : 0 ≤ d ∧ d ≤ 100) (hc : cd.size ≤ 100000) :
    Calls Tryz.prog 91 #[.pointer (some ⟨g, 0, none⟩), .int .i64 n, .int .i64 d] w fun e w' => e = .returned (.tuple #[]) ∧ HeI w0 g b wds wd (cd ++ if n < 2 * d then ⟨#[48]⟩ else ⟨#[49]⟩) w' := by
  obtain ⟨hg, v, h1, h2, h3, h4⟩ := hI
  have c3 : w.cell? ⟨g, 3, none⟩ = some (.string cd) := by rw [h1.cell]; rfl
  have f3 := h1.free 3
  have hR : ∀ u, Hid (HeI w0 g b wds wd u (w.setCell ⟨g, 3, none⟩ (.string u))) := fun u => HeI.set hg h1 h2 h3 h4 rfl
  have HR := Lib.hid hR
  clear hR h1 h2 h3 h4
  by_cases h : n < 2 * d
  · go_enter Tryz.func91, Tryz.ntmps91
    go_wp2
    go_end0
    exact ⟨rfl, (HR.out _).out⟩
  · go_enter Tryz.func91, Tryz.ntmps91
    go_wp2
    go_end0
    exact ⟨rfl, (HR.out _).out⟩
def shortD : DataW Unit → Bool
  | .map es => es.all fun p => match p.2 with | .lit (.string l) => decide (l.length ≤ 1) | _ => false
  | _ => false
theorem LD_short : shortD (LD 26) = true := by kernel_rfl
theorem atKey_short {D : DataW Unit} (h : shortD D = true) {kl : Lit} {s : List UInt8} (hs : D.atKey kl (.lit (.string [])) = .lit (.string s)) : s.length ≤ 1 := by
  cases D with
  | map es =>
    unfold DataW.atKey at hs
    simp only at hs
    split at hs
    · rename_i p hp
      have hm := List.mem_of_find?_eq_some hp
      have := List.all_eq_true.1 h p hm
      rw [hs] at this
      simpa using this
    · cases hs; exact Nat.zero_le _
  | _ => cases h
theorem look_any {b : Nat} {W : World} (h : W.ownsMap Tryz.prog 9 (plainElem Tryz.prog 9) b 26 (LD 26)) (cd : ByteArray) (hc : cd.size ≤ 100000) :
    ∃ s ok, (Instr.lookup 172 (.map (some b)) (.string cd) true).run Tryz.prog W = .ok (.tuple #[.string s, .bool ok]) W ∧ (lettB cd = if ok then s else ⟨#[63]⟩) ∧ s.size ≤ 1 ∧ ok = has (LD 26) (.string cd.data.toList) ∧ s = (match (LD 26).atKey (.string cd.data.toList) (.lit (.string [])) with | .lit (.string l) => ⟨l.toArray⟩ | _ => ⟨#[]⟩) := by
  have hkey := WideMaps.keyOf_string_mk (P := Tryz.prog) Tryz.underlying9 (s := cd) (by unfold maxLen; omega)
  have hz : (zeroValue 9).run Tryz.prog W = .ok (.string ⟨#[]⟩) W := by kernel_rfl
  obtain ⟨v, ps, hrun, hv⟩ := h.look_ok strKey Tryz.underlying172 hz (plainElem_string (H := Unit) (P := Tryz.prog) Tryz.underlying9 (s := ⟨#[]⟩) (by show 0 ≤ maxLen; exact Nat.zero_le _)) hkey
  obtain ⟨s, rfl, hs, _⟩ := plainElem_string_inv Tryz.underlying9 hv
  have hs3 := atKey_short LD_short (congrArg Prod.fst hs).symm.symm
  refine ⟨s, _, hrun, ?_, by show s.data.size ≤ 1; rw [← Array.length_toList]; exact hs3, rfl, ?_⟩
  · unfold lettB
    have hs2 : (LD 26).atKey (.string cd.data.toList) (.lit (.string [])) = .lit (.string s.data.toList) := (congrArg Prod.fst hs)
    rw [hs2]
  · have hs2 : (LD 26).atKey (.string cd.data.toList) (.lit (.string [])) = .lit (.string s.data.toList) := (congrArg Prod.fst hs)
    rw [hs2]
def lettI (wd cd : ByteArray) : ByteArray := if cd.toList.isEmpty then wd else wd ++ lettB cd
set_option maxRecDepth 100000 in
set_option maxHeartbeats 400000 in
theorem endLetter_any (w0 : World) (g b : Nat) (wds : List ByteArray) (wd cd : ByteArray) (w : World) (hI : HeI w0 g b wds wd cd w) (hc : cd.size ≤ 100000) (hw : wd.size ≤ 100000) :
    Calls Tryz.prog 129 #[.pointer (some ⟨g, 0, none⟩)] w fun e w' => e = .returned (.tuple #[]) ∧ HeI w0 g b wds (lettI wd cd) ⟨#[]⟩ w' := by
  obtain ⟨hg, v, h1, h2, h3, h4⟩ := hI
  have c0 : w.cell? ⟨g, 0, none⟩ = some (.map (some b)) := by rw [h1.cell]; rfl
  have c2 : w.cell? ⟨g, 2, none⟩ = some (.string wd) := by rw [h1.cell]; rfl
  have c3 : w.cell? ⟨g, 3, none⟩ = some (.string cd) := by rw [h1.cell]; rfl
  have f2 := h1.free 2
  have f3 := h1.free 3
  cases h : cd.toList.isEmpty
  · have q1 : ¬ cd.toList = [] := by intro e; rw [e] at h; cases h
    have q2 : (cd.toList == []) = false := by simpa using q1
    have HLI : Hid (lettI wd cd = wd ++ lettB cd) := by unfold Hid lettI; rw [h]; rfl
    obtain ⟨s, ok, hrun, hl, hsz, hok, hse⟩ := look_any h2 cd hc
    have hrunq : ∀ q, (Instr.lookup 172 (.map (some b)) (.string cd) true).run Tryz.prog (w.drewN q) = .ok (.tuple #[.string s, .bool ok]) (w.drewN q) := fun q => by
      obtain ⟨s2, ok2, hrun2, _, _, hok2, hse2⟩ := look_any (W := w.drewN q) h2 cd hc
      rw [hok2, hse2, ← hok, ← hse] at hrun2
      exact hrun2
    have hR : ∀ q, Hid (HeI w0 g b wds (wd ++ lettB cd) ⟨#[]⟩ (((w.drewN q).setCell ⟨g, 2, none⟩ (.string (wd ++ lettB cd))).setCell ⟨g, 3, none⟩ (.string ⟨#[]⟩))) := fun q => by
      obtain ⟨_, v', k1, k2, k3, k4⟩ := HeI.set (W := w.drewN q) (wd' := wd ++ lettB cd) (cd' := cd) (i := 2) (u := .string (wd ++ lettB cd)) hg h1 h2 h3 (below_drewN h4 q) rfl
      exact HeI.set hg k1 k2 k3 k4 rfl
    have HR := Lib.hid hR
    have HL := Lib.hid hl
    clear h1 h2 h3 h4 hrun hR hl hok hse
    cases ok
    all_goals
      go_enter Tryz.func129, Tryz.ntmps129
      go_wp2
      go_quiet (fail)
      go_wp2
      go_end0
      exact ⟨rfl, by have h := (HR.out nq).out; rw [HL.out] at h; rw [HLI.out, HL.out]; exact h⟩
  · have q2 : (cd.toList == []) = true := by have := List.isEmpty_iff.1 h; simpa using this
    have HLI : Hid (lettI wd cd = wd) := by unfold Hid lettI; rw [h]; rfl
    have he : cd = ⟨#[]⟩ := by
      have := List.isEmpty_iff.1 h
      rw [ByteArray.toList_eq] at this
      exact ByteArray.ext (by simpa using this)
    have HI : Hid (HeI w0 g b wds wd ⟨#[]⟩ w) := ⟨hg, v, by rw [← he]; exact h1, h2, h3, h4⟩
    clear h1 h2 h3 h4 he
    go_enter Tryz.func129, Tryz.ntmps129
    go_wp2
    refine bodyPost_ret (results_none rfl _ _ _) rfl ?_
    exact ⟨rfl, by rw [HLI.out]; exact HI.out⟩
def addW (wds : List ByteArray) (wd : ByteArray) : List ByteArray := if wd.toList.isEmpty then wds else wds ++ [wd]
theorem info9 : (Tryz.prog.info? 9).map (fun i => (i.zero, i.size, i.bytes)) = some (some (.string ⟨#[]⟩), 1, 16) := by kernel_rfl
theorem ownsRow_succA {W : World} {base : Nat} {e : TypeId} {size : Nat} {v : Value} {k : Nat} {xs : List Value} (h : W.ownsRow base e size v (k + 1) xs) : ∃ g cap, v = .slice (some ⟨g, 0, none⟩) (k + 1) cap := by
  rcases h.2 with ⟨_, h0⟩ | ⟨g, cap, _, h1, _⟩
  · omega
  · exact ⟨g, cap, h1⟩
theorem HeI.app {w0 W W2 : World} {g b : Nat} {wds : List ByteArray} {wd cd : ByteArray} {v v' : Value} {o : Obj} (hg : w0.heap.size ≤ g) (h1 : Row W g 175 (heB b v wd cd)) (h2 : W.ownsMap Tryz.prog 9 (plainElem Tryz.prog 9) b 26 (LD 26)) (h3 : W.ownsRow w0.heap.size 9 1 v wds.length (strs wds)) (h4 : Below w0.heap.size w0 W)
    (hgr : (W.alloc o).grownBy W2 v.ownBlock) (ho : W2.ownsRow w0.heap.size 9 1 v' (wds.length + 1) (strs wds ++ [.string wd])) : Row W2 g 175 (heB b v wd cd) ∧ HeI w0 g b (wds ++ [wd]) wd cd (W2.setCell ⟨g, 1, none⟩ v') := by
  have hnr := not_row h1 h3
  have hne : some g ≠ v.ownBlock := by
    rcases hnr with e | e
    · rw [e]; exact fun e => by cases e
    · exact fun e2 => e e2.symm
  have hbne : some b ≠ v.ownBlock := by
    intro e
    rcases h3.2 with ⟨e1, _⟩ | ⟨k, cap, cur, e1, _, e3, _⟩
    · rw [e1] at e; cases e
    · rw [e1] at e
      have e2 : b = k := by simpa [Value.ownBlock] using e
      subst e2
      obtain ⟨es, clock, m1, _⟩ := h2
      rw [e3] at m1; cases m1
  have k1 : Row W2 g 175 (heB b v wd cd) := (h1.alloc o).grown hgr hne
  have k2 := (h2.alloc o).kept hgr hbne
  have k4 : Below w0.heap.size w0 W2 := (h4.alloc h4.size o).grown hgr (by have := h4.size; simp; omega) (fun k hk => (h3.lt k hk).1)
  have hgr2 : W2.grownBy (W2.setCell ⟨g, 1, none⟩ v') (some g) := ⟨rfl, rfl, rfl, by simp, fun k _ hk => heap_setCell_other _ _ _ _ (fun e => hk (by rw [e]))⟩
  refine ⟨k1, hg, v', k1.set 1 v', k2.kept hgr2 (fun e => not_map k1 k2 (Option.some.inj e)), ?_, k4.setCell (by simpa using hg) _⟩
  have hl : (wds ++ [wd]).length = wds.length + 1 := by simp
  rw [hl, show strs (wds ++ [wd]) = strs wds ++ [.string wd] by simp [strs]]
  exact ho.kept hgr2 (not_row k1 ho)
theorem HeI.gen {p : World → Prop} {w0 W : World} {g b : Nat} {wds : List ByteArray} {wd cd : ByteArray} (h : HeI w0 g b wds wd cd W) (k : ∀ W, HeI w0 g b wds wd cd W → p W) : p W := k W h
theorem lettB_size {b : Nat} {W : World} (h : W.ownsMap Tryz.prog 9 (plainElem Tryz.prog 9) b 26 (LD 26)) (cd : ByteArray) (hc : cd.size ≤ 100000) : (lettB cd).size ≤ 1 := by
  obtain ⟨s, ok, _, hl, hs, _⟩ := look_any h cd hc
  rw [hl]; split
  · exact hs
  · exact Nat.le_refl 1
theorem lettI_size {w0 : World} {g b : Nat} {wds : List ByteArray} {wd cd : ByteArray} {W : World} (hI : HeI w0 g b wds wd cd W) (hc : cd.size ≤ 100000) : (lettI wd cd).size ≤ wd.size + 1 := by
  obtain ⟨_, v, _, h2, _, _⟩ := hI
  have := lettB_size h2 cd hc
  unfold lettI; split
  · omega
  · rw [ByteArray.size_append]; omega
set_option maxRecDepth 100000 in
set_option maxHeartbeats 1000000 in
theorem endWord_any (w0 : World) (g b : Nat) (wds : List ByteArray) (wd cd : ByteArray) (w : World) (hI : HeI w0 g b wds wd cd w) (hc : cd.size ≤ 100000) (hw : wd.size ≤ 100000) (hl : wds.length ≤ 100000) :
    Calls Tryz.prog 93 #[.pointer (some ⟨g, 0, none⟩)] w fun e w' => e = .returned (.tuple #[]) ∧ HeI w0 g b (addW wds (lettI wd cd)) ⟨#[]⟩ ⟨#[]⟩ w' := by
  have HE := Lib.hid (endLetter_any w0 g b wds wd cd w hI hc hw)
  obtain ⟨wd1, hwd1⟩ : ∃ wd1, wd1 = lettI wd cd := ⟨_, rfl⟩
  rw [← hwd1] at HE ⊢
  clear hI hwd1
  cases h : wd1.toList.isEmpty
  · have q1 : ¬ wd1.toList = [] := by intro e; rw [e] at h; cases h
    have q2 : (wd1.toList == []) = false := by simpa using q1
    have HA : Hid (addW wds wd1 = wds ++ [wd1]) := by unfold Hid addW; rw [h]; rfl
    go_enter Tryz.func93, Tryz.ntmps93
    go_wp2_with fail
    refine HE.out.mono ?_
    rintro e w1 ⟨rfl, hg, v, h1, h2, h3, h4⟩
    have c1 : w1.cell? ⟨g, 1, none⟩ = some v := by rw [h1.cell]; rfl
    have c2 : w1.cell? ⟨g, 2, none⟩ = some (.string wd1) := by rw [h1.cell]; rfl
    have f1 := h1.free 1
    have f2 := h1.free 2
    have nn1 := World.new_ne w1 ⟨g, 1, none⟩ c1
    have nn2 := World.new_ne w1 ⟨g, 2, none⟩ c2
    have a1 : ∀ o, (w1.alloc o).cell? ⟨g, 1, none⟩ = some v := fun o => keepC c1 ((Below.refl _ _).alloc (Nat.le_refl _) o)
    have H1 := Lib.hid h1; have H2 := Lib.hid h2; have H3 := Lib.hid h3; have H4 := Lib.hid h4
    clear h1 h2 h3 h4
    go_upto_region 2 with fail
    go_region_law (refine step_app rfl (.tmp 13) (.tmp 18) 78 rfl w0.heap.size 9 (.string ⟨#[]⟩) 1 16 Tryz.underlying78 info9 rfl (by decide) v wds.length (strs wds) rfl (H3.out.alloc _) w1.heap.size 1 1 [.string wd1] rfl 9 (Row.new w1 9 [.string wd1]) rfl (by simp [Value.oneCell']) (by unfold maxLen; omega) (by omega) (by have := H4.out.size; simp; omega) ?_; intro v' w2 ho2 hg2; obtain ⟨gq, cq, rfl⟩ := ownsRow_succA ho2; obtain ⟨k1, HI2⟩ := HeI.app (W := w1.drew) hg H1.out H2.out H3.out H4.out.drew (w0 := w0) (v := v) (o := .cells #[.string wd1] 9) hg2 ho2; have d1 : w2.cell? ⟨g, 1, none⟩ = some v := (by rw [k1.cell]; rfl); have e1 := k1.free 1; have HI2 := Lib.hid HI2; have K1 := Lib.hid k1; clear k1 ho2 hg2)
    all_goals
      refine HI2.out.gen ?_
      clear HI2 H1 H2 H3 H4 nn1 nn2 a1 c1 c2 f1 f2
      rintro w3 ⟨_, v3, m1, m2, m3, m4⟩
      have d2 : w3.cell? ⟨g, 2, none⟩ = some (.string wd1) := by rw [m1.cell]; rfl
      have e2 := m1.free 2
      have HF := Lib.hid (HeI.set (i := 2) (u := .string ⟨#[]⟩) (wd' := ⟨#[]⟩) (cd' := ⟨#[]⟩) hg m1 m2 m3 m4 rfl)
      clear m1 m2 m3 m4
      go_wp2
      go_end0
      exact ⟨rfl, by rw [HA.out]; exact HF.out⟩
  · have q2 : (wd1.toList == []) = true := by have := List.isEmpty_iff.1 h; simpa using this
    have HA : Hid (addW wds wd1 = wds) := by unfold Hid addW; rw [h]; rfl
    have he : wd1 = ⟨#[]⟩ := by
      have := List.isEmpty_iff.1 h
      rw [ByteArray.toList_eq] at this
      exact ByteArray.ext (by simpa using this)
    have HEE := Lib.hid he
    clear he
    go_enter Tryz.func93, Tryz.ntmps93
    go_wp2_with fail
    refine HE.out.mono ?_
    rintro e w1 ⟨rfl, hI1⟩
    have HI1 : Hid (HeI w0 g b wds ⟨#[]⟩ ⟨#[]⟩ w1) := by unfold Hid; rw [HEE.out] at hI1; exact hI1
    obtain ⟨hg, v, h1, h2, h3, h4⟩ := hI1
    have c2 : w1.cell? ⟨g, 2, none⟩ = some (.string wd1) := by rw [h1.cell]; rfl
    clear h1 h2 h3 h4
    go_wp2
    refine bodyPost_ret (results_none rfl _ _ _) rfl ?_
    exact ⟨rfl, by rw [HA.out]; exact HI1.out⟩
abbrev HeS := List ByteArray × ByteArray × ByteArray
def onS (s : HeS) (n d : Int) : HeS := (s.1, s.2.1, s.2.2 ++ if n < 2 * d then ⟨#[48]⟩ else ⟨#[49]⟩)
def endS (s : HeS) : HeS := (addW s.1 (lettI s.2.1 s.2.2), ⟨#[]⟩, ⟨#[]⟩)
def offS (s : HeS) (n d : Int) : HeS := if 5 * d ≤ n then endS s else if 2 * d ≤ n then (s.1, lettI s.2.1 s.2.2, ⟨#[]⟩) else s
def HeT (w0 : World) (g b : Nat) (s : HeS) (W : World) : Prop := HeI w0 g b s.1 s.2.1 s.2.2 W
def smallS (s : HeS) (k : Nat) : Prop := s.1.length ≤ k ∧ s.2.1.size ≤ k ∧ s.2.2.size ≤ k
theorem addW_len (l : List ByteArray) (wd : ByteArray) : (addW l wd).length ≤ l.length + 1 := by unfold addW; split <;> simp
theorem onS_small {s : HeS} {k : Nat} (h : smallS s k) (n d : Int) : smallS (onS s n d) (k + 1) := by
  obtain ⟨h1, h2, h3⟩ := h
  refine ⟨Nat.le_succ_of_le h1, Nat.le_succ_of_le h2, ?_⟩
  show (s.2.2 ++ _).size ≤ _
  rw [ByteArray.size_append]
  have : (if n < 2 * d then (⟨#[48]⟩ : ByteArray) else ⟨#[49]⟩).size = 1 := by split <;> rfl
  omega
theorem offS_small {w0 W : World} {g b : Nat} {s : HeS} {k : Nat} (hI : HeT w0 g b s W) (h : smallS s k) (hk : k ≤ 100000) (n d : Int) : smallS (offS s n d) (k + 1) := by
  obtain ⟨h1, h2, h3⟩ := h
  have hl := lettI_size hI (by omega)
  unfold offS
  split
  · refine ⟨?_, Nat.zero_le _, Nat.zero_le _⟩
    have := addW_len s.1 (lettI s.2.1 s.2.2)
    show (addW _ _).length ≤ _
    omega
  · split
    · exact ⟨Nat.le_succ_of_le h1, by show (lettI _ _).size ≤ _; omega, Nat.zero_le _⟩
    · exact ⟨Nat.le_succ_of_le h1, Nat.le_succ_of_le h2, Nat.le_succ_of_le h3⟩
theorem onT_any (w0 : World) (g b : Nat) (s : HeS) (k : Nat) (n d : Int) (w : World) (hI : HeT w0 g b s w) (hs : smallS s k) (hk : k ≤ 100000) (hn : 0 ≤ n ∧ n ≤ 100000) (hd : 0 ≤ d ∧ d ≤ 100) :
    Calls Tryz.prog 91 #[.pointer (some ⟨g, 0, none⟩), .int .i64 n, .int .i64 d] w fun e w' => e = .returned (.tuple #[]) ∧ HeT w0 g b (onS s n d) w' :=
  on_any w0 g b s.1 s.2.1 s.2.2 n d w hI hn hd (Nat.le_trans hs.2.2 hk)
set_option maxRecDepth 100000 in
set_option maxHeartbeats 400000 in
theorem offT_any (w0 : World) (g b : Nat) (s : HeS) (k : Nat) (n d : Int) (w : World) (hI : HeT w0 g b s w) (hs : smallS s k) (hk : k ≤ 100000) (hn : 0 ≤ n ∧ n ≤ 100000) (hd : 0 ≤ d ∧ d ≤ 100) :
    Calls Tryz.prog 92 #[.pointer (some ⟨g, 0, none⟩), .int .i64 n, .int .i64 d] w fun e w' => e = .returned (.tuple #[]) ∧ HeT w0 g b (offS s n d) w' := by
  have HW := Lib.hid (endWord_any w0 g b s.1 s.2.1 s.2.2 w hI (Nat.le_trans hs.2.2 hk) (Nat.le_trans hs.2.1 hk) (Nat.le_trans hs.1 hk))
  have HL := Lib.hid (endLetter_any w0 g b s.1 s.2.1 s.2.2 w hI (Nat.le_trans hs.2.2 hk) (Nat.le_trans hs.2.1 hk))
  have HI := Lib.hid hI
  clear hI hs
  by_cases h5 : 5 * d ≤ n
  · have HO : Hid (offS s n d = endS s) := by unfold Hid offS; rw [if_pos h5]
    go_enter Tryz.func92, Tryz.ntmps92
    go_wp2_with fail
    refine HW.out.mono ?_
    rintro e w1 ⟨rfl, h1⟩
    go_wp2
    go_end0
    exact ⟨rfl, by rw [HO.out]; exact h1⟩
  · by_cases h2 : 2 * d ≤ n
    · have HO : Hid (offS s n d = (s.1, lettI s.2.1 s.2.2, ⟨#[]⟩)) := by unfold Hid offS; rw [if_neg h5, if_pos h2]
      go_enter Tryz.func92, Tryz.ntmps92
      go_wp2_with fail
      refine HL.out.mono ?_
      rintro e w1 ⟨rfl, h1⟩
      go_wp2
      go_end0
      exact ⟨rfl, by rw [HO.out]; exact h1⟩
    · have HO : Hid (offS s n d = s) := by unfold Hid offS; rw [if_neg h5, if_neg h2]
      go_enter Tryz.func92, Tryz.ntmps92
      go_wp2
      go_end0
      exact ⟨rfl, by rw [HO.out]; exact HI.out⟩
def hearGo (xs : List Nat) (d : Int) : Nat → Nat → HeS → HeS
  | 0, _, s => s
  | f + 1, i, s => if i < xs.length then hearGo xs d f (spanEndL xs i) (if onB (xs.getD i 0) then onS s ((spanEndL xs i : Int) - i) d else offS s ((spanEndL xs i : Int) - i) d) else s
def heardL (xs : List Nat) (d : Int) : List ByteArray := (endS (hearGo xs d xs.length 0 ([], ⟨#[]⟩, ⟨#[]⟩))).1
theorem spanEndL_bd {xs : List Nat} {i : Nat} (h : i < xs.length) : i < spanEndL xs i ∧ spanEndL xs i ≤ xs.length := by
  have := runL_le (onB (xs.getD i 0)) (xs.drop (i + 1))
  rw [List.length_drop] at this
  unfold spanEndL; omega
theorem HeT.drewN {w0 W : World} {g b : Nat} {s : HeS} (h : HeT w0 g b s W) (q : Nat) : HeT w0 g b s (W.drewN q) := by
  obtain ⟨h0, v, h1, h2, h3, h4⟩ := h
  exact ⟨h0, v, h1, h2, h3, below_drewN h4 q⟩
theorem HeT.below {w0 W : World} {g b : Nat} {s : HeS} (h : HeT w0 g b s W) : Below w0.heap.size w0 W := by
  obtain ⟨_, v, _, _, _, h4⟩ := h; exact h4
def HeardR (w0 : World) (l : List ByteArray) (e : Ending) (w' : World) : Prop := ∃ v, (if 64 < l.length then e = .returned (.tuple #[.slice none 0 0, .int .i64 5]) else e = .returned (.tuple #[v, .int .i64 0]) ∧ w'.ownsRow w0.heap.size 9 1 v l.length (strs l)) ∧ Below w0.heap.size w0 w'
theorem heI_gen {p : World → Prop} {w0 W : World} {g b : Nat} {s : HeS} (h : HeT w0 g b s W) (k : ∀ W, HeT w0 g b s W → p W) : p W := k W h
set_option maxRecDepth 100000 in
set_option maxHeartbeats 1000000 in
theorem heard_ok (A : Option Addr) (n c : Nat) (xs : List Nat) (d : Int) (w : World) (hA : Rd w A (flts xs)) (hn : n = xs.length) (hm : xs.length ≤ 4096) (h0 : sampsI xs = 0) (hd : 1 ≤ d ∧ d ≤ 16) (hT : Tz w) :
    Calls Tryz.prog 26 #[.slice A n c, .int .i64 d] w fun e w' => HeardR w (heardL xs d) e w' := by
  subst hn
  have HC : Hid (Calls Tryz.prog 87 #[.slice A xs.length c] w fun e w' => e = .returned (.int .i64 0) ∧ Below w.heap.size w w') := by unfold Hid; rw [← h0]; exact checkSamples_any A _ c xs w hA rfl
  have HZ : Hid (whenI (rangeB d 1 16) 3 = 0) := by unfold Hid whenI rangeB; simp; omega
  have HA := Lib.hid hA; have HT := Lib.hid hT
  clear hA hT h0
  go_enter Tryz.func26, Tryz.ntmps26
  go_wp2_with (first
    | (go_at_call 87; refine HC.out.mono ?_; rintro e w1 ⟨rfl, hb1⟩; have HB1 := Lib.hid hb1; clear hb1)
    | (go_at_call 78; refine (between_any _ _ _ _).mono ?_; rintro e w3 ⟨rfl, rfl⟩; rw [HZ.out])
    | (go_at_call 76; refine (firstV_any _ _ _ [0, 0] _ (Rd.new _ _ _ _ rfl) rfl (by simp)).mono ?_; rintro e w3 ⟨rfl, rfl⟩)
    | (go_at_call 88; refine (letters_any _ (HT.out.old (HB1.out.alloc HB1.out.size _))).mono ?_; rintro e w4 ⟨b, rfl, hm4, hb4, hw4⟩; have HM4 := Lib.hid hm4; have HB4 := Lib.hid ((HB1.out.alloc HB1.out.size _).trans (hw4.mono (by have := HB1.out.size; simp; omega))); clear hm4 hw4 hb4))
  have HI0 : Hid (HeT w w4.heap.size b ([], ⟨#[]⟩, ⟨#[]⟩) (w4.alloc (.cells #[.map (some b), .slice none 0 0, .string ⟨#[]⟩, .string ⟨#[]⟩] 175))) :=
    ⟨HB4.out.size, .slice none 0 0, Row.new w4 _ (heB b (.slice none 0 0) ⟨#[]⟩ ⟨#[]⟩), HM4.out.alloc _, World.ownsRow_nil _ _ _ _, HB4.out.alloc HB4.out.size _⟩
  refine heI_gen HI0.out ?_
  clear HI0 HM4 HC HT
  intro w5 hi5
  have HI5 := Lib.hid hi5
  clear hi5
  go_loopg [8] xs.length (fun g i wr => ∃ (k : Nat) (s : HeS), k ≤ xs.length ∧ i = .int .i64 k ∧ Hid (hearGo xs d g k s = hearGo xs d xs.length 0 ([], ⟨#[]⟩, ⟨#[]⟩)) ∧ Hid (smallS s k) ∧ Hid (HeT w w4.heap.size b s wr) ∧ Hid (xs.length ≤ k + g))
  case atStart => exact ⟨0, _, Nat.zero_le _, rfl, rfl, ⟨Nat.le_refl _, Nat.le_refl _, Nat.le_refl _⟩, HI5, by show _ ≤ _; omega⟩
  case round =>
    obtain ⟨k, s, hk, rfl, Hg, Hs, HI, Hf⟩ := hrel
    by_cases hlt : k < xs.length
    · obtain ⟨f, rfl⟩ : ∃ f, gk = f + 1 := ⟨gk - 1, by have := Hf.out; omega⟩
      obtain ⟨bb, off, hAb, hc⟩ := Rd.flt (HA.out.below HI.out.below) hlt
      subst hAb
      have hsp := spanEndL_bd hlt
      have HSP : Hid (∀ W, Below w.heap.size w W → Calls Tryz.prog 89 #[.slice (some ⟨bb, off, none⟩) xs.length c, .int .i64 k] W fun e w' => e = .returned (.int .i64 (spanEndL xs k : Nat)) ∧ ∃ q, w' = W.drewN q) := fun W hW => spanEnd_any _ _ c xs k W (HA.out.below hW) rfl hlt (by omega)
      have hstep : hearGo xs d (f + 1) k s = hearGo xs d f (spanEndL xs k) (if onB (xs.getD k 0) then onS s ((spanEndL xs k : Int) - k) d else offS s ((spanEndL xs k : Int) - k) d) := by rw [hearGo, if_pos hlt]
      rw [Hg.out, show xs.getD k 0 = xs[k] by simp [hlt]] at hstep
      obtain ⟨tq, hto⟩ : ∃ tq, tq = spanEndL xs k := ⟨_, rfl⟩
      rw [← hto] at hsp HSP hstep
      obtain ⟨x, hx⟩ : ∃ x, x = xs[k] := ⟨_, rfl⟩
      rw [← hx] at hc hstep
      have e1 : IntKind.i64.wrap ((tq : Int) - (k : Int)) = (tq : Int) - (k : Int) := IntWalk.i64_in _ (by omega)
      have Hstep := Lib.hid hstep
      clear hstep hto hx
      cases hon : onB x
      · have HON := Lib.hid hon
        clear hon
        go_wp2_with (first
          | (go_at_call 89; refine (HSP.out _ HI.out.below).mono ?_; rintro e w6 ⟨rfl, q, rfl⟩; have HI6 := Lib.hid (HI.out.drewN q))
          | (go_at_call 90; refine (isOn_any _ _).mono ?_; rintro e w7 ⟨rfl, rfl⟩; rw [HON.out])
          | (go_at_call 92; refine (offT_any w w4.heap.size b s k _ d _ HI6.out Hs.out (by omega) (by omega) (by omega)).mono ?_; rintro e w8 ⟨rfl, hi8⟩; have HI8 := Lib.hid hi8; clear hi8))
        go_roundg f
        case measure => omega
        case rel =>
          refine ⟨tq, offS s ((tq : Int) - k) d, by omega, rfl, by show _ = _; rw [Hstep.out, HON.out]; rfl, ?_, HI8, by have := Hf.out; show _ ≤ _; omega⟩
          have h := offS_small HI.out Hs.out (by omega) ((tq : Int) - k) d
          exact ⟨Nat.le_trans h.1 (by omega), Nat.le_trans h.2.1 (by omega), Nat.le_trans h.2.2 (by omega)⟩
      · have HON := Lib.hid hon
        clear hon
        go_wp2_with (first
          | (go_at_call 89; refine (HSP.out _ HI.out.below).mono ?_; rintro e w6 ⟨rfl, q, rfl⟩; have HI6 := Lib.hid (HI.out.drewN q))
          | (go_at_call 90; refine (isOn_any _ _).mono ?_; rintro e w7 ⟨rfl, rfl⟩; rw [HON.out])
          | (go_at_call 91; refine (onT_any w w4.heap.size b s k _ d _ HI6.out Hs.out (by omega) (by omega) (by omega)).mono ?_; rintro e w8 ⟨rfl, hi8⟩; have HI8 := Lib.hid hi8; clear hi8))
        go_roundg f
        case measure => omega
        case rel =>
          refine ⟨tq, onS s ((tq : Int) - k) d, by omega, rfl, by show _ = _; rw [Hstep.out, HON.out]; rfl, ?_, HI8, by have := Hf.out; show _ ≤ _; omega⟩
          have h := onS_small Hs.out ((tq : Int) - k) d
          exact ⟨Nat.le_trans h.1 (by omega), Nat.le_trans h.2.1 (by omega), Nat.le_trans h.2.2 (by omega)⟩
    · have hend : hearGo xs d gk k s = s := by
        cases gk with
        | zero => rfl
        | succ f => rw [hearGo, if_neg hlt]
      have HL : Hid (heardL xs d = addW s.1 (lettI s.2.1 s.2.2)) := by unfold Hid heardL; rw [← Hg.out, hend]; rfl
      have HEW := Lib.hid (endWord_any w w4.heap.size b s.1 s.2.1 s.2.2 wr HI.out (by have := Hs.out.2.2; omega) (by have := Hs.out.2.1; omega) (by have := Hs.out.1; omega))
      obtain ⟨l, hl⟩ : ∃ l, l = addW s.1 (lettI s.2.1 s.2.2) := ⟨_, rfl⟩
      rw [← hl] at HL HEW
      clear hend hl
      by_cases h64 : 64 < l.length
      · go_wp2_with fail
        refine HEW.out.mono ?_
        rintro e w6 ⟨rfl, hg6, v, m1, m2, m3, m4⟩
        obtain ⟨Av, cv, rfl, _⟩ := owned_slice m3
        have c1 : w6.cell? ⟨w4.heap.size, 1, none⟩ = some (.slice Av l.length cv) := by rw [m1.cell]; rfl
        have M4 := Lib.hid m4
        clear m1 m2 m3 m4
        go_wp2
        go_ret2
        exact ⟨.slice none 0 0, by rw [HL.out, if_pos h64]; exact rfl, M4.out⟩
      · go_wp2_with fail
        refine HEW.out.mono ?_
        rintro e w6 ⟨rfl, hg6, v, m1, m2, m3, m4⟩
        obtain ⟨Av, cv, rfl, _⟩ := owned_slice m3
        have c1 : w6.cell? ⟨w4.heap.size, 1, none⟩ = some (.slice Av l.length cv) := by rw [m1.cell]; rfl
        have M4 := Lib.hid m4; have M3 := Lib.hid m3
        clear m1 m2 m3 m4
        go_wp2
        go_ret2
        exact ⟨.slice Av l.length cv, by rw [HL.out, if_neg h64]; exact ⟨rfl, M3.out⟩, M4.out⟩
end Go.Proofs.YtoclnlimnjnbkaaGreatDoor
