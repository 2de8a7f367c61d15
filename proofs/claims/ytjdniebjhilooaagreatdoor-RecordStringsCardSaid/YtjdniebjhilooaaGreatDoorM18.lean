import Derived.Test.YtjdniebjhilooaaGreatDoorM15
namespace Go.Proofs.YtjdniebjhilooaaGreatDoor
set_option linter.all false
open Go.RowKit Go.Fl
def OA := @List.setIfInBounds_toArray
def OD := @wpAnyH_take
def OE := @AllReadyH.cons
def OF := @AllReadyH.nil
def OG := @wpAnyH_ready
def OB := @List.set_cons_zero
def OC := @List.set_cons_succ
theorem step_app {P : Program} {w : World} {ops : Array Oper} {o : Oper} {a : Act} {K : Act → World → Prop} {Q : Exit → Act → World → Prop} {E : Prop} (hgd : o.guard = none) (s x : Operand) (t : TypeId)
 (ho : o.op = .call { callee := .builtin .append, args := #[s, x], argTypes := #[t, t] })
 (base : Nat) (e : TypeId) (z : Value) (size bytes : Nat) (ht : P.underlying t = some (.slice e)) (hinfo : (P.info? e).map (fun i => (i.zero, i.size, i.bytes)) = some (some z, size, bytes)) (hzs : z.cells.size = size) (hsz : 0 < size)
 (v : Value) (n : Nat) (xs : List Value) (hs : a.eval s = v) (hown : w.ownsRow base e size v n xs)
 (g m c : Nat) (news : List Value) (hx : a.eval x = .slice (some ⟨g, 0, none⟩) m c) (u : TypeId) (hr : Row w g u news) (hl : news.length = m * size) (h1 : ∀ u ∈ news, u.oneCell' = true)
 (h63 : n + m ≤ maxLen) (hbytes : (n + m) * bytes ≤ 140737488355328) (hbase : base ≤ w.heap.size)
 (h : ∀ v' w', w'.ownsRow base e size v' (n + m) (xs ++ news) → w.grownBy w' v.ownBlock → K (a.put o.dst v') w') :
 if Region.wanted o (yielded ops a.tmps) = true then Oper.wp P o a w K Q else E := by
 have hw : Region.wanted o (yielded ops a.tmps) = true := by simp [Region.wanted, hgd]
 rw [if_pos hw]
 obtain ⟨i, hi, hz0, hz1, hz2⟩ := info_parts hinfo
 exact wp_append_own w s x t ho base e i z size bytes ht hi hz0 hz1 hz2 hzs hsz v n xs hs hown ⟨g, 0, none⟩ m c news hx hl
  (fun j u hu => by
    obtain ⟨b, off, hh, hcell⟩ := Rd.row hr j u hu
    cases hh
    by_cases hj : j = 0
    · subst hj; simpa [Addr.add] using hcell
    · simpa [Addr.add, hj] using hcell) h1 h63 hbytes hbase fun v' w' h2 h3 _ => h v' w' h2 h3
theorem row_owns {w : World} {g : Nat} {e : TypeId} {vs : List Value} (h : Row w g e vs) (size n B : Nat) (hl : vs.length = n * size) (hn : n ≤ maxLen) (hB : B ≤ g) : w.ownsRow B e size (.slice (some ⟨g, 0, none⟩) n n) n vs :=
 ⟨hl, .inr ⟨g, n, vs.toArray, rfl, hB, h, Nat.le_refl _, hn, by simpa using hl, by rw [← hl]; simp⟩⟩
theorem splice_zero (z : Value) (cs ds : List Value) (n m : Nat) (hn : n = cs.length) (hm : m = ds.length) : splice (splice (List.replicate (n + m) z) 0 cs) n ds = cs ++ ds := by
 subst hn; subst hm
 have e1 : splice (List.replicate (cs.length + ds.length) z) 0 cs = cs ++ List.replicate ds.length z := by
  simp [splice]
 rw [e1]
 simp [splice]
theorem markC_one (l : List (Int × ByteArray)) : ∀ v ∈ markC l, v.oneCell' = true := by
 intro v hv
 simp only [markC, List.mem_flatMap] at hv
 obtain ⟨p, -, hp⟩ := hv
 rcases List.mem_cons.1 hp with rfl | hp
 · rfl
 · rcases List.mem_cons.1 hp with rfl | hp
   · rfl
   · cases hp
theorem flts_one (l : List Nat) : ∀ v ∈ flts l, v.oneCell' = true := by
 intro v hv; obtain ⟨b, -, rfl⟩ := List.mem_map.1 hv; rfl
theorem genF {p : World → Prop} {w0 w : World} (g : Nat) (t : TypeId) (v : List Value) (h0 : Row w g t v) (hb : Below w0.heap.size w0 w) (h : ∀ W, Row W g t v → Below w0.heap.size w0 W → p W) : p w := h w h0 hb
theorem slice_end {P : Program} (t : TypeId) (ht : P.underlying t = some (.slice (P.elem t))) (hs : ∀ w, (sizeOf (P.elem t)).run P w = .ok 1 w) (g n m : Nat) (w : World) :
 (Instr.slice t (.slice (some ⟨g, 0, none⟩) (n + m) (n + m)) (some (.int .i64 (n : Int))) none none).run P w = .ok (.slice (some ⟨g, if m = 0 then 0 else n, none⟩) m m) w := by
 rw [run_slice_l w t (some ⟨g, 0, none⟩) (n + m) (n + m) ht .i64 (n : Int) (by omega) (by omega), hs]
 simp only [Result.andThen, sliced, Nat.mul_one, Int.toNat_natCast]
 by_cases hm : m = 0
 · subst hm; simp
 · have hne : ¬ n + m = n := by omega
   rw [if_neg hne, if_neg hm]
   by_cases hj : n = 0
   · subst hj; simp [Addr.add]
   · simp [Addr.add, hj]
set_option maxRecDepth 100000 in
set_option maxHeartbeats 4000000 in
theorem joined_ok (st sp : Int) (A1 B1 A2 B2 : Option Addr) (n1 c1 m1 d1 n2 c2 m2 d2 : Nat) (xs ys : List Nat) (ms ns : List (Int × ByteArray)) (st2 : Int) (w : World) (hA1 : Rd w A1 (flts xs)) (hB1 : Rd w B1 (markC ms)) (hA2 : Rd w A2 (flts ys)) (hB2 : Rd w B2 (markC ns)) (hn1 : n1 = xs.length) (hm1 : m1 = ms.length) (hn2 : n2 = ys.length) (hm2 : m2 = ns.length)
 (h1 : recI st sp xs ms = 0) (h2 : recI (tickI st sp xs.length) sp ys ns = 0) (hst : st2 = tickI st sp xs.length) (hxy : xs.length + ys.length ≤ 4096) (hmn : ms.length + ns.length ≤ 16) :
 Calls Tryz.prog 39 #[.agg #[.int .i64 st, .int .i64 sp, .slice A1 n1 c1, .slice B1 m1 d1], .agg #[.int .i64 st2, .int .i64 sp, .slice A2 n2 c2, .slice B2 m2 d2]] w
  fun e w' => ∃ g v, e = .returned (.tuple #[.agg #[.int .i64 st, .int .i64 sp, .slice (some ⟨g, 0, none⟩) (xs.length + ys.length) (xs.length + ys.length), v], .int .i64 0]) ∧
   Row w' g 56 (flts (xs ++ ys)) ∧ w'.ownsRow w.heap.size 117 2 v (ms.length + ns.length) (markC (ms.map (shiftM 0) ++ ns.map (shiftM xs.length))) ∧ w.heap.size ≤ g ∧ Below w.heap.size w w' := by
 subst hn1; subst hm1; subst hn2; subst hm2; subst hst
 have HA1 : Hid (∀ W, Below w.heap.size w W → Rd W A1 (flts xs)) := fun W h => hA1.below h
 have HB1 : Hid (∀ W, Below w.heap.size w W → Rd W B1 (markC ms)) := fun W h => hB1.below h
 have HA2 : Hid (∀ W, Below w.heap.size w W → Rd W A2 (flts ys)) := fun W h => hA2.below h
 have HB2 : Hid (∀ W, Below w.heap.size w W → Rd W B2 (markC ns)) := fun W h => hB2.below h
 have H1 := Lib.hid h1; have H2 := Lib.hid h2
 clear hA1 hB1 hA2 hB2 h1 h2
 have R0 := Row.new w 33 [.int .i64 st, .int .i64 sp, .slice A1 xs.length c1, .slice B1 ms.length d1]
 have R1 := Row.new (w.alloc (.cells #[.int .i64 st, .int .i64 sp, .slice A1 xs.length c1, .slice B1 ms.length d1] 33)) 33 [.int .i64 (tickI st sp xs.length), .int .i64 sp, .slice A2 ys.length c2, .slice B2 ns.length d2]
 have R2 := Row.new ((w.alloc (.cells #[.int .i64 st, .int .i64 sp, .slice A1 xs.length c1, .slice B1 ms.length d1] 33)).alloc (.cells #[.int .i64 (tickI st sp xs.length), .int .i64 sp, .slice A2 ys.length c2, .slice B2 ns.length d2] 33)) 33 zero4
 rw [World.size_alloc] at R1
 rw [World.size_alloc, World.size_alloc] at R2
 have R0' := (R0.alloc (.cells #[.int .i64 (tickI st sp xs.length), .int .i64 sp, .slice A2 ys.length c2, .slice B2 ns.length d2] 33)).alloc (.cells zero4.toArray 33)
 have R1' := R1.alloc (.cells zero4.toArray 33)
 have RB := (((Below.refl w.heap.size w).alloc (Nat.le_refl _) (.cells #[.int .i64 st, .int .i64 sp, .slice A1 xs.length c1, .slice B1 ms.length d1] 33)).alloc (by simp) (.cells #[.int .i64 (tickI st sp xs.length), .int .i64 sp, .slice A2 ys.length c2, .slice B2 ns.length d2] 33)).alloc (by simp; omega) (.cells zero4.toArray 33)
 have HR0 := Lib.hid R0'; have HR1 := Lib.hid R1'; have HR2 := Lib.hid R2; have HRB := Lib.hid RB
 clear R0 R1 R2 R0' R1' RB
 have hxy1 : IntKind.i64.wrap ((xs.length : Int) + (ys.length : Int)) = (xs.length : Int) + (ys.length : Int) := IntWalk.i64_in _ (by omega)
 have hmn1 : IntKind.i64.wrap ((ms.length : Int) + (ns.length : Int)) = (ms.length : Int) + (ns.length : Int) := IntWalk.i64_in _ (by omega)
 have hxy2 : decide ((4096 : Int) < (xs.length : Int) + (ys.length : Int)) = false := decide_eq_false (by omega)
 have hmn2 : decide ((16 : Int) < (ms.length : Int) + (ns.length : Int)) = false := decide_eq_false (by omega)
 go_enter Tryz.func39, Tryz.ntmps39
 go_upto_region 1 with fail
 refine genD (w0 := w) w.heap.size (w.heap.size + 1) (w.heap.size + 1 + 1) _ _ _ _ _ _ HR0.out HR1.out HR2.out HRB.out ?_
 clear HR0 HR1 HR2 HRB
 intro W R0 R1 R2 RB
 have G0 := Lib.hid R0; have G1 := Lib.hid R1; have G2 := Lib.hid R2; have GB := Lib.hid RB
 have s2 := R2.lt
 have S2 := Lib.hid s2
 clear R0 R1 R2 RB s2
 refine wp_region_held_drew (S := fun w' => w'.cell? ⟨w.heap.size, 0, none⟩ = some (.int .i64 st) ∧ w'.cell? ⟨w.heap.size, 1, none⟩ = some (.int .i64 sp) ∧ w'.cell? ⟨w.heap.size, 2, none⟩ = some (.slice A1 xs.length c1) ∧ w'.cell? ⟨w.heap.size, 3, none⟩ = some (.slice B1 ms.length d1) ∧ w'.cell? ⟨w.heap.size + 1, 0, none⟩ = some (.int .i64 (tickI st sp xs.length)) ∧ w'.cell? ⟨w.heap.size + 1, 1, none⟩ = some (.int .i64 sp) ∧ w'.cell? ⟨w.heap.size + 1, 2, none⟩ = some (.slice A2 ys.length c2) ∧ w'.cell? ⟨w.heap.size + 1, 3, none⟩ = some (.slice B2 ns.length d2) ∧ Below W.heap.size W w') (by kernel_rfl) ?_ (fun hHeld => ?_)
 · exact ⟨G0.out.cell 0, G0.out.cell 1, G0.out.cell 2, G0.out.cell 3, G1.out.cell 0, G1.out.cell 1, G1.out.cell 2, G1.out.cell 3, (Below.refl _ _).drew⟩
 refine OD (i := 0) (v := ?_) rfl (by kernel_rfl) (by kernel_rfl) (by kernel_rfl) (fun _ _ _ h => h) (Or.inl ⟨by kernel_rfl, ?_⟩) hHeld ?_
 rotate_left
 · intro w1 hSw; (try dsimp only at hSw); go_simp <;> with_reducible rfl
 try simp only [Act.put, OA, OB, OC]
 refine OD (i := 2) (v := ?_) rfl (by kernel_rfl) (by kernel_rfl) (by kernel_rfl) (fun _ _ _ h => h) (Or.inl ⟨by kernel_rfl, ?_⟩) hHeld ?_
 rotate_left
 · intro w1 hSw; (try dsimp only at hSw); go_simp <;> with_reducible rfl
 try simp only [Act.put, OA, OB, OC]
 refine OD (i := 4) (v := ?_) rfl (by kernel_rfl) (by kernel_rfl) (by kernel_rfl) (fun _ _ _ h => h) (Or.inl ⟨by kernel_rfl, ?_⟩) hHeld ?_
 rotate_left
 · intro w1 hSw; (try dsimp only at hSw); go_simp <;> with_reducible rfl
 try simp only [Act.put, OA, OB, OC]
 refine OD (i := 5) (v := ?_) rfl (by kernel_rfl) (by kernel_rfl) (by kernel_rfl) (fun _ _ _ h => h) (Or.inl ⟨by kernel_rfl, ?_⟩) hHeld ?_
 rotate_left
 · intro w1 hSw; (try dsimp only at hSw); go_simp <;> with_reducible rfl
 try simp only [Act.put, OA, OB, OC]
 refine OD (i := 6) (v := ?_) rfl (by kernel_rfl) (by kernel_rfl) (by kernel_rfl) (fun _ _ _ h => h) (Or.inl ⟨by kernel_rfl, ?_⟩) hHeld ?_
 rotate_left
 · intro w1 hSw; (try dsimp only at hSw); go_simp <;> with_reducible rfl
 try simp only [Act.put, OA, OB, OC]
 refine OD (i := 7) (v := ?_) rfl (by kernel_rfl) (by kernel_rfl) (by kernel_rfl) (fun _ _ _ h => h) (Or.inl ⟨by kernel_rfl, ?_⟩) hHeld ?_
 rotate_left
 · intro w1 hSw; (try dsimp only at hSw); go_simp <;> with_reducible rfl
 try simp only [Act.put, OA, OB, OC]
 refine OD (i := 8) (v := ?_) rfl (by kernel_rfl) (by kernel_rfl) (by kernel_rfl) (fun _ _ _ h => h) (Or.inl ⟨by kernel_rfl, ?_⟩) hHeld ?_
 rotate_left
 · intro w1 hSw; (try dsimp only at hSw); go_simp <;> with_reducible rfl
 try simp only [Act.put, OA, OB, OC]
 refine OD (i := 10) (v := ?_) rfl (by kernel_rfl) (by kernel_rfl) (by kernel_rfl) (fun _ _ _ h => h) (Or.inl ⟨by kernel_rfl, ?_⟩) hHeld ?_
 rotate_left
 · intro w1 hSw; (try dsimp only at hSw); go_simp <;> with_reducible rfl
 try simp only [Act.put, OA, OB, OC]
 refine OD (i := 11) (v := ?_) rfl (by kernel_rfl) (by kernel_rfl) (by kernel_rfl) (fun _ _ _ h => h) (Or.inl ⟨by kernel_rfl, ?_⟩) hHeld ?_
 rotate_left
 · intro w1 hSw; (try dsimp only at hSw); go_simp <;> with_reducible rfl
 try simp only [Act.put, OA, OB, OC]
 refine OD (i := 12) (v := ?_) rfl (by kernel_rfl) (by kernel_rfl) (by kernel_rfl) (fun _ _ _ h => h) (Or.inl ⟨by kernel_rfl, ?_⟩) hHeld ?_
 rotate_left
 · intro w1 hSw; (try dsimp only at hSw); go_simp <;> with_reducible rfl
 try simp only [Act.put, OA, OB, OC]
 refine OD (i := 13) (v := ?_) rfl (by kernel_rfl) (by kernel_rfl) (by kernel_rfl) (fun _ _ _ h => h) (Or.inl ⟨by kernel_rfl, ?_⟩) hHeld ?_
 rotate_left
 · intro w1 hSw; (try dsimp only at hSw); go_simp <;> with_reducible rfl
 try simp only [Act.put, OA, OB, OC]
 refine OD (i := 14) (v := ?_) rfl (by kernel_rfl) (by kernel_rfl) (by kernel_rfl) (fun _ _ _ h => h) (Or.inl ⟨by kernel_rfl, ?_⟩) hHeld ?_
 rotate_left
 · intro w1 hSw; (try dsimp only at hSw); go_simp <;> with_reducible rfl
 try simp only [Act.put, OA, OB, OC]
 refine OD (i := 15) (v := ?_) rfl (by kernel_rfl) (by kernel_rfl) (by kernel_rfl) (fun _ _ _ h => h) (Or.inl ⟨by kernel_rfl, ?_⟩) hHeld ?_
 rotate_left
 · intro w1 hSw; (try dsimp only at hSw); go_simp <;> with_reducible rfl
 try simp only [Act.put, OA, OB, OC]
 refine OD (i := 19) (v := ?_) rfl (by kernel_rfl) (by kernel_rfl) (by kernel_rfl) (fun _ _ _ h => h) (Or.inl ⟨by kernel_rfl, ?_⟩) hHeld ?_
 rotate_left
 · intro w1 hSw; (try dsimp only at hSw); go_simp <;> with_reducible rfl
 try simp only [Act.put, OA, OB, OC]
 refine OD (i := 20) (v := ?_) rfl (by kernel_rfl) (by kernel_rfl) (by kernel_rfl) (fun _ _ _ h => h) (Or.inl ⟨by kernel_rfl, ?_⟩) hHeld ?_
 rotate_left
 · intro w1 hSw; (try dsimp only at hSw); go_simp <;> with_reducible rfl
 try simp only [Act.put, OA, OB, OC]
 refine OD (i := 21) (v := ?_) rfl (by kernel_rfl) (by kernel_rfl) (by kernel_rfl) (fun _ _ _ h => h) (Or.inl ⟨by kernel_rfl, ?_⟩) hHeld ?_
 rotate_left
 · intro w1 hSw; (try dsimp only at hSw); go_simp <;> with_reducible rfl
 try simp only [Act.put, OA, OB, OC]
 refine OD (i := 22) (v := ?_) rfl (by kernel_rfl) (by kernel_rfl) (by kernel_rfl) (fun _ _ _ h => h) (Or.inl ⟨by kernel_rfl, ?_⟩) hHeld ?_
 rotate_left
 · intro w1 hSw; (try dsimp only at hSw); go_simp <;> with_reducible rfl
 try simp only [Act.put, OA, OB, OC]
 refine OD (i := 23) (v := ?_) rfl (by kernel_rfl) (by kernel_rfl) (by kernel_rfl) (fun _ _ _ h => h) (Or.inl ⟨by kernel_rfl, ?_⟩) hHeld ?_
 rotate_left
 · intro w1 hSw; (try dsimp only at hSw); go_simp <;> with_reducible rfl
 try simp only [Act.put, OA, OB, OC]
 refine OD (i := 24) (v := ?_) rfl (by kernel_rfl) (by kernel_rfl) (by kernel_rfl) (fun _ _ _ h => h) (Or.inl ⟨by kernel_rfl, ?_⟩) hHeld ?_
 rotate_left
 · intro w1 hSw; (try dsimp only at hSw); go_simp <;> with_reducible rfl
 try simp only [Act.put, OA, OB, OC]
 refine OD (i := 25) (v := ?_) rfl (by kernel_rfl) (by kernel_rfl) (by kernel_rfl) (fun _ _ _ h => h) (Or.inl ⟨by kernel_rfl, ?_⟩) hHeld ?_
 rotate_left
 · intro w1 hSw; (try dsimp only at hSw); go_simp <;> with_reducible rfl
 try simp only [Act.put, OA, OB, OC]
 refine OD (i := 26) (v := ?_) rfl (by kernel_rfl) (by kernel_rfl) (by kernel_rfl) (fun _ _ _ h => h) (Or.inl ⟨by kernel_rfl, ?_⟩) hHeld ?_
 rotate_left
 · intro w1 hSw; (try dsimp only at hSw); go_simp <;> with_reducible rfl
 try simp only [Act.put, OA, OB, OC]
 refine OD (i := 28) (v := ?_) rfl (by kernel_rfl) (by kernel_rfl) (by kernel_rfl) (fun _ _ _ h => h) (Or.inl ⟨by kernel_rfl, ?_⟩) hHeld ?_
 rotate_left
 · intro w1 hSw; (try dsimp only at hSw); go_simp <;> with_reducible rfl
 try simp only [Act.put, OA, OB, OC]
 refine OD (i := 29) (v := ?_) rfl (by kernel_rfl) (by kernel_rfl) (by kernel_rfl) (fun _ _ _ h => h) (Or.inl ⟨by kernel_rfl, ?_⟩) hHeld ?_
 rotate_left
 · intro w1 hSw; (try dsimp only at hSw); go_simp <;> with_reducible rfl
 try simp only [Act.put, OA, OB, OC]
 refine OD (i := 30) (v := ?_) rfl (by kernel_rfl) (by kernel_rfl) (by kernel_rfl) (fun _ _ _ h => h) (Or.inl ⟨by kernel_rfl, ?_⟩) hHeld ?_
 rotate_left
 · intro w1 hSw; (try dsimp only at hSw); go_simp <;> with_reducible rfl
 try simp only [Act.put, OA, OB, OC]
 refine OD (i := 31) (v := ?_) rfl (by kernel_rfl) (by kernel_rfl) (by kernel_rfl) (fun _ _ _ h => h) (Or.inl ⟨by kernel_rfl, ?_⟩) hHeld ?_
 rotate_left
 · intro w1 hSw; (try dsimp only at hSw); go_simp <;> with_reducible rfl
 try simp only [Act.put, OA, OB, OC]
 refine OD (i := 32) (v := ?_) rfl (by kernel_rfl) (by kernel_rfl) (by kernel_rfl) (fun _ _ _ h => h) (Or.inl ⟨by kernel_rfl, ?_⟩) hHeld ?_
 rotate_left
 · intro w1 hSw; (try dsimp only at hSw); go_simp <;> with_reducible rfl
 try simp only [Act.put, OA, OB, OC]
 refine OD (i := 33) (v := ?_) rfl (by kernel_rfl) (by kernel_rfl) (by kernel_rfl) (fun _ _ _ h => h) (Or.inl ⟨by kernel_rfl, ?_⟩) hHeld ?_
 rotate_left
 · intro w1 hSw; (try dsimp only at hSw); go_simp <;> with_reducible rfl
 try simp only [Act.put, OA, OB, OC]
 refine OD (i := 34) (v := ?_) rfl (by kernel_rfl) (by kernel_rfl) (by kernel_rfl) (fun _ _ _ h => h) (Or.inl ⟨by kernel_rfl, ?_⟩) hHeld ?_
 rotate_left
 · intro w1 hSw; (try dsimp only at hSw); go_simp <;> with_reducible rfl
 try simp only [Act.put, OA, OB, OC]
 refine OD (i := 35) (v := ?_) rfl (by kernel_rfl) (by kernel_rfl) (by kernel_rfl) (fun _ _ _ h => h) (Or.inl ⟨by kernel_rfl, ?_⟩) hHeld ?_
 rotate_left
 · intro w1 hSw; (try dsimp only at hSw); go_simp <;> with_reducible rfl
 try simp only [Act.put, OA, OB, OC]
 refine OG (rs := [1]) (by kernel_rfl) (by simp) ?_
 refine OE rfl (fun K hK => ?_) OF
 go_simp
 go_at_call 45
 refine (checkRecording_any _ _ _ _ _ _ _ _ xs ms _ (HA1.out _ (GB.out.trans (hHeld.2.2.2.2.2.2.2.2.mono GB.out.size))) (HB1.out _ (GB.out.trans (hHeld.2.2.2.2.2.2.2.2.mono GB.out.size))) rfl rfl (by omega)).mono ?_
 rintro e w1 ⟨rfl, hb1⟩
 rw [H1.out]
 try go_simp
 refine hK.out _ _ ?_ (fun hHeld => ?_)
 · exact ⟨keepC hHeld.1 hb1, keepC hHeld.2.1 hb1, keepC hHeld.2.2.1 hb1, keepC hHeld.2.2.2.1 hb1, keepC hHeld.2.2.2.2.1 hb1, keepC hHeld.2.2.2.2.2.1 hb1, keepC hHeld.2.2.2.2.2.2.1 hb1, keepC hHeld.2.2.2.2.2.2.2.1 hb1, hHeld.2.2.2.2.2.2.2.2.trans ((hb1).mono hHeld.2.2.2.2.2.2.2.2.size)⟩
 clear hK K
 try simp only [Act.put, OA, OB, OC]
 refine OG (rs := [3]) (by kernel_rfl) (by simp) ?_
 refine OE rfl (fun K hK => ?_) OF
 go_simp
 go_at_call 45
 refine (checkRecording_any _ _ _ _ _ _ _ _ ys ns _ (HA2.out _ (GB.out.trans (hHeld.2.2.2.2.2.2.2.2.mono GB.out.size))) (HB2.out _ (GB.out.trans (hHeld.2.2.2.2.2.2.2.2.mono GB.out.size))) rfl rfl (by omega)).mono ?_
 rintro e w1 ⟨rfl, hb1⟩
 rw [H2.out]
 try go_simp
 refine hK.out _ _ ?_ (fun hHeld => ?_)
 · exact ⟨keepC hHeld.1 hb1, keepC hHeld.2.1 hb1, keepC hHeld.2.2.1 hb1, keepC hHeld.2.2.2.1 hb1, keepC hHeld.2.2.2.2.1 hb1, keepC hHeld.2.2.2.2.2.1 hb1, keepC hHeld.2.2.2.2.2.2.1 hb1, keepC hHeld.2.2.2.2.2.2.2.1 hb1, hHeld.2.2.2.2.2.2.2.2.trans ((hb1).mono hHeld.2.2.2.2.2.2.2.2.size)⟩
 clear hK K
 try simp only [Act.put, OA, OB, OC]
 refine OG (rs := [9]) (by kernel_rfl) (by simp) ?_
 refine OE rfl (fun K hK => ?_) OF
 go_simp
 go_at_call 96
 refine (failed_any _ _ _).mono ?_
 rintro e w1 ⟨rfl, rfl⟩
 try go_simp
 refine hK.out _ _ ?_ (fun hHeld => ?_)
 · exact hHeld
 clear hK K
 try simp only [Act.put, OA, OB, OC]
 refine OG (rs := [16]) (by kernel_rfl) (by simp) ?_
 refine OE rfl (fun K hK => ?_) OF
 go_simp
 go_at_call 97
 refine (tick_any _ _ _ _ _ _ _ _ _ _).mono ?_
 rintro e w1 ⟨rfl, hb1⟩
 try go_simp
 refine hK.out _ _ ?_ (fun hHeld => ?_)
 · exact ⟨keepC hHeld.1 hb1, keepC hHeld.2.1 hb1, keepC hHeld.2.2.1 hb1, keepC hHeld.2.2.2.1 hb1, keepC hHeld.2.2.2.2.1 hb1, keepC hHeld.2.2.2.2.2.1 hb1, keepC hHeld.2.2.2.2.2.2.1 hb1, keepC hHeld.2.2.2.2.2.2.2.1 hb1, hHeld.2.2.2.2.2.2.2.2.trans ((hb1).mono hHeld.2.2.2.2.2.2.2.2.size)⟩
 clear hK K
 try simp only [Act.put, OA, OB, OC]
 refine OD (i := 17) (v := ?_) rfl (by kernel_rfl) (by kernel_rfl) (by kernel_rfl) (fun _ _ _ h => h) (Or.inl ⟨by kernel_rfl, ?_⟩) hHeld ?_
 rotate_left
 · intro w1 hSw; (try dsimp only at hSw); go_simp <;> with_reducible rfl
 try simp only [Act.put, OA, OB, OC]
 refine OG (rs := [18]) (by kernel_rfl) (by simp) ?_
 refine OE rfl (fun K hK => ?_) OF
 go_simp
 go_at_call 96
 refine (failed_any _ _ _).mono ?_
 rintro e w1 ⟨rfl, rfl⟩
 try go_simp
 refine hK.out _ _ ?_ (fun hHeld => ?_)
 · exact hHeld
 clear hK K
 try simp only [Act.put, OA, OB, OC]
 refine OG (rs := [27]) (by kernel_rfl) (by simp) ?_
 refine OE rfl (fun K hK => ?_) OF
 go_simp
 go_at_call 96
 refine (failed_any _ _ _).mono ?_
 rintro e w1 ⟨rfl, rfl⟩
 try go_simp
 refine hK.out _ _ ?_ (fun hHeld => ?_)
 · exact hHeld
 clear hK K
 try simp only [Act.put, OA, OB, OC]
 refine OG (rs := [36]) (by kernel_rfl) (by simp) ?_
 refine OE rfl (fun K hK => ?_) OF
 go_simp
 go_at_call 96
 refine (failed_any _ _ _).mono ?_
 rintro e w1 ⟨rfl, rfl⟩
 try go_simp
 refine hK.out _ _ ?_ (fun hHeld => ?_)
 · exact hHeld
 clear hK K
 try simp only [Act.put, OA, OB, OC]
 refine OG (rs := [37]) (by kernel_rfl) (by simp) ?_
 refine OE rfl (fun K hK => ?_) OF
 go_simp
 refine hK.out _ _ ?_ (fun hHeld => ?_)
 · exact ⟨keepC hHeld.1 ((Below.refl _ _).alloc (Nat.le_refl _) _), keepC hHeld.2.1 ((Below.refl _ _).alloc (Nat.le_refl _) _), keepC hHeld.2.2.1 ((Below.refl _ _).alloc (Nat.le_refl _) _), keepC hHeld.2.2.2.1 ((Below.refl _ _).alloc (Nat.le_refl _) _), keepC hHeld.2.2.2.2.1 ((Below.refl _ _).alloc (Nat.le_refl _) _), keepC hHeld.2.2.2.2.2.1 ((Below.refl _ _).alloc (Nat.le_refl _) _), keepC hHeld.2.2.2.2.2.2.1 ((Below.refl _ _).alloc (Nat.le_refl _) _), keepC hHeld.2.2.2.2.2.2.2.1 ((Below.refl _ _).alloc (Nat.le_refl _) _), hHeld.2.2.2.2.2.2.2.2.trans ((((Below.refl _ _).alloc (Nat.le_refl _) _)).mono hHeld.2.2.2.2.2.2.2.2.size)⟩
 clear hK K
 try simp only [Act.put, OA, OB, OC]
 refine OG (rs := [38]) (by kernel_rfl) (by simp) ?_
 refine OE rfl (fun K hK => ?_) OF
 go_simp
 go_at_call 76
 refine (firstV_any _ _ _ [0, 0, whenI false 2, whenI false 11, whenI false 5, whenI false 5] _ ?_ rfl (by simp)).mono ?_
 · exact Rd.new _ _ _ _ (by simp)
 rintro e w1 ⟨rfl, rfl⟩
 try go_simp
 refine hK.out _ _ ?_ (fun hHeld => ?_)
 · exact hHeld
 clear hK K
 try simp only [Act.put, OA, OB, OC]
 refine OD (i := 39) (oi := { dst := some 6, op := Op.assign (Operand.tmp 48), type := 28, pos := _, after := #[{ on := 38, ground := Ground.data }, { on := 38, ground := Ground.chain }, { on := 0, ground := Ground.phase }, { on := 1, ground := Ground.phase }, { on := 2, ground := Ground.phase }, { on := 3, ground := Ground.phase }, { on := 4, ground := Ground.phase }, { on := 5, ground := Ground.phase }, { on := 6, ground := Ground.phase }, { on := 7, ground := Ground.phase }, { on := 8, ground := Ground.phase }, { on := 9, ground := Ground.phase }, { on := 10, ground := Ground.phase }, { on := 11, ground := Ground.phase }, { on := 12, ground := Ground.phase }, { on := 13, ground := Ground.phase }, { on := 14, ground := Ground.phase }, { on := 15, ground := Ground.phase }, { on := 16, ground := Ground.phase }, { on := 17, ground := Ground.phase }, { on := 18, ground := Ground.phase }, { on := 19, ground := Ground.phase }, { on := 20, ground := Ground.phase }, { on := 21, ground := Ground.phase }, { on := 22, ground := Ground.phase }, { on := 23, ground := Ground.phase }, { on := 24, ground := Ground.phase }, { on := 25, ground := Ground.phase }, { on := 26, ground := Ground.phase }, { on := 27, ground := Ground.phase }, { on := 28, ground := Ground.phase }, { on := 29, ground := Ground.phase }, { on := 30, ground := Ground.phase }, { on := 31, ground := Ground.phase }, { on := 32, ground := Ground.phase }, { on := 33, ground := Ground.phase }, { on := 34, ground := Ground.phase }, { on := 35, ground := Ground.phase }, { on := 36, ground := Ground.phase }, { on := 37, ground := Ground.phase }, { on := 38, ground := Ground.phase }], guard := none }) (v := ?_) rfl (by kernel_rfl) (by kernel_rfl) (by kernel_rfl) (fun _ _ _ h => h) (Or.inl ⟨by kernel_rfl, ?_⟩) hHeld ?_
 rotate_left
 · intro w1 hSw; (try dsimp only at hSw); go_simp <;> with_reducible rfl
 try simp only [Act.put, OA, OB, OC]
 refine wpAnyH_done (by kernel_rfl) ?_ _
 have I0 := Lib.hid (G0.out.old hHeld.2.2.2.2.2.2.2.2); have I1 := Lib.hid (G1.out.old hHeld.2.2.2.2.2.2.2.2); have I2 := Lib.hid (G2.out.old hHeld.2.2.2.2.2.2.2.2)
 have IB := Lib.hid (GB.out.trans (hHeld.2.2.2.2.2.2.2.2.mono GB.out.size))
 clear hHeld G0 G1 G2 GB S2
 go_upto_region 4 with fail
 refine genD (w0 := w) w.heap.size (w.heap.size + 1) (w.heap.size + 1 + 1) _ _ _ _ _ _ I0.out I1.out I2.out IB.out ?_
 clear I0 I1 I2 IB
 intro W2 R0 R1 R2 RB
 have J0 := Lib.hid R0; have J1 := Lib.hid R1; have J2 := Lib.hid R2; have JB := Lib.hid RB
 have q2 := R0.cell 2
 have r2 := R1.cell 2
 have s2 := R2.lt
 have S2 := Lib.hid s2
 simp only [List.getElem?_cons_succ, List.getElem?_cons_zero] at q2 r2
 have hmk : ∀ W : World, (Instr.makeSlice 22 (.int .i64 ((xs.length : Int) + (ys.length : Int))) (.int .i64 ((xs.length : Int) + (ys.length : Int)))).run Tryz.prog W = .ok (.slice (some ⟨W.heap.size, 0, none⟩) (xs.length + ys.length) (xs.length + ys.length)) (W.alloc (.cells (List.replicate (xs.length + ys.length) (.float .f32 0)).toArray 56)) := fun W => by
  have h := make1 (P := Tryz.prog) 22 56 (.float .f32 0) 4 Tryz.underlying22 info37 rfl (xs.length + ys.length) (by omega) (by omega) W
  rw [Int.natCast_add] at h
  exact h
 clear R0 R1 R2 RB s2
 go_upto_region 5 with fail
 have b3 : Below W2.heap.size W2 (W2.alloc (.cells (List.replicate (xs.length + ys.length) (.float .f32 0)).toArray 56)) := (Below.refl _ _).alloc (Nat.le_refl _) _
 have r3 := Row.new W2 56 (List.replicate (xs.length + ys.length) (.float .f32 0))
 refine genF W2.heap.size 56 (List.replicate (xs.length + ys.length) (.float .f32 0)) r3 b3 ?_
 clear r3 b3 q2 r2
 intro W3 r3 b3
 have q2 := (J0.out.old b3).cell 2
 simp only [List.getElem?_cons_succ, List.getElem?_cons_zero] at q2
 have hfx : (flts xs).length = xs.length := by simp [flts]
 have hfy : (flts ys).length = ys.length := by simp [flts]
 have Gn : Hid ((flts xs).length = Nat.min xs.length (xs.length + ys.length)) := by unfold Hid; rw [hfx]; exact (Nat.min_eq_left (by omega)).symm
 have Gf : Hid (0 + (flts xs).length ≤ (List.replicate (xs.length + ys.length) (Value.float .f32 0)).length) := by unfold Hid; rw [hfx, List.length_replicate]; omega
 have HR3 := Lib.hid r3; have HB3 := Lib.hid b3
 have HAx := Lib.hid (HA1.out W3 (JB.out.trans (b3.mono JB.out.size)))
 clear r3 b3
 go_upto_region 6 with (refine wpList_copy_splice (o := ⟨some 64, _, _, _, _, _⟩) rfl (.tmp 61) (.tmp 63) 22 22 rfl 56 Tryz.underlying22 (by kernel_rfl) (some ⟨W2.heap.size, 0, none⟩) A1 (xs.length + ys.length) (xs.length + ys.length) xs.length c1 (by simp [Act.eval, Act.put]) (by simp [Act.eval, Act.put]) W2.heap.size 0 (List.replicate (xs.length + ys.length) (.float .f32 0)) 56 HR3.out (flts xs) Gn.out (fun h => ⟨rfl, HAx.out.src h⟩) Gf.out (flts_one _) W2.heap.size W2 HB3.out (Nat.le_refl _) ?_; intro W4 g4 b4)
 have H4 : Hid (Row W4 W2.heap.size 56 (splice (List.replicate (xs.length + ys.length) (.float .f32 0)) 0 (flts xs))) := g4
 have HB4 := Lib.hid b4
 have HAy := Lib.hid (HA2.out W4.drew ((JB.out.trans (b4.mono JB.out.size)).drew))
 have Gm : Hid ((flts ys).length = Nat.min ys.length ys.length) := by unfold Hid; rw [hfy]; exact (Nat.min_self _).symm
 have Ge : Hid (xs.length + (flts ys).length ≤ (splice (List.replicate (xs.length + ys.length) (Value.float .f32 0)) 0 (flts xs)).length) := by unfold Hid; rw [length_splice _ _ _ Gf.out, List.length_replicate, hfy]; exact Nat.le_refl _
 have Gd : Hid (0 < (flts ys).length → ¬ ys.length = 0) := by unfold Hid; rw [hfy]; omega
 have hsl := fun W => slice_end (P := Tryz.prog) 22 (by kernel_rfl) (fun _ => by kernel_rfl) W2.heap.size xs.length ys.length W
 obtain ⟨off, hoff⟩ : ∃ off, off = if ys.length = 0 then 0 else xs.length := ⟨_, rfl⟩
 simp only [← hoff] at hsl
 have Ho : Hid (¬ ys.length = 0 → xs.length = off) := fun h => by rw [hoff, if_neg h]
 clear hoff
 clear g4 b4 q2 Gn Gf HR3 HB3 HAx hmk
 refine wp_region_held_drew (S := fun w' => w'.cell? ⟨w.heap.size + 1, 2, none⟩ = some (.slice A2 ys.length c2)) (by kernel_rfl) ?_ (fun hHeld => ?_)
 · exact (J1.out.old HB4.out).cell 2
 refine OD (i := 0) (v := ?_) rfl (by kernel_rfl) (by kernel_rfl) (by kernel_rfl) (fun _ _ _ h => h) (Or.inl ⟨by kernel_rfl, ?_⟩) hHeld ?_
 rotate_left
 · intro w1 hSw; (try dsimp only at hSw); go_simp <;> with_reducible rfl
 try simp only [Act.put, OA, OB, OC]
 refine OD (i := 1) (v := ?_) rfl (by kernel_rfl) (by kernel_rfl) (by kernel_rfl) (fun _ _ _ h => h) (Or.inl ⟨by kernel_rfl, ?_⟩) hHeld ?_
 rotate_left
 · intro w1 hSw; (try dsimp only at hSw); go_simp <;> with_reducible rfl
 try simp only [Act.put, OA, OB, OC]
 refine OD (i := 2) (v := ?_) rfl (by kernel_rfl) (by kernel_rfl) (by kernel_rfl) (fun _ _ _ h => h) (Or.inl ⟨by kernel_rfl, ?_⟩) hHeld ?_
 rotate_left
 · intro w1 hSw; (try dsimp only at hSw); go_simp <;> with_reducible rfl
 try simp only [Act.put, OA, OB, OC]
 refine OD (i := 3) (v := ?_) rfl (by kernel_rfl) (by kernel_rfl) (by kernel_rfl) (fun _ _ _ h => h) (Or.inl ⟨by kernel_rfl, ?_⟩) hHeld ?_
 rotate_left
 · intro w1 hSw; (try dsimp only at hSw); go_simp <;> with_reducible rfl
 try simp only [Act.put, OA, OB, OC]
 refine OD (i := 4) (v := ?_) rfl (by kernel_rfl) (by kernel_rfl) (by kernel_rfl) (fun _ _ _ h => h) (Or.inl ⟨by kernel_rfl, ?_⟩) hHeld ?_
 rotate_left
 · intro w1 hSw; (try dsimp only at hSw); go_simp <;> with_reducible rfl
 try simp only [Act.put, OA, OB, OC]
 refine OG (rs := [5]) (by kernel_rfl) (by simp) ?_
 refine OE rfl (fun K hK => ?_) OF
 refine step_copy_splice rfl (.tmp 67) (.tmp 69) 22 22 rfl 56 Tryz.underlying22 (by kernel_rfl) (some ⟨W2.heap.size, off, none⟩) A2 ys.length ys.length ys.length c2 (by simp [Act.eval, Act.put]) (by simp [Act.eval, Act.put]) W2.heap.size xs.length (splice (List.replicate (xs.length + ys.length) (.float .f32 0)) 0 (flts xs)) 56 H4.out (flts ys) Gm.out (fun h => ⟨by rw [Ho.out (Gd.out h)], HAy.out.src h⟩) Ge.out (flts_one _) W2.heap.size W2 HB4.out.drew (Nat.le_refl _) ?_
 intro W5 hg5 hb5
 refine hK.out _ _ ?_ (fun hHeld => ?_)
 · exact (J1.out.old hb5).cell 2
 clear hK K
 try simp only [Act.put, OA, OB, OC]
 refine wpAnyH_done (by kernel_rfl) ?_ _
 have g5 : Row W5 W2.heap.size 56 (flts (xs ++ ys)) := by
  have h := hg5.out
  rw [splice_zero _ _ _ _ _ hfx.symm hfy.symm] at h
  have e : flts (xs ++ ys) = flts xs ++ flts ys := by simp [flts]
  rw [e]
  exact h
 have H5 := Lib.hid g5
 have L0 := Lib.hid (J0.out.old hb5); have L1 := Lib.hid (J1.out.old hb5); have L2 := Lib.hid (J2.out.old hb5)
 have LB := Lib.hid (JB.out.trans (hb5.mono JB.out.size))
 have z5 := H5.out.lt
 have Z5 := Lib.hid z5
 clear g5 hg5 hb5 hHeld H4 HB4 HAy Gm Ge Gd hsl J0 J1 J2 JB z5
 go_upto_region 7 with fail
 refine wp_region_held_drew (S := fun w' => w'.cell? ⟨w.heap.size, 3, none⟩ = some (.slice B1 ms.length d1) ∧ w'.cell? ⟨w.heap.size + 1, 3, none⟩ = some (.slice B2 ns.length d2) ∧ Below w.heap.size w w') (by kernel_rfl) ?_ (fun hHeld => ?_)
 · exact ⟨L0.out.cell 3, L1.out.cell 3, LB.out.drew⟩
 refine OD (i := 0) (v := ?_) rfl (by kernel_rfl) (by kernel_rfl) (by kernel_rfl) (fun _ _ _ h => h) (Or.inl ⟨by kernel_rfl, ?_⟩) hHeld ?_
 rotate_left
 · intro w1 hSw; (try dsimp only at hSw); go_simp <;> with_reducible rfl
 try simp only [Act.put, OA, OB, OC]
 refine OD (i := 1) (v := ?_) rfl (by kernel_rfl) (by kernel_rfl) (by kernel_rfl) (fun _ _ _ h => h) (Or.inl ⟨by kernel_rfl, ?_⟩) hHeld ?_
 rotate_left
 · intro w1 hSw; (try dsimp only at hSw); go_simp <;> with_reducible rfl
 try simp only [Act.put, OA, OB, OC]
 refine OD (i := 3) (v := ?_) rfl (by kernel_rfl) (by kernel_rfl) (by kernel_rfl) (fun _ _ _ h => h) (Or.inl ⟨by kernel_rfl, ?_⟩) hHeld ?_
 rotate_left
 · intro w1 hSw; (try dsimp only at hSw); go_simp <;> with_reducible rfl
 try simp only [Act.put, OA, OB, OC]
 refine OD (i := 4) (v := ?_) rfl (by kernel_rfl) (by kernel_rfl) (by kernel_rfl) (fun _ _ _ h => h) (Or.inl ⟨by kernel_rfl, ?_⟩) hHeld ?_
 rotate_left
 · intro w1 hSw; (try dsimp only at hSw); go_simp <;> with_reducible rfl
 try simp only [Act.put, OA, OB, OC]
 refine OD (i := 5) (v := ?_) rfl (by kernel_rfl) (by kernel_rfl) (by kernel_rfl) (fun _ _ _ h => h) (Or.inl ⟨by kernel_rfl, ?_⟩) hHeld ?_
 rotate_left
 · intro w1 hSw; (try dsimp only at hSw); go_simp <;> with_reducible rfl
 try simp only [Act.put, OA, OB, OC]
 refine OG (rs := [2]) (by kernel_rfl) (by simp) ?_
 refine OE rfl (fun K hK => ?_) OF
 go_simp
 go_at_call 98
 refine (moved_any B1 _ _ ms _ _ (HB1.out _ hHeld.2.2) rfl (by omega)).mono ?_
 rintro e wa ⟨ga, rfl, hra, hga, hba⟩
 have hb5a : Below W5.heap.size W5 wa := (Below.refl _ W5).drew.trans hba
 try go_simp
 refine hK.out _ _ ?_ (fun hHeld => ?_)
 · exact ⟨keepC hHeld.1 hba, keepC hHeld.2.1 hba, hHeld.2.2.trans ((hba).mono hHeld.2.2.size)⟩
 clear hK K
 try simp only [Act.put, OA, OB, OC]
 refine OG (rs := [6]) (by kernel_rfl) (by simp) ?_
 refine OE rfl (fun K hK => ?_) OF
 go_simp
 go_at_call 98
 refine (moved_any B2 _ _ ns _ _ (HB2.out _ hHeld.2.2) rfl (by omega)).mono ?_
 rintro e wb ⟨gb, rfl, hrb, hgb, hbb⟩
 have hb5b : Below W5.heap.size W5 wb := hb5a.trans (hbb.mono hb5a.size)
 try go_simp
 refine hK.out _ _ ?_ (fun hHeld => ?_)
 · exact ⟨keepC hHeld.1 hbb, keepC hHeld.2.1 hbb, hHeld.2.2.trans ((hbb).mono hHeld.2.2.size)⟩
 clear hK K
 try simp only [Act.put, OA, OB, OC]
 refine OG (rs := [7]) (by kernel_rfl) (by simp) ?_
 refine OE rfl (fun K hK => ?_) OF
 have z5 := Z5.out
 have z6 := hb5a.size
 have z7 := hb5b.size
 have z8 : W5.heap.size ≤ ga := hga
 refine step_app rfl (.tmp 73) (.tmp 77) 31 rfl W2.heap.size 117 (.agg #[.int .i64 0, .string ⟨#[]⟩]) 2 24 Tryz.underlying31 info158 rfl (by decide) (.slice (some ⟨ga, 0, none⟩) ms.length ms.length) ms.length (markC (ms.map (shiftM 0))) (by simp [Act.eval, Act.put]) (row_owns (hra.old hbb) 2 ms.length W2.heap.size (by simp [markC_length]) (by unfold maxLen; omega) (by omega)) gb ns.length ns.length (markC (ns.map (shiftM xs.length))) (by simp [Act.eval, Act.put]) 117 hrb (by simp [markC_length]) (markC_one _) (by unfold maxLen; omega) (by omega) (by omega) ?_
 intro v7 W7 ho7 hg7
 refine hK.out _ _ ?_ (fun hHeld => ?_)
 · exact ⟨(L0.out.old (hb5b.grown hg7 hb5b.size (fun k hk => by cases hk; exact z8))).cell 3, (L1.out.old (hb5b.grown hg7 hb5b.size (fun k hk => by cases hk; exact z8))).cell 3, LB.out.trans ((hb5b.grown hg7 hb5b.size (fun k hk => by cases hk; exact z8)).mono LB.out.size)⟩
 clear hK K
 try simp only [Act.put, OA, OB, OC]
 refine OD (i := 8) (oi := { dst := some 9, op := Op.assign (Operand.tmp 78), type := 31, pos := _, after := #[{ on := 7, ground := Ground.data }, { on := 7, ground := Ground.chain }, { on := 0, ground := Ground.phase }, { on := 1, ground := Ground.phase }, { on := 2, ground := Ground.phase }, { on := 3, ground := Ground.phase }, { on := 4, ground := Ground.phase }, { on := 5, ground := Ground.phase }, { on := 6, ground := Ground.phase }, { on := 7, ground := Ground.phase }], guard := none }) (v := ?_) rfl (by kernel_rfl) (by kernel_rfl) (by kernel_rfl) (fun _ _ _ h => h) (Or.inl ⟨by kernel_rfl, ?_⟩) hHeld ?_
 rotate_left
 · intro w1 hSw; (try dsimp only at hSw); go_simp <;> with_reducible rfl
 try simp only [Act.put, OA, OB, OC]
 refine wpAnyH_done (by kernel_rfl) ?_ _
 have hb57 : Below W5.heap.size W5 W7 := hb5b.grown hg7 hb5b.size (fun k hk => by cases hk; have := hb5a.size; omega)
 have M0 := Lib.hid (L0.out.old hb57); have M1 := Lib.hid (L1.out.old hb57); have M2 := Lib.hid (L2.out.old hb57); have M5 := Lib.hid (H5.out.old hb57)
 have MB := Lib.hid (LB.out.trans (hb57.mono LB.out.size))
 obtain ⟨A7, c7, rfl, -⟩ := owned_slice ho7
 have HO := Lib.hid ho7
 have p0 := M0.out.cell 0
 have p1 := M0.out.cell 1
 simp only [List.getElem?_cons_succ, List.getElem?_cons_zero] at p0 p1
 clear hb57 hb5a hb5b hba hbb hra hrb hga hgb ho7 hg7 hHeld L0 L1 L2 H5 LB
 go_wp2_with (refine wpList_store_row rfl 33 _ _ rfl (w.heap.size + 1 + 1) [Value.int .i64 st, .int .i64 sp, .slice (some ⟨W2.heap.size, 0, none⟩) (xs.length + ys.length) (xs.length + ys.length), .slice A7 (ms.length + ns.length) c7].toArray rfl rfl 33 _ M2.out ?_ ?_ ?_ ?_; (kernel_rfl); (rfl); (simp [Value.oneCell']))
 have hrow : Row (W7.setRow (w.heap.size + 1 + 1) [Value.int .i64 st, .int .i64 sp, .slice (some ⟨W2.heap.size, 0, none⟩) (xs.length + ys.length) (xs.length + ys.length), .slice A7 (ms.length + ns.length) c7].toArray) (w.heap.size + 1 + 1) 33 [Value.int .i64 st, .int .i64 sp, .slice (some ⟨W2.heap.size, 0, none⟩) (xs.length + ys.length) (xs.length + ys.length), .slice A7 (ms.length + ns.length) c7] := M2.out.setRow _
 have z2 := S2.out
 refine bodyPost_ret (results_row_tmp rfl _ _ (w.heap.size + 1 + 1) 33 _ (0, 0) _ rfl hrow Tryz.underlying33 rfl (by kernel_rfl)) rfl ⟨W2.heap.size, .slice A7 (ms.length + ns.length) c7, ?_, ?_, ?_, ?_, ?_⟩
 · rfl
 · exact Row.farRow M5.out (by omega) _
 · rw [markC_app]; exact owns_far HO.out _ _ (by omega) (by omega)
 · omega
 · exact Below.setRow MB.out (by omega) _
theorem results_row1 {P : Program} {fn : Func} {p : Tmp} {ty : TypeId} (h : fn.results = #[.cell p ty]) (tmps : Array Value) (w : World) (g : Nat) (e : TypeId) (cs : Array Value) (fr : Nat × Nat) (d : TypeDesc)
 (hp : tmps.getD p undef = .pointer (some ⟨g, 0, none⟩)) (hg : w.heap[g]? = some (.cells cs e fr))
 (hu : P.underlying ty = some d) (hd : (match d with | .struct _ | .array _ _ => true | _ => false) = true) (hi : (P.info? ty).map (·.size) = some cs.size) :
 (results fn tmps).run P w = .ok (.agg cs) w := by
 have hp' : tmps[p]?.getD undef = .pointer (some ⟨g, 0, none⟩) := by simpa using hp
 simp [results, h, hp', asAddr, run_loadVar_row w g e ty cs fr d hg hu hd hi]
def tapeX : List Nat := [1065353216, 1073741824, 1077936128, 1082130432]
def tapeM : List (Int × ByteArray) := [(1, ⟨#[111, 117, 116, 101, 114]⟩), (3, ⟨#[105, 110, 110, 101, 114]⟩)]
def tapeC (w : World) : List Value := [.int .i64 100, .int .i64 10, .slice (some ⟨w.heap.size + 1, 0, none⟩) 4 4, .slice (some ⟨w.heap.size + 1 + 1, 0, none⟩) 2 2]
set_option maxRecDepth 100000 in
set_option maxHeartbeats 1000000 in
theorem tape_ok (w : World) : Calls Tryz.prog 38 #[] w fun e w' => ∃ g1 g2, e = .returned (.agg #[.int .i64 100, .int .i64 10, .slice (some ⟨g1, 0, none⟩) 4 4, .slice (some ⟨g2, 0, none⟩) 2 2]) ∧ Row w' g1 56 (flts tapeX) ∧ Row w' g2 117 (markC tapeM) ∧ w.heap.size ≤ g1 ∧ w.heap.size ≤ g2 ∧ Below w.heap.size w w' := by
 have r0 : Row (((w.alloc (.cells zero4.toArray 33)).alloc (.cells (flts tapeX).toArray 56)).alloc (.cells (markC tapeM).toArray 117)) w.heap.size 33 zero4 := ((Row.new w 33 zero4).alloc _).alloc _
 have r1 : Row (((w.alloc (.cells zero4.toArray 33)).alloc (.cells (flts tapeX).toArray 56)).alloc (.cells (markC tapeM).toArray 117)) (w.heap.size + 1) 56 (flts tapeX) := by
  have h := (Row.new (w.alloc (.cells zero4.toArray 33)) 56 (flts tapeX)).alloc (.cells (markC tapeM).toArray 117)
  rwa [World.size_alloc] at h
 have r2 : Row (((w.alloc (.cells zero4.toArray 33)).alloc (.cells (flts tapeX).toArray 56)).alloc (.cells (markC tapeM).toArray 117)) (w.heap.size + 1 + 1) 117 (markC tapeM) := by
  have h := Row.new ((w.alloc (.cells zero4.toArray 33)).alloc (.cells (flts tapeX).toArray 56)) 117 (markC tapeM)
  rwa [World.size_alloc, World.size_alloc] at h
 have rb : Below w.heap.size w (((w.alloc (.cells zero4.toArray 33)).alloc (.cells (flts tapeX).toArray 56)).alloc (.cells (markC tapeM).toArray 117)) := (((Below.refl w.heap.size w).alloc (Nat.le_refl _) _).alloc (by simp) _).alloc (by simp; omega) _
 have H0 := Lib.hid r0; have H1 := Lib.hid r1; have H2 := Lib.hid r2; have HB := Lib.hid rb
 clear r0 r1 r2 rb
 go_enter Tryz.func38, Tryz.ntmps38
 go_wp2_with (refine wpList_store_row rfl 33 _ _ rfl w.heap.size (tapeC w).toArray rfl rfl 33 _ H0.out ?_ ?_ ?_ ?_; (kernel_rfl); (rfl); (simp [tapeC, Value.oneCell']))
 refine bodyPost_ret (results_row1 rfl _ _ w.heap.size 33 (tapeC w).toArray (0, 0) _ rfl (H0.out.setRow (tapeC w)) Tryz.underlying33 rfl (by kernel_rfl)) rfl ⟨w.heap.size + 1, w.heap.size + 1 + 1, rfl, ?_, ?_, by omega, by omega, ?_⟩
 · exact Row.farRow H1.out (by omega) _
 · exact Row.farRow H2.out (by omega) _
 · exact Below.setRow HB.out (Nat.le_refl _) _
theorem fields185 : ((Tryz.prog.fieldsOf 90).toList.map fun f => (f.name, f.type, f.offset)) = [("Index", 3, 0), ("Name", 9, 1)] := by kernel_rfl
theorem neqMark (a c : Int) (b d : ByteArray) (w : World) : (binOp .neq 90 (.agg #[.int .i64 a, .string b]) (.agg #[.int .i64 c, .string d])).run Tryz.prog w = .ok (.bool (!(a == c && b.toList == d.toList))) w := by
 have i3 := Tryz.underlying3
 have i9 := Tryz.underlying9
 have e1 : ∀ (a : Int) (b : ByteArray), (part 3 #[.int .i64 a, .string b] 0).run Tryz.prog w = .ok (.int .i64 a) w := fun a b => part_int _ _ _ rfl w
 have e2 : ∀ (a : Int) (b : ByteArray), (part 9 #[.int .i64 a, .string b] 1).run Tryz.prog w = .ok (.string b) w := fun a b => by simp [part, run_underlying i9]
 have e4 := fun (a b : Int) => run_equalIn_int (P := Tryz.prog) w 9998 3 .i64 .i64 a b i3
 have e5 := fun (a b : ByteArray) => run_equalIn_string (P := Tryz.prog) w 9998 9 a b i9
 have n1 : ("Index" : String) ≠ "_" := by decide
 have n2 : ("Name" : String) ≠ "_" := by decide
 rw [run_neq_struct, run_eqStruct w 9999 _ _ _ _ (by kernel_rfl) (by kernel_rfl) fields185]
 simp only [eqTriples, if_pos n1, if_pos n2, Sem.run_bind, e1, e2, e4, e5, Result.andThen_ok, Sem.run_ite, Sem.run_pure]
 cases a == c <;> cases b.toList == d.toList <;> simp [e1, e2, e4, e5]
end Go.Proofs.YtjdniebjhilooaaGreatDoor
