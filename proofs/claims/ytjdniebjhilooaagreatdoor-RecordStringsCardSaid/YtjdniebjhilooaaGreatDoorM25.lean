import Derived.Test.YtjdniebjhilooaaGreatDoorM10
namespace Go.Proofs.YtjdniebjhilooaaGreatDoor
set_option linter.all false
open Go.RowKit Go.Fl
theorem Rd.cx {w : World} {A : Option Addr} {ps : List (Nat × Nat)} (h : Rd w A (cxs ps)) {j : Nat} (hj : j < ps.length) : ∃ b off, A = some ⟨b, off, none⟩ ∧ w.cell? ⟨b, off + j, none⟩ = some (.complex .f32 ps[j].1 ps[j].2) := by
 obtain ⟨b, off, h1, h2⟩ := Rd.at h (j := j) (by simpa [cxs] using hj)
 exact ⟨b, off, h1, by rw [h2]; simp [cxs]⟩
def finE (r i : Nat) : Int := whenI (!finB r || !finB i) 1
def stpE (r i : Nat) : Int := whenI (!stepB r 65536 || !stepB i 65536) 3
set_option maxHeartbeats 400000 in
theorem panel1_any (r i : Nat) (w : World) : Calls Tryz.prog 131 #[.complex .f32 r i] w fun e w' => e = .returned (.int .i64 (finE r i)) ∧ Below w.heap.size w w' := by
 cases hr : finB r
 all_goals
  have Hr := Lib.hid hr; clear hr
  go_enter Tryz.func131, Tryz.ntmps131
  go_wp2_with (first | (go_at_call 132; refine (isFinite_any _ _).mono ?_; rintro e w' ⟨rfl, n, rfl⟩; try rw [Hr.out]) | (go_at_call 96; refine (failed_any _ _ _).mono ?_; rintro e w' ⟨rfl, rfl⟩))
  all_goals go_ret
  all_goals exact ⟨ret_int (by simp [finE, Hr.out]), by repeat (first | exact Below.refl _ _ | refine below_drewN ?_ _ | refine Below.drew ?_ | refine Below.alloc ?_ (by simp) _)⟩
set_option maxHeartbeats 400000 in
theorem panel2_any (r i : Nat) (w : World) : Calls Tryz.prog 133 #[.complex .f32 r i] w fun e w' => e = .returned (.int .i64 (stpE r i)) ∧ Below w.heap.size w w' := by
 cases hr : stepB r 65536
 all_goals
  have Hr := Lib.hid hr; clear hr
  go_enter Tryz.func133, Tryz.ntmps133
  go_wp2_with (first | (go_at_call 134; refine (isStepped_panel _ _).mono ?_; rintro e w' ⟨rfl, rfl⟩; try rw [Hr.out]) | (go_at_call 96; refine (failed_any _ _ _).mono ?_; rintro e w' ⟨rfl, rfl⟩))
  all_goals go_ret
  all_goals exact ⟨ret_int (by simp [stpE, Hr.out]), by repeat (first | exact Below.refl _ _ | refine below_drewN ?_ _ | refine Below.drew ?_ | refine Below.alloc ?_ (by simp) _)⟩
set_option maxRecDepth 100000 in
set_option maxHeartbeats 1000000 in
theorem mappedCx1_any (A : Option Addr) (n c : Nat) (ps : List (Nat × Nat)) (w : World) (hA : Rd w A (cxs ps)) (hn : n = ps.length) (hm : ps.length ≤ 4096) :
 Calls Tryz.prog 130 #[.slice A n c, .func (.func 131) #[] #[]] w fun e w' => ∃ g, e = .returned (.slice (some ⟨g, 0, none⟩) n n) ∧ Row w' g 28 (ints (ps.map fun p => finE p.1 p.2)) ∧ w.heap.size ≤ g ∧ Below w.heap.size w w' := by
 subst hn
 have hmk := fun W : World => make1 (P := Tryz.prog) 213 28 (.int .i64 0) 8 Tryz.underlying213 info27 rfl ps.length (by omega) (by omega) W
 obtain ⟨zs, hzs⟩ : ∃ zs, zs = ps.map fun p => finE p.1 p.2 := ⟨_, rfl⟩
 have hzl : zs.length = ps.length := by rw [hzs]; simp
 have HZ := Lib.hid hzs
 rw [← hzs]
 clear hzs
 go_enter Tryz.func130, Tryz.ntmps130
 go_wp2
 go_loopw [13] (fun i wr => ∃ k : Nat, k ≤ ps.length ∧ i = .int .i64 k ∧ Row wr w.heap.size 28 (ints (zs.take k) ++ List.replicate (ps.length - k) (.int .i64 0)) ∧ Below w.heap.size w wr) (fun i _ => ps.length - (intOf i).toNat)
 case atStart => exact ⟨0, Nat.zero_le _, rfl, by have := Row.new w 28 (List.replicate ps.length (.int .i64 0)); simpa [ints] using this, (Below.refl _ _).alloc (Nat.le_refl _) _⟩
 case round =>
  obtain ⟨k, hk, rfl, hrow, hb⟩ := hrel
  by_cases hlt : k < ps.length
  · obtain ⟨b, off, rfl, hc⟩ := Rd.cx (hA.below hb) hlt
    have hset := Lib.hid (part_set zs ps.length k (by omega) hzl.symm)
    have hfk : Hid (zs[k]'(by omega) = finE ps[k].1 ps[k].2) := by unfold Hid; simp [HZ.out]
    have Hrow := Lib.hid hrow
    have Hb := Lib.hid hb
    clear hrow hb
    go_wp2_with fail
    refine (panel1_any _ _ _).mono ?_
    rintro e w1 ⟨rfl, hb1⟩
    have Hrow1 := Lib.hid (Hrow.out.old hb1)
    have hc1 : w1.cell? ⟨w.heap.size, k, none⟩ = some (.int .i64 0) := by
     rw [Hrow1.out.cell]
     exact mid_get _ _ _ _ (by simp [ints]; omega) hlt
    have hf1 := Hrow1.out.free k
    have Hb1 := Lib.hid (Hb.out.trans (hb1.mono Hb.out.size))
    clear hb1
    go_wp2
    go_roundw
    case rel => exact ⟨k + 1, by omega, by go_num, by rw [← hset.out, hfk.out]; exact Hrow1.out.set k _, Hb1.out.setCell (by simp) _⟩
    case measure => simp [intOf]; omega
  · obtain rfl : k = ps.length := by omega
    go_wp2
    go_ret
    exact ⟨_, rfl, by rw [Nat.sub_self, List.replicate_zero, List.append_nil, List.take_of_length_le (by omega)] at hrow; exact hrow, Nat.le_refl _, hb⟩
set_option maxRecDepth 100000 in
set_option maxHeartbeats 1000000 in
theorem mappedCx2_any (A : Option Addr) (n c : Nat) (ps : List (Nat × Nat)) (w : World) (hA : Rd w A (cxs ps)) (hn : n = ps.length) (hm : ps.length ≤ 4096) :
 Calls Tryz.prog 130 #[.slice A n c, .func (.func 133) #[] #[]] w fun e w' => ∃ g, e = .returned (.slice (some ⟨g, 0, none⟩) n n) ∧ Row w' g 28 (ints (ps.map fun p => stpE p.1 p.2)) ∧ w.heap.size ≤ g ∧ Below w.heap.size w w' := by
 subst hn
 have hmk := fun W : World => make1 (P := Tryz.prog) 213 28 (.int .i64 0) 8 Tryz.underlying213 info27 rfl ps.length (by omega) (by omega) W
 obtain ⟨zs, hzs⟩ : ∃ zs, zs = ps.map fun p => stpE p.1 p.2 := ⟨_, rfl⟩
 have hzl : zs.length = ps.length := by rw [hzs]; simp
 have HZ := Lib.hid hzs
 rw [← hzs]
 clear hzs
 go_enter Tryz.func130, Tryz.ntmps130
 go_wp2
 go_loopw [13] (fun i wr => ∃ k : Nat, k ≤ ps.length ∧ i = .int .i64 k ∧ Row wr w.heap.size 28 (ints (zs.take k) ++ List.replicate (ps.length - k) (.int .i64 0)) ∧ Below w.heap.size w wr) (fun i _ => ps.length - (intOf i).toNat)
 case atStart => exact ⟨0, Nat.zero_le _, rfl, by have := Row.new w 28 (List.replicate ps.length (.int .i64 0)); simpa [ints] using this, (Below.refl _ _).alloc (Nat.le_refl _) _⟩
 case round =>
  obtain ⟨k, hk, rfl, hrow, hb⟩ := hrel
  by_cases hlt : k < ps.length
  · obtain ⟨b, off, rfl, hc⟩ := Rd.cx (hA.below hb) hlt
    have hset := Lib.hid (part_set zs ps.length k (by omega) hzl.symm)
    have hfk : Hid (zs[k]'(by omega) = stpE ps[k].1 ps[k].2) := by unfold Hid; simp [HZ.out]
    have Hrow := Lib.hid hrow
    have Hb := Lib.hid hb
    clear hrow hb
    go_wp2_with fail
    refine (panel2_any _ _ _).mono ?_
    rintro e w1 ⟨rfl, hb1⟩
    have Hrow1 := Lib.hid (Hrow.out.old hb1)
    have hc1 : w1.cell? ⟨w.heap.size, k, none⟩ = some (.int .i64 0) := by
     rw [Hrow1.out.cell]
     exact mid_get _ _ _ _ (by simp [ints]; omega) hlt
    have hf1 := Hrow1.out.free k
    have Hb1 := Lib.hid (Hb.out.trans (hb1.mono Hb.out.size))
    clear hb1
    go_wp2
    go_roundw
    case rel => exact ⟨k + 1, by omega, by go_num, by rw [← hset.out, hfk.out]; exact Hrow1.out.set k _, Hb1.out.setCell (by simp) _⟩
    case measure => simp [intOf]; omega
  · obtain rfl : k = ps.length := by omega
    go_wp2
    go_ret
    exact ⟨_, rfl, by rw [Nat.sub_self, List.replicate_zero, List.append_nil, List.take_of_length_le (by omega)] at hrow; exact hrow, Nat.le_refl _, hb⟩
def okCx (ps : List (Nat × Nat)) : Prop := ∀ p ∈ ps, ∃ a b : Int, S p.1 a ∧ S p.2 b ∧ a.natAbs ≤ 65536 ∧ b.natAbs ≤ 65536
theorem fin_of {x : Nat} {a : Int} (h : S x a) : finB x = true := by
 unfold finB; rw [V32_of h]; rfl
theorem stp_of {x : Nat} {a : Int} {M : Nat} (h : S x a) (hb : a.natAbs ≤ M) : stepB x M = true := by
 unfold stepB
 rw [V32_of h]
 have h1 : (a * (2 ^ 145 : Nat)).natAbs ≤ M * 2 ^ 145 := by
  rw [natAbs_mul_pow]; exact Nat.mul_le_mul_right _ hb
 simp only [cutI_mul, decide_true, Bool.and_true, decide_eq_true_eq]
 exact h1
theorem firstI_zero {zs : List Int} (h : ∀ z ∈ zs, z = 0) : firstI zs = 0 := by
 induction zs with
 | nil => rfl
 | cons z zs ih => rw [firstI, if_pos (h z (by simp))]; exact ih fun y hy => h y (by simp [hy])
theorem okCx_fin {ps : List (Nat × Nat)} (h : okCx ps) : firstI (ps.map fun p => finE p.1 p.2) = 0 := firstI_zero (by
 intro z hz
 simp only [List.mem_map] at hz
 obtain ⟨p, hp, rfl⟩ := hz
 obtain ⟨a, b, h1, h2, _, _⟩ := h p hp
 unfold finE; rw [fin_of h1, fin_of h2]; rfl)
theorem okCx_stp {ps : List (Nat × Nat)} (h : okCx ps) : firstI (ps.map fun p => stpE p.1 p.2) = 0 := firstI_zero (by
 intro z hz
 simp only [List.mem_map] at hz
 obtain ⟨p, hp, rfl⟩ := hz
 obtain ⟨a, b, h1, h2, h3, h4⟩ := h p hp
 unfold stpE; rw [stp_of h1 h3, stp_of h2 h4]; rfl)
set_option maxRecDepth 100000 in
set_option maxHeartbeats 1000000 in
theorem checkPanel_ok (r0 i0 r1 i1 r2 i2 r3 i3 : Nat) (w : World) (h : okCx [(r0, i0), (r1, i1), (r2, i2), (r3, i3)]) :
 Calls Tryz.prog 95 #[.agg #[.complex .f32 r0 i0, .complex .f32 r1 i1, .complex .f32 r2 i2, .complex .f32 r3 i3]] w fun e w' => e = .returned (.int .i64 0) ∧ Below w.heap.size w w' := by
 have H := Lib.hid h
 clear h
 have H1 := Lib.hid (okCx_fin H.out)
 have H2 := Lib.hid (okCx_stp H.out)
 go_enter Tryz.func95, Tryz.ntmps95
 have hr0 : Row (w.alloc (.cells #[.complex .f32 r0 i0, .complex .f32 r1 i1, .complex .f32 r2 i2, .complex .f32 r3 i3] 96)) w.heap.size 96 (cxs [(r0, i0), (r1, i1), (r2, i2), (r3, i3)]) := Row.new w 96 (cxs [(r0, i0), (r1, i1), (r2, i2), (r3, i3)])
 have Hr0 := Lib.hid hr0
 clear hr0
 go_wp2_with fail
 refine (mappedCx1_any _ _ _ [(r0, i0), (r1, i1), (r2, i2), (r3, i3)] _ (Rd.row Hr0.out) rfl (by simp)).mono ?_
 rintro e w1 ⟨g1, rfl, hrow1, hg1, hb1⟩
 have Hr1 := Lib.hid (Hr0.out.old hb1)
 have Hrow1 := Lib.hid hrow1
 have Hb1 := Lib.hid hb1
 clear hrow1 hb1
 go_wp2_with fail
 refine (mappedCx2_any _ _ _ [(r0, i0), (r1, i1), (r2, i2), (r3, i3)] _ (Rd.row Hr1.out) rfl (by simp)).mono ?_
 rintro e w2 ⟨g2, rfl, hrow2, hg2, hb2⟩
 have Hq1 := Lib.hid (Rd.row (Hrow1.out.old hb2))
 have Hq2 := Lib.hid (Rd.row hrow2)
 have Hb2 : Hid (Below w.heap.size w w2) := ((Below.refl w.heap.size w).alloc (Nat.le_refl _) _).trans ((Hb1.out.mono (by simp)).trans (hb2.mono (by have := Hb1.out.size; simp at this; omega)))
 clear hrow2 hb2
 go_wp2_with fail
 refine (firstV_any (some ⟨g1, 0, none⟩) _ _ (List.map (fun p => finE p.1 p.2) [(r0, i0), (r1, i1), (r2, i2), (r3, i3)]) _ Hq1.out rfl (by simp)).mono ?_
 rintro e w' ⟨rfl, rfl⟩
 rw [H1.out]
 go_wp2_with fail
 refine (firstV_any (some ⟨g2, 0, none⟩) _ _ (List.map (fun p => stpE p.1 p.2) [(r0, i0), (r1, i1), (r2, i2), (r3, i3)]) _ Hq2.out rfl (by simp)).mono ?_
 rintro e w' ⟨rfl, rfl⟩
 rw [H2.out]
 go_wp2_with fail
 refine (firstV_any _ _ _ [0, 0] _ (Rd.new _ _ _ _ rfl) rfl (by simp)).mono ?_
 rintro e w' ⟨rfl, rfl⟩
 go_wp2
 go_ret
 exact ⟨rfl, Below.alloc Hb2.out (by have := Hb2.out.size; omega) _⟩
def unP (a : List Int) (n : Nat) : Nat → Int × Int
 | 0 => (0, 0)
 | k + 1 => ((unP a n k).1 + ((fourP a k 4).1 * powR (3 * k * n) - (fourP a k 4).2 * powI (3 * k * n)), (unP a n k).2 + ((fourP a k 4).1 * powI (3 * k * n) + (fourP a k 4).2 * powR (3 * k * n)))
theorem unP_bd (a : List Int) (n k : Nat) (ha : ∀ j, (a.getD j 0).natAbs ≤ 16384) : (unP a n k).1.natAbs ≤ 131072 * k ∧ (unP a n k).2.natAbs ≤ 131072 * k := by
 induction k with
 | zero => simp [unP]
 | succ k ih =>
   have hb := fourP_bd a k 4 ha
   have h1 := mul_small (M := 65536) (by omega) (p := powR (3 * k * n)) (powR_or _) (x := (fourP a k 4).1)
   have h2 := mul_small (M := 65536) (by omega) (p := powI (3 * k * n)) (powI_or _) (x := (fourP a k 4).2)
   have h3 := mul_small (M := 65536) (by omega) (p := powI (3 * k * n)) (powI_or _) (x := (fourP a k 4).1)
   have h4 := mul_small (M := 65536) (by omega) (p := powR (3 * k * n)) (powR_or _) (x := (fourP a k 4).2)
   simp only [unP]
   omega
theorem unP_all (a : List Int) (n : Nat) (hn : n < 4) : (unP a n 4).1 = 4 * a.getD n 0 := by
 rcases (show n = 0 ∨ n = 1 ∨ n = 2 ∨ n = 3 by omega) with rfl | rfl | rfl | rfl
 all_goals
  simp [unP, fourP, powR, powI]
  omega
theorem index_panel (r0 i0 r1 i1 r2 i2 r3 i3 : Nat) (k r i : Nat) (hk : k < 4) (hx : [(r0, i0), (r1, i1), (r2, i2), (r3, i3)][k]? = some (r, i)) (w : World) :
 (Instr.index 96 (.agg #[.complex .f32 r0 i0, .complex .f32 r1 i1, .complex .f32 r2 i2, .complex .f32 r3 i3]) (.int .i64 (k : Int))).run Tryz.prog w = .ok (.complex .f32 r i) w := by
 rcases (show k = 0 ∨ k = 1 ∨ k = 2 ∨ k = 3 by omega) with rfl | rfl | rfl | rfl
 all_goals (simp at hx; obtain ⟨rfl, rfl⟩ := hx; kernel_rfl)
theorem unfour_run (a : List Int) (n k r i sr si z : Nat) (hz : z = 3 * k * n) (ha : ∀ j, (a.getD j 0).natAbs ≤ 16384) (hk : k < 4) (hr : S r (fourP a k 4).1) (hi : S i (fourP a k 4).2) (h1 : S sr (unP a n k).1) (h2 : S si (unP a n k).2) :
 ∃ r1 i1 r2 i2, (∀ w, (binOp .mul 95 (.complex .f32 r i) (.complex .f32 (pb (powR z)) (pb (powI z)))).run Tryz.prog w = .ok (.complex .f32 r1 i1) w) ∧
   (∀ w, (binOp .add 95 (.complex .f32 sr si) (.complex .f32 r1 i1)).run Tryz.prog w = .ok (.complex .f32 r2 i2) w) ∧ S r2 (unP a n (k + 1)).1 ∧ S i2 (unP a n (k + 1)).2 := by
 subst hz
 have p1 := powR_or (3 * k * n)
 have p2 := powI_or (3 * k * n)
 have hb := fourP_bd a k 4 ha
 have b1 := mul_small (M := 65536) (by omega) p1 (x := (fourP a k 4).1)
 have b2 := mul_small (M := 65536) (by omega) p2 (x := (fourP a k 4).2)
 have b3 := mul_small (M := 65536) (by omega) p2 (x := (fourP a k 4).1)
 have b4 := mul_small (M := 65536) (by omega) p1 (x := (fourP a k 4).2)
 obtain ⟨r1, i1, s1, s2, hm⟩ := cmul (P := Tryz.prog) 95 hr hi (pb_spec _ p1) (pb_spec _ p2) (by omega) (by omega) (by omega) (by omega)
 have bd := unP_bd a n (k + 1) ha
 obtain ⟨r2, i2, t1, t2, hs⟩ := cadd (P := Tryz.prog) 95 h1 h2 s1 s2 (by have := bd.1; simp only [unP] at this; omega) (by have := bd.2; simp only [unP] at this; omega)
 exact ⟨r1, i1, r2, i2, hm, hs, t1, t2⟩
def UnQ (a : List Int) (n : Nat) (ys : List Nat) : Prop := ys.length = 4 ∧ ∀ j (h : j < ys.length), S ys[j] (if j < n then a.getD j 0 else 0)
theorem UnQ.start (a : List Int) : UnQ a 0 [0, 0, 0, 0] := by
 refine ⟨rfl, fun j h => ?_⟩
 have h4 : j < 4 := h
 have : [0, 0, 0, 0][j] = 0 := by
  rcases (show j = 0 ∨ j = 1 ∨ j = 2 ∨ j = 3 by omega) with rfl | rfl | rfl | rfl <;> rfl
 rw [this]; simpa using S.zero
theorem UnQ.step {a : List Int} {n : Nat} {ys : List Nat} (h : UnQ a n ys) {y : Nat} (hy : S y (a.getD n 0)) : UnQ a (n + 1) (ys.set n y) := by
 refine ⟨by simpa using h.1, fun j hj => ?_⟩
 rw [List.getElem_set]
 by_cases hjn : n = j
 · subst hjn; simpa using hy
 · rw [if_neg hjn]
   have e : (j < n + 1) = (j < n) := by apply propext; omega
   simp only [e]
   exact h.2 j (by simpa using hj)
theorem flts_set (ys : List Nat) (n y : Nat) : (flts ys).set n (.float .f32 y) = flts (ys.set n y) := by simp [flts, List.map_set]
def cEq : Value → Value → Bool
 | .complex _ a b, .complex _ c d => (FloatKind.f32.format.order a c == some .eq) && (FloatKind.f32.format.order b d == some .eq)
 | _, _ => false
theorem isAgg146 (w : World) : (isAgg 95).run Tryz.prog w = .ok false w := by kernel_rfl
theorem info146 : (Tryz.prog.info? 95).map (fun i => (i.zero, i.size, i.bytes)) = some (some (.complex .f32 0 0), 1, 8) := by kernel_rfl
theorem all2_cEq : ∀ (ps qs : List (Nat × Nat)), ps.length = qs.length → (∀ j (h : j < ps.length) (h2 : j < qs.length), (∃ n m, S ps[j].1 n ∧ S qs[j].1 n ∧ S ps[j].2 m ∧ S qs[j].2 m)) → all2 cEq (cxs ps) (cxs qs) = true
 | [], [], _, _ => rfl
 | p :: ps, q :: qs, hl, h => by
   have ih := all2_cEq ps qs (by simpa using hl) (fun j h1 h2 => h (j + 1) (by simpa using h1) (by simpa using h2))
   obtain ⟨n, m, h1, h2, h3, h4⟩ := h 0 (by simp) (by simp)
   simp only [List.getElem_cons_zero] at h1 h2 h3 h4
   simp only [cxs, List.map_cons, all2, cEq] at ih ⊢
   rw [ih]
   have e1 : (FloatKind.f32.format.order p.1 q.1 == some .eq) = true := (order_eq_iff h1 h2).trans (by simp)
   have e2 : (FloatKind.f32.format.order p.2 q.2 == some .eq) = true := (order_eq_iff h3 h4).trans (by simp)
   rw [e1, e2]; rfl
theorem cxs_getD (ps : List (Nat × Nat)) (i : Nat) (h : i < (cxs ps).length) : (cxs ps).getD i undef = .complex .f32 (ps.getD i (0, 0)).1 (ps.getD i (0, 0)).2 := by
 have h2 : i < ps.length := by simpa [cxs] using h
 simp [cxs, h2]
theorem neqCx (ps qs : List (Nat × Nat)) (hp : ps.length = 4) (hq : qs.length = 4) (h : all2 cEq (cxs ps) (cxs qs) = true) (w : World) :
 (binOp .neq 96 (.agg (cxs ps).toArray) (.agg (cxs qs).toArray)).run Tryz.prog w = .ok (.bool false) w := by
 obtain ⟨i, hi, _⟩ := info_parts info146
 have hE : (Op.equalIn (9998 + 2) 96 (.agg (cxs ps).toArray) (.agg (cxs qs).toArray)).run Tryz.prog w = .ok true w := by
  rw [run_eqArray w 9999 96 95 4 i cEq (cxs ps) (cxs qs) Tryz.underlying96 hi (by kernel_rfl) (part_scalar w _ isAgg146) ?_ (by simpa [cxs] using hp) (by simpa [cxs] using hq), h]
  intro j hj
  have hj2 : j < (cxs qs).length := by simp [cxs] at hj ⊢; omega
  rw [cxs_getD ps j hj, cxs_getD qs j hj2, run_equalIn_complex w 9998 _ .f32 .f32 _ _ _ _ Tryz.underlying95]
  rfl
 have h2 : (Op.equal 96 (.agg (cxs ps).toArray) (.agg (cxs qs).toArray)).run Tryz.prog w = .ok true w := hE
 simp only [binOp]
 simp [h2]
theorem quarter_run (x y : Nat) (h : Ieee.single.div x b4 = some y) (w : World) : (binOp .quo 56 (.float .f32 x) (.float .f32 1082130432)).run Tryz.prog w = .ok (.float .f32 y) w :=
 run_float_arith w .quo _ .f32 _ _ _ h
theorem sampsI_ok {ys : List Nat} {a : List Int} (hl : ys.length ≤ 4096) (h : ∀ j (hj : j < ys.length), S ys[j] (a.getD j 0)) (ha : ∀ j, (a.getD j 0).natAbs ≤ 16384) : sampsI ys = 0 := by
 unfold sampsI
 rw [if_neg (by omega)]
 refine firstI_zero ?_
 intro z hz
 simp only [List.mem_map] at hz
 obtain ⟨y, hy, rfl⟩ := hz
 obtain ⟨j, hj, rfl⟩ := List.getElem_of_mem hy
 unfold sampI gradeB
 rw [fin_of (h j hj), stp_of (h j hj) (ha j)]; rfl
theorem gen_world {p : World → Prop} {w0 w : World} (g0 g1 g2 g3 : Nat) (t s : TypeId) (us vs zs ys : List Value) (h0 : Row w g0 t us) (h1 : Row w g1 t vs) (h2 : Row w g2 s zs) (h3 : Row w g3 s ys) (hb : Below w0.heap.size w0 w)
 (h : ∀ w3, Row w3 g0 t us → Row w3 g1 t vs → Row w3 g2 s zs → Row w3 g3 s ys → Below w0.heap.size w0 w3 → p w3) : p w := h w h0 h1 h2 h3 hb
set_option maxRecDepth 100000 in
set_option maxHeartbeats 1000000 in
theorem unfour_ok (r0 i0 r1 i1 r2 i2 r3 i3 : Nat) (a : List Int) (w : World) (hw : Pw w) (ha : ∀ j, (a.getD j 0).natAbs ≤ 16384)
 (hS : ∀ j (h : j < [(r0, i0), (r1, i1), (r2, i2), (r3, i3)].length), S [(r0, i0), (r1, i1), (r2, i2), (r3, i3)][j].1 (fourP a j 4).1 ∧ S [(r0, i0), (r1, i1), (r2, i2), (r3, i3)][j].2 (fourP a j 4).2) :
 Calls Tryz.prog 34 #[.agg #[.complex .f32 r0 i0, .complex .f32 r1 i1, .complex .f32 r2 i2, .complex .f32 r3 i3]] w fun e w' => ∃ ys, e = .returned (.tuple #[.agg (flts ys).toArray, .int .i64 0]) ∧ UnQ a 4 ys ∧ Below w.heap.size w w' := by
 have hg : 0 < w.heap.size := World.block_lt_of_cell? w _ (hw.at 0 1 rfl)
 have Hg := Lib.hid hg; clear hg
 have Hw := Lib.hid hw; have Ha := Lib.hid ha; have HS := Lib.hid hS
 clear hw ha hS
 have Hok : Hid (okCx [(r0, i0), (r1, i1), (r2, i2), (r3, i3)]) := by
  intro p hp
  obtain ⟨j, hj, rfl⟩ := List.getElem_of_mem hp
  obtain ⟨h1, h2⟩ := HS.out j hj
  have hb := fourP_bd a j 4 Ha.out
  exact ⟨_, _, h1, h2, by omega, by omega⟩
 go_enter Tryz.func34, Tryz.ntmps34
 have hr0 : Row (w.alloc (.cells #[.complex .f32 r0 i0, .complex .f32 r1 i1, .complex .f32 r2 i2, .complex .f32 r3 i3] 96)) w.heap.size 96 (cxs [(r0, i0), (r1, i1), (r2, i2), (r3, i3)]) := Row.new w 96 (cxs [(r0, i0), (r1, i1), (r2, i2), (r3, i3)])
 have Hr0 := Lib.hid hr0
 clear hr0
 go_wp2_with (first | (go_at_call 95; refine (checkPanel_ok _ _ _ _ _ _ _ _ _ Hok.out).mono ?_; rintro e w1 ⟨rfl, hb1⟩))
 have hr1 : Row w1 w.heap.size 96 (cxs [(r0, i0), (r1, i1), (r2, i2), (r3, i3)]) := (Hr0.out.alloc _).old hb1
 have hres : Row w1 (w.heap.size + 1) 99 (flts [0, 0, 0, 0]) := by
  have h := Row.new (w.alloc (.cells (cxs [(r0, i0), (r1, i1), (r2, i2), (r3, i3)]).toArray 96)) 99 (flts [0, 0, 0, 0])
  rw [World.size_alloc] at h
  exact h.old hb1
 have hb0 : Below w.heap.size w w1 := (((Below.refl w.heap.size w).alloc (Nat.le_refl _) _).alloc (by simp) _).trans (hb1.mono (by simp; omega))
 have hp1 : Pw w1 := Hw.out.old hb0
 have hs1 : w.heap.size + 2 ≤ w1.heap.size := by have := hb1.size; simp at this; omega
 have Hl := Lib.hid hr1; have Hres := Lib.hid hres; have Hb0 := Lib.hid hb0; have Hp1 := Lib.hid hp1
 clear hr1 hres hb0 hp1 hb1 Hr0
 go_loopw [18] (fun i wr => ∃ (n : Nat) (ys : List Nat), n ≤ 4 ∧ i = .int .i64 n ∧ Hid (UnQ a n ys) ∧ Hid (Row wr w1.heap.size 99 (flts ys)) ∧ Hid (Row wr w.heap.size 96 (cxs [(r0, i0), (r1, i1), (r2, i2), (r3, i3)])) ∧ Hid (Row wr (w.heap.size + 1) 99 (flts [0, 0, 0, 0])) ∧ Hid (Pw wr) ∧ Hid (Below w.heap.size w wr)) (fun i _ => 4 - (intOf i).toNat)
 case atStart => exact ⟨0, _, Nat.zero_le _, rfl, UnQ.start a, Row.new w1 99 (flts [0, 0, 0, 0]), Hl.out.alloc _, Hres.out.alloc _, Hp1.out.old ((Below.refl _ _).alloc (Nat.le_refl _) _), Hb0.out.alloc (by omega) _⟩
 case round =>
  obtain ⟨n, ys, hn, rfl, hq, hrow, hl, hres, hp, hb⟩ := hrel
  by_cases hlt : n < 4
  · have hl4 : Hid (wr.heap[w.heap.size]? = some (.cells #[.complex .f32 r0 i0, .complex .f32 r1 i1, .complex .f32 r2 i2, .complex .f32 r3 i3] 96 (0, 0))) := hl.out
    go_wp2_with (refine wpList_load_row rfl 96 _ rfl w.heap.size rfl 96 #[.complex .f32 r0 i0, .complex .f32 r1 i1, .complex .f32 r2 i2, .complex .f32 r3 i3] (0, 0) _ hl4.out Tryz.underlying96 rfl ?_ ?_; (rw [info147]; rfl))
    clear hl4
    go_loopw [22, 7] (fun i s wn => ∃ (k sr si : Nat), k ≤ 4 ∧ i = .int .i64 k ∧ s = .complex .f32 sr si ∧ Hid (S sr (unP a n k).1) ∧ Hid (S si (unP a n k).2) ∧ Hid (Row wn w1.heap.size 99 (flts ys)) ∧ Hid (Row wn w.heap.size 96 (cxs [(r0, i0), (r1, i1), (r2, i2), (r3, i3)])) ∧ Hid (Row wn (w.heap.size + 1) 99 (flts [0, 0, 0, 0])) ∧ Hid (Pw wn) ∧ Hid (Below w.heap.size w wn)) (fun i _ _ => 4 - (intOf i).toNat)
    case atStart => exact ⟨0, 0, 0, Nat.zero_le _, rfl, rfl, S.zero, S.zero, hrow, hl, hres, hp, hb⟩
    case round =>
     clear hl hres hp hb hrow
     obtain ⟨k, sr, si, hk, rfl, rfl, hsr, hsi, hrow, hl, hres, hp, hb⟩ := hrel
     by_cases hlt2 : k < 4
     · obtain ⟨z, hz⟩ : ∃ z, z = 3 * k * n := ⟨_, rfl⟩
       obtain ⟨y, hy⟩ : ∃ y, y = 3 * k := ⟨_, rfl⟩
       have hyi : (3 : Int) * (k : Int) = (y : Int) := by rw [hy]; omega
       have hyb : y ≤ 12 := by omega
       have hzi : (y : Int) * (n : Int) = (z : Int) := by rw [hz, ← hy, Int.natCast_mul]
       have hzb : z < 1000000 := by rw [hz, ← hy]; have := Nat.mul_le_mul (show y ≤ 12 by omega) (show n ≤ 4 by omega); omega
       obtain ⟨r, i, hx, sR, sI⟩ : ∃ r i, [(r0, i0), (r1, i1), (r2, i2), (r3, i3)][k]? = some (r, i) ∧ S r (fourP a k 4).1 ∧ S i (fourP a k 4).2 := by
        have h4 : k < [(r0, i0), (r1, i1), (r2, i2), (r3, i3)].length := hlt2
        exact ⟨_, _, List.getElem?_eq_getElem h4, HS.out k h4⟩
       obtain ⟨u1, v1, u2, v2, hm, hs, s1, s2⟩ := unfour_run a n k r i sr si z hz Ha.out hlt2 sR sI hsr.out hsi.out
       have hix := fun W => index_panel r0 i0 r1 i1 r2 i2 r3 i3 k r i hlt2 hx W
       have S1 := Lib.hid s1; have S2 := Lib.hid s2
       clear s1 s2 sR sI hx hz hy
       have Hzb := Lib.hid hzb
       go_wp2_with (first | (go_at_call 94; refine (power_any z _ hp.out Hzb.out).mono ?_; rintro e w2 ⟨rfl, hb2⟩))
       go_roundw
       case rel => exact ⟨k + 1, u2, v2, by omega, by go_num, rfl, S1, S2, hrow.out.old hb2, hl.out.old hb2, hres.out.old hb2, hp.out.old hb2, hb.out.trans (hb2.mono hb.out.size)⟩
       case measure => simp [intOf]; omega
     · obtain rfl : k = 4 := by omega
       have hs4 : S sr (4 * a.getD n 0) := by rw [← unP_all a n hlt]; exact hsr.out
       obtain ⟨y, hdiv, sy⟩ := hs4.quarter (by have := Ha.out n; omega)
       have hqr := fun w => quarter_run sr y hdiv w
       have Hst := Lib.hid (hq.out.step sy)
       have hset := Lib.hid (flts_set ys n y)
       obtain ⟨v0, hc0⟩ : ∃ v0, wr.cell? ⟨w1.heap.size, n, none⟩ = some v0 := ⟨_, hrow.out.cellAt (by have := hq.out.1; simp [flts]; omega)⟩
       have hf0 := hrow.out.free n
       clear hs4 hdiv sy
       go_wp2
       go_roundw
       case rel => exact ⟨n + 1, ys.set n y, by omega, by go_num, Hst.out, by have := hrow.out.set n (.float .f32 y); rw [hset.out] at this; exact this, hl.out.far (by simp; omega) _, hres.out.far (by simp; omega) _, hp.out.set (Nat.ne_of_gt (by have := Hg.out; show _ < w1.heap.size; omega)) _, hb.out.setCell (by simp; omega) _⟩
       case measure => simp [intOf]; omega
  · obtain rfl : n = 4 := by omega
    obtain ⟨y0, y1, y2, y3, rfl⟩ : ∃ y0 y1 y2 y3, ys = [y0, y1, y2, y3] := by
     have := hq.out.1
     match ys, this with
     | [a, b, c, d], _ => exact ⟨a, b, c, d, rfl⟩
    have hS4 : ∀ j (h : j < [y0, y1, y2, y3].length), S [y0, y1, y2, y3][j] (a.getD j 0) := by
     intro j h
     have h2 := hq.out.2 j h
     have h4 : j < 4 := h
     rwa [if_pos h4] at h2
    have HS4 := Lib.hid hS4
    have Hsam := Lib.hid (sampsI_ok (by simp) hS4 Ha.out)
    clear hS4
    have hy4 : Hid (wr.heap[w1.heap.size]? = some (.cells #[.float .f32 y0, .float .f32 y1, .float .f32 y2, .float .f32 y3] 99 (0, 0))) := hrow.out
    go_wp2_with (refine wpList_load_row rfl 99 _ rfl w1.heap.size rfl 99 #[.float .f32 y0, .float .f32 y1, .float .f32 y2, .float .f32 y3] (0, 0) _ hy4.out Tryz.underlying99 rfl ?_ ?_; (rw [info150]; rfl))
    refine (four_ok y0 y1 y2 y3 a _ hp.out Ha.out HS4.out Hsam.out).mono ?_
    rintro e w2 ⟨qs, rfl, hpa, hb2⟩
    obtain ⟨c0, d0, c1, d1, c2, d2, c3, d3, rfl⟩ : ∃ c0 d0 c1 d1 c2 d2 c3 d3, qs = [(c0, d0), (c1, d1), (c2, d2), (c3, d3)] := by
     have := hpa.1
     match qs, this with
     | [(a, b), (c, d), (e, f), (g, h)], _ => exact ⟨a, b, c, d, e, f, g, h, rfl⟩
    have hqe : all2 cEq (cxs [(c0, d0), (c1, d1), (c2, d2), (c3, d3)]) (cxs [(r0, i0), (r1, i1), (r2, i2), (r3, i3)]) = true := by
     refine all2_cEq _ _ (by rw [hpa.1]; rfl) (fun j h1 h2 => ?_)
     obtain ⟨a1, a2⟩ := hpa.2 j h1
     obtain ⟨b1, b2⟩ := HS.out j h2
     have e : PaN a 4 0 j = fourP a j 4 := by
      unfold PaN
      have h4 : j < 4 := h2
      rw [if_pos h4]
     rw [e] at a1 a2
     exact ⟨_, _, a1, b1, a2, b2⟩
    obtain ⟨us, hus⟩ : ∃ us, us = cxs [(c0, d0), (c1, d1), (c2, d2), (c3, d3)] := ⟨_, rfl⟩
    obtain ⟨vs, hvs⟩ : ∃ vs, vs = cxs [(r0, i0), (r1, i1), (r2, i2), (r3, i3)] := ⟨_, rfl⟩
    have hneq := fun w => neqCx [(c0, d0), (c1, d1), (c2, d2), (c3, d3)] [(r0, i0), (r1, i1), (r2, i2), (r3, i3)] hpa.1 rfl hqe w
    have hl2 := hl.out.old hb2
    have hres2 := hres.out.old hb2
    have hy2 : Row w2 w1.heap.size 99 (flts [y0, y1, y2, y3]) := Row.old hy4.out hb2
    have hu4 : us.length = 4 := by rw [hus]; rfl
    have hu1 : ∀ v ∈ us, v.oneCell' = true := by rw [hus]; exact cxs_one _
    have hv4 : vs.length = 4 := by rw [hvs]; rfl
    have hneq2 : ∀ w, (binOp .neq 96 (.agg #[.complex .f32 c0 d0, .complex .f32 c1 d1, .complex .f32 c2 d2, .complex .f32 c3 d3]) (.agg #[.complex .f32 r0 i0, .complex .f32 r1 i1, .complex .f32 r2 i2, .complex .f32 r3 i3])).run Tryz.prog w = .ok (.bool false) w := hneq
    clear hneq
    rw [← hvs] at hl2
    rw [← hus]
    have hbig : w.heap.size + 2 ≤ w2.heap.size ∧ w1.heap.size < w2.heap.size := by
     have h1 := hy2.lt; omega
    have Hl2 : Hid (Row ((w2.alloc (.cells (cxs [(0, 0), (0, 0), (0, 0), (0, 0)]).toArray 96)).setRow w2.heap.size us.toArray) w.heap.size 96 vs) := (hl2.alloc _).farRow (by omega) _
    have Hnew : Hid (Row (w2.alloc (.cells (cxs [(0, 0), (0, 0), (0, 0), (0, 0)]).toArray 96)) w2.heap.size 96 (cxs [(0, 0), (0, 0), (0, 0), (0, 0)])) := Row.new w2 96 (cxs [(0, 0), (0, 0), (0, 0), (0, 0)])
    have Hu : Hid (Row ((w2.alloc (.cells (cxs [(0, 0), (0, 0), (0, 0), (0, 0)]).toArray 96)).setRow w2.heap.size us.toArray) w2.heap.size 96 us) := Hnew.out.setRow us
    have Hres2 : Hid (Row ((w2.alloc (.cells (cxs [(0, 0), (0, 0), (0, 0), (0, 0)]).toArray 96)).setRow w2.heap.size us.toArray) (w.heap.size + 1) 99 (flts [0, 0, 0, 0])) := (hres2.alloc _).farRow (by omega) _
    have Hy2 : Hid (Row ((w2.alloc (.cells (cxs [(0, 0), (0, 0), (0, 0), (0, 0)]).toArray 96)).setRow w2.heap.size us.toArray) w1.heap.size 99 (flts [y0, y1, y2, y3])) := (hy2.alloc _).farRow (by omega) _
    have Hbb : Hid (Below w.heap.size w ((w2.alloc (.cells (cxs [(0, 0), (0, 0), (0, 0), (0, 0)]).toArray 96)).setRow w2.heap.size us.toArray)) := Below.setRow ((hb.out.trans (hb2.mono hb.out.size)).alloc (by omega) _) (by omega) _
    have Hcs : Hid (us = [.complex .f32 c0 d0, .complex .f32 c1 d1, .complex .f32 c2 d2, .complex .f32 c3 d3] ∧ vs = [.complex .f32 r0 i0, .complex .f32 r1 i1, .complex .f32 r2 i2, .complex .f32 r3 i3]) := ⟨hus, hvs⟩
    have Hu4 := Lib.hid hu4; have Hu1 := Lib.hid hu1; have Hv4 := Lib.hid hv4
    clear hqe hus hvs hl2 hres2 hy2 hu4 hu1 hv4 hpa
    go_wp2_with (refine wpList_store_row rfl 96 _ _ rfl w2.heap.size us.toArray rfl rfl 96 _ Hnew.out ?_ ?_ ?_ (gen_world (w2.heap.size) w.heap.size (w.heap.size + 1) w1.heap.size 96 99 us vs (flts [0, 0, 0, 0]) (flts [y0, y1, y2, y3]) Hu.out Hl2.out Hres2.out Hy2.out Hbb.out ?_); (rw [info147]; simp [Hu4.out]); (simp [Hu4.out, cxs]); (simpa using Hu1.out))
    intro w3 k0 k1 k2 k3 kb
    rw [Hcs.out.1] at k0 ⊢
    rw [Hcs.out.2] at k1
    have a0 := k0.cellAt (j := 0) (by simp); have a1 := k0.cellAt (j := 1) (by simp); have a2 := k0.cellAt (j := 2) (by simp); have a3 := k0.cellAt (j := 3) (by simp)
    have b0 := k1.cellAt (j := 0) (by simp); have b1 := k1.cellAt (j := 1) (by simp); have b2 := k1.cellAt (j := 2) (by simp); have b3 := k1.cellAt (j := 3) (by simp)
    simp only [List.getElem_cons_zero, List.getElem_cons_succ] at a0 a1 a2 a3 b0 b1 b2 b3
    have K2 := Lib.hid k2; have K3 := Lib.hid k3; have Kb := Lib.hid kb
    clear k0 k1 k2 k3 kb
    go_wp2_with (first
     | (refine wpList_load_row rfl 99 _ rfl w1.heap.size rfl 99 (flts [y0, y1, y2, y3]).toArray (0, 0) _ K3.out Tryz.underlying99 rfl ?_ ?_; (rw [info150]; rfl))
     | (refine wpList_store_row rfl 99 _ _ rfl (w.heap.size + 1) (flts [y0, y1, y2, y3]).toArray rfl rfl 99 _ K2.out ?_ ?_ ?_ ?_; (rw [info150]; rfl); (rfl); (simp [flts, Value.oneCell'])))
    refine bodyPost_ret (results_row_tmp rfl _ _ (w.heap.size + 1) 99 (flts [y0, y1, y2, y3]).toArray (0, 0) _ rfl (K2.out.setRow (flts [y0, y1, y2, y3])) Tryz.underlying99 rfl ?_) rfl ?_
    · rw [info150]; rfl
    · exact ⟨_, rfl, hq.out, Below.setRow Kb.out (by simp) _⟩
end Go.Proofs.YtjdniebjhilooaaGreatDoor
