import Derived.Test.YtlflfieknibgmaaGreatDoorM07
import Derived.Laws.CopyOwn
namespace Go.Proofs.YtlflfieknibgmaaGreatDoor
set_option linter.all false
open Go.RowKit Go.Fl
theorem keepC {W W' : World} {p : Addr} {v : Value} (h : W.cell? p = some v) (hb : Below W.heap.size W W') : W'.cell? p = some v := (hb.cell (World.block_lt_of_cell? W p h)).trans h
def uEq : Value → Value → Bool
  | .int _ a, .int _ b => a == b
  | _, _ => false
theorem all2_u8s : ∀ xs ys : List Int, all2 uEq (u8s xs) (u8s ys) = (xs == ys)
  | [], [] => rfl
  | x :: xs, y :: ys => by
    have := all2_u8s xs ys
    simp only [u8s, List.map_cons, all2, uEq] at this ⊢
    rw [this]; rfl
  | [], _ :: _ => rfl
  | _ :: _, [] => rfl
theorem u8s_getD (xs : List Int) (i : Nat) (h : i < (u8s xs).length) : (u8s xs).getD i undef = .int .u8 (xs.getD i 0) := by
  have h2 : i < xs.length := by simpa [u8s] using h
  simp [u8s, h2]
theorem isAgg5 (w : World) : (isAgg 5).run Tryz.prog w = .ok false w := by kernel_rfl
theorem eqBytes (d : Nat) (t : TypeId) (n : Nat) (hu : Tryz.prog.underlying t = some (.array n 5)) (xs ys : List Int) (hx : xs.length = n) (hy : ys.length = n) (w : World) :
    (Op.equalIn (d + 2) t (.agg (u8s xs).toArray) (.agg (u8s ys).toArray)).run Tryz.prog w = .ok (xs == ys) w := by
  obtain ⟨i, hi, _⟩ := info_parts info5
  rw [run_eqArray w (d + 1) t 5 n i uEq (u8s xs) (u8s ys) hu hi (by kernel_rfl) (part_scalar w _ isAgg5) ?_ (by simpa [u8s] using hx) (by simpa [u8s] using hy), all2_u8s]
  intro j hj
  have hj2 : j < (u8s ys).length := by simp [u8s] at hj ⊢; omega
  rw [u8s_getD xs j hj, u8s_getD ys j hj2, run_equalIn_int w d _ .u8 .u8 _ _ Tryz.underlying5]
  rfl
theorem eqKey (xs ys : List Int) (hx : xs.length = 8) (hy : ys.length = 8) (w : World) : (binOp .eql 57 (.agg (u8s xs).toArray) (.agg (u8s ys).toArray)).run Tryz.prog w = .ok (.bool (xs == ys)) w := by
  rw [run_eql_struct, eqBytes 9998 57 8 Tryz.underlying57 xs ys hx hy w]; rfl
def natsI (bs : List UInt8) : List Int := bs.map fun b => (b.toNat : Int)
def sealedB (key : List Int) (bs : List UInt8) : Bool := natsI (bs.drop (bs.length - 8)) == sealL key (bs.take (bs.length - 8))
theorem slice_from {P : Program} (t : TypeId) (ht : P.underlying t = some (.slice (P.elem t))) (hs : ∀ w, (sizeOf (P.elem t)).run P w = .ok 1 w) (b off n c : Nat) (l : Int) (h0 : 0 ≤ l) (hl : l < n) (hn : n ≤ c) (w : World) :
    (Instr.slice t (.slice (some ⟨b, off, none⟩) n c) (some (.int .i64 l)) none none).run P w = .ok (.slice (some ⟨b, off + l.toNat, none⟩) (n - l.toNat) (c - l.toNat)) w := by
  rw [run_slice_l w t (some ⟨b, off, none⟩) n c ht .i64 l h0 (by omega), hs]
  simp only [Result.andThen, sliced, Nat.mul_one]
  have hne : ¬ c = l.toNat := by omega
  rw [if_neg hne]
  by_cases hj : l.toNat = 0
  · simp [Addr.add, hj]
  · simp [Addr.add, hj]
theorem keepIs {w1 W W' : World} {kb sb : Nat} {k0 k1 k2 k3 k4 k5 k6 k7 s0 s1 s2 s3 s4 s5 s6 s7 : Int} (h : W.cell? ⟨kb, 0, none⟩ = some (.int .u8 k0) ∧ W.cell? ⟨kb, 1, none⟩ = some (.int .u8 k1) ∧ W.cell? ⟨kb, 2, none⟩ = some (.int .u8 k2) ∧ W.cell? ⟨kb, 3, none⟩ = some (.int .u8 k3) ∧ W.cell? ⟨kb, 4, none⟩ = some (.int .u8 k4) ∧ W.cell? ⟨kb, 5, none⟩ = some (.int .u8 k5) ∧ W.cell? ⟨kb, 6, none⟩ = some (.int .u8 k6) ∧ W.cell? ⟨kb, 7, none⟩ = some (.int .u8 k7) ∧ W.cell? ⟨sb, 0, none⟩ = some (.int .u8 s0) ∧ W.cell? ⟨sb, 1, none⟩ = some (.int .u8 s1) ∧ W.cell? ⟨sb, 2, none⟩ = some (.int .u8 s2) ∧ W.cell? ⟨sb, 3, none⟩ = some (.int .u8 s3) ∧ W.cell? ⟨sb, 4, none⟩ = some (.int .u8 s4) ∧ W.cell? ⟨sb, 5, none⟩ = some (.int .u8 s5) ∧ W.cell? ⟨sb, 6, none⟩ = some (.int .u8 s6) ∧ W.cell? ⟨sb, 7, none⟩ = some (.int .u8 s7) ∧ Below w1.heap.size w1 W) (hb : Below W.heap.size W W') : W'.cell? ⟨kb, 0, none⟩ = some (.int .u8 k0) ∧ W'.cell? ⟨kb, 1, none⟩ = some (.int .u8 k1) ∧ W'.cell? ⟨kb, 2, none⟩ = some (.int .u8 k2) ∧ W'.cell? ⟨kb, 3, none⟩ = some (.int .u8 k3) ∧ W'.cell? ⟨kb, 4, none⟩ = some (.int .u8 k4) ∧ W'.cell? ⟨kb, 5, none⟩ = some (.int .u8 k5) ∧ W'.cell? ⟨kb, 6, none⟩ = some (.int .u8 k6) ∧ W'.cell? ⟨kb, 7, none⟩ = some (.int .u8 k7) ∧ W'.cell? ⟨sb, 0, none⟩ = some (.int .u8 s0) ∧ W'.cell? ⟨sb, 1, none⟩ = some (.int .u8 s1) ∧ W'.cell? ⟨sb, 2, none⟩ = some (.int .u8 s2) ∧ W'.cell? ⟨sb, 3, none⟩ = some (.int .u8 s3) ∧ W'.cell? ⟨sb, 4, none⟩ = some (.int .u8 s4) ∧ W'.cell? ⟨sb, 5, none⟩ = some (.int .u8 s5) ∧ W'.cell? ⟨sb, 6, none⟩ = some (.int .u8 s6) ∧ W'.cell? ⟨sb, 7, none⟩ = some (.int .u8 s7) ∧ Below w1.heap.size w1 W' :=
  ⟨keepC (h.1) hb, keepC (h.2.1) hb, keepC (h.2.2.1) hb, keepC (h.2.2.2.1) hb, keepC (h.2.2.2.2.1) hb, keepC (h.2.2.2.2.2.1) hb, keepC (h.2.2.2.2.2.2.1) hb, keepC (h.2.2.2.2.2.2.2.1) hb, keepC (h.2.2.2.2.2.2.2.2.1) hb, keepC (h.2.2.2.2.2.2.2.2.2.1) hb, keepC (h.2.2.2.2.2.2.2.2.2.2.1) hb, keepC (h.2.2.2.2.2.2.2.2.2.2.2.1) hb, keepC (h.2.2.2.2.2.2.2.2.2.2.2.2.1) hb, keepC (h.2.2.2.2.2.2.2.2.2.2.2.2.2.1) hb, keepC (h.2.2.2.2.2.2.2.2.2.2.2.2.2.2.1) hb, keepC (h.2.2.2.2.2.2.2.2.2.2.2.2.2.2.2.1) hb, (h.2.2.2.2.2.2.2.2.2.2.2.2.2.2.2.2).trans (hb.mono (h.2.2.2.2.2.2.2.2.2.2.2.2.2.2.2.2).size)⟩
theorem lastIs {w1 W : World} {kb sb : Nat} {k0 k1 k2 k3 k4 k5 k6 k7 s0 s1 s2 s3 s4 s5 s6 s7 : Int} (h : W.cell? ⟨kb, 0, none⟩ = some (.int .u8 k0) ∧ W.cell? ⟨kb, 1, none⟩ = some (.int .u8 k1) ∧ W.cell? ⟨kb, 2, none⟩ = some (.int .u8 k2) ∧ W.cell? ⟨kb, 3, none⟩ = some (.int .u8 k3) ∧ W.cell? ⟨kb, 4, none⟩ = some (.int .u8 k4) ∧ W.cell? ⟨kb, 5, none⟩ = some (.int .u8 k5) ∧ W.cell? ⟨kb, 6, none⟩ = some (.int .u8 k6) ∧ W.cell? ⟨kb, 7, none⟩ = some (.int .u8 k7) ∧ W.cell? ⟨sb, 0, none⟩ = some (.int .u8 s0) ∧ W.cell? ⟨sb, 1, none⟩ = some (.int .u8 s1) ∧ W.cell? ⟨sb, 2, none⟩ = some (.int .u8 s2) ∧ W.cell? ⟨sb, 3, none⟩ = some (.int .u8 s3) ∧ W.cell? ⟨sb, 4, none⟩ = some (.int .u8 s4) ∧ W.cell? ⟨sb, 5, none⟩ = some (.int .u8 s5) ∧ W.cell? ⟨sb, 6, none⟩ = some (.int .u8 s6) ∧ W.cell? ⟨sb, 7, none⟩ = some (.int .u8 s7) ∧ Below w1.heap.size w1 W) : Below w1.heap.size w1 W := h.2.2.2.2.2.2.2.2.2.2.2.2.2.2.2.2
set_option maxRecDepth 100000 in
set_option maxHeartbeats 2000000 in
theorem isSealed_any (k0 k1 k2 k3 k4 k5 k6 k7 : Int) (A : Option Addr) (n c : Nat) (bs : List UInt8) (w : World) (hA : Rd w A (byts bs)) (hn : n = bs.length) (hc : n ≤ c) (h8 : 8 ≤ bs.length) (hm : bs.length ≤ 9223372036854775807) (hkeys : ∀ j (h : j < 8), isByte ([k0, k1, k2, k3, k4, k5, k6, k7][j])) :
    Calls Tryz.prog 96 #[.agg #[.int .u8 k0, .int .u8 k1, .int .u8 k2, .int .u8 k3, .int .u8 k4, .int .u8 k5, .int .u8 k6, .int .u8 k7], .slice A n c] w fun e w' => e = .returned (.bool (sealedB [k0, k1, k2, k3, k4, k5, k6, k7] bs)) ∧ Below w.heap.size w w' := by
  subst hn
  obtain ⟨b, off, rfl⟩ : ∃ b off, A = some ⟨b, off, none⟩ := by
    obtain ⟨b, off, h, _⟩ := Rd.byte hA (show 0 < bs.length by omega)
    exact ⟨b, off, h⟩
  obtain ⟨m, hm8⟩ : ∃ m, bs.length = m + 8 := ⟨bs.length - 8, by omega⟩
  have hk := Lib.hid hkeys
  obtain ⟨tl, htl⟩ : ∃ tl, tl = bs.drop m := ⟨_, rfl⟩
  have htl8 : tl.length = 8 := by rw [htl]; simp; omega
  have hB : Hid (sealedB [k0, k1, k2, k3, k4, k5, k6, k7] bs = (natsI tl == sealL [k0, k1, k2, k3, k4, k5, k6, k7] (bs.take m))) := by
    unfold Hid sealedB
    rw [show bs.length - 8 = m by omega, htl]
  have hsrc : Hid (∀ j v, (byts tl)[j]? = some v → ∀ W, Below w.heap.size w W → W.cell? ((⟨b, off + m, none⟩ : Addr).add j) = some v) := by
    intro j v hv W hbW
    rw [htl] at hv
    have hv2 : (byts bs)[m + j]? = some v := by simpa [byts] using hv
    obtain ⟨b', off', hh, hcell⟩ := hA (m + j) v hv2
    cases hh
    have := (hbW.cell (World.block_lt_of_cell? w _ hcell)).trans hcell
    by_cases hj : j = 0
    · subst hj; simpa [Addr.add] using this
    · simpa [Addr.add, hj, Nat.add_assoc] using this
  have hA2 : Hid (Rd w (some ⟨b, off, none⟩) (byts (bs.take m))) := by have := hA.take m; simpa [byts, Hid] using this
  have hlen : bs.length = m + 8 := hm8
  have hsl := fun W => slice_from (P := Tryz.prog) 22 (by kernel_rfl) (fun _ => by kernel_rfl) b off bs.length c (m : Int) (by omega) (by omega) hc W
  have hst := fun W => slice_to (P := Tryz.prog) 22 (by kernel_rfl) 1 (fun _ => by kernel_rfl) (some ⟨b, off, none⟩) bs.length c (m : Int) (by omega) (by omega) W
  obtain ⟨L, hL⟩ : ∃ L, L = bs.length := ⟨_, rfl⟩
  rw [← hL] at hsl hst hc hlen hm ⊢
  have Hlen := Lib.hid hL
  clear hkeys htl hA hm8 h8 hL
  subst hlen
  have e1 : m + 8 - (m : Int).toNat = 8 := by omega
  have e2 : (m : Int).toNat = m := by omega
  simp only [e1, e2] at hsl hst
  clear e1 e2
  go_enter Tryz.func96, Tryz.ntmps96
  go_wp2
  have HF : Hid ((((w.alloc (.cells #[.int .u8 k0, .int .u8 k1, .int .u8 k2, .int .u8 k3, .int .u8 k4, .int .u8 k5, .int .u8 k6, .int .u8 k7] 57)).alloc (.cells (u8s [0, 0, 0, 0, 0, 0, 0, 0]).toArray 57)).drew).heap[w.heap.size + 1]? = some (.cells (u8s [0, 0, 0, 0, 0, 0, 0, 0]).toArray 57 (0, 0))) := by
    have h := Row.new (w.alloc (.cells #[.int .u8 k0, .int .u8 k1, .int .u8 k2, .int .u8 k3, .int .u8 k4, .int .u8 k5, .int .u8 k6, .int .u8 k7] 57)) 57 (u8s [0, 0, 0, 0, 0, 0, 0, 0])
    rw [World.size_alloc] at h
    exact h
  have HK : Hid (Row ((w.alloc (.cells #[.int .u8 k0, .int .u8 k1, .int .u8 k2, .int .u8 k3, .int .u8 k4, .int .u8 k5, .int .u8 k6, .int .u8 k7] 57)).alloc (.cells (u8s [0, 0, 0, 0, 0, 0, 0, 0]).toArray 57)) w.heap.size 57 (u8s [k0, k1, k2, k3, k4, k5, k6, k7])) := (Row.new w 57 (u8s [k0, k1, k2, k3, k4, k5, k6, k7])).alloc _
  have HB0 : Hid (Below (w.heap.size + 1) (w.alloc (.cells #[.int .u8 k0, .int .u8 k1, .int .u8 k2, .int .u8 k3, .int .u8 k4, .int .u8 k5, .int .u8 k6, .int .u8 k7] 57)) (((w.alloc (.cells #[.int .u8 k0, .int .u8 k1, .int .u8 k2, .int .u8 k3, .int .u8 k4, .int .u8 k5, .int .u8 k6, .int .u8 k7] 57)).alloc (.cells (u8s [0, 0, 0, 0, 0, 0, 0, 0]).toArray 57)).drew)) := by
    have h := ((Below.refl (w.alloc (.cells #[.int .u8 k0, .int .u8 k1, .int .u8 k2, .int .u8 k3, .int .u8 k4, .int .u8 k5, .int .u8 k6, .int .u8 k7] 57)).heap.size _).alloc (Nat.le_refl _) (.cells (u8s [0, 0, 0, 0, 0, 0, 0, 0]).toArray 57)).drew
    rw [World.size_alloc] at h
    exact h
  have HW : Hid (Below w.heap.size w (w.alloc (.cells #[.int .u8 k0, .int .u8 k1, .int .u8 k2, .int .u8 k3, .int .u8 k4, .int .u8 k5, .int .u8 k6, .int .u8 k7] 57))) := (Below.refl _ _).alloc (Nat.le_refl _) _
  have T8 : Hid (tl.length = 8) := htl8
  clear htl8
  go_region_law (refine step_copy_splice rfl (.tmp 10) (.tmp 13) 22 22 rfl 5 Tryz.underlying22 (by kernel_rfl) (some ⟨w.heap.size + 1, 0, none⟩) (some ⟨b, off + m, none⟩) 8 8 8 (c - m) (by simp [Act.eval, Act.put]) (by simp [Act.eval, Act.put]) (w.heap.size + 1) 0 (u8s [0, 0, 0, 0, 0, 0, 0, 0]) 57 HF.out (byts tl) (by simp [byts, T8.out]) (fun _ => ⟨rfl, _, rfl, fun j v hv => hsrc.out j v hv _ (HW.out.trans (HB0.out.mono (Nat.le_succ _)))⟩) (by simp [byts, u8s, T8.out]) (by simp [byts, Value.oneCell']) (w.heap.size + 1) (w.alloc (.cells #[.int .u8 k0, .int .u8 k1, .int .u8 k2, .int .u8 k3, .int .u8 k4, .int .u8 k5, .int .u8 k6, .int .u8 k7] 57)) HB0.out (Nat.le_refl _) ?_; intro w1 hg1 hb1)
  obtain ⟨t0, t1, t2, t3, t4, t5, t6, t7, rfl⟩ : ∃ t0 t1 t2 t3 t4 t5 t6 t7, tl = [t0, t1, t2, t3, t4, t5, t6, t7] := by
    have := T8.out
    match tl, this with
    | [a, b, c, d, e, f, g, h], _ => exact ⟨a, b, c, d, e, f, g, h, rfl⟩
  obtain ⟨s0, hs0⟩ : ∃ s0, s0 = (t0.toNat : Int) := ⟨_, rfl⟩
  obtain ⟨s1, hs1⟩ : ∃ s1, s1 = (t1.toNat : Int) := ⟨_, rfl⟩
  obtain ⟨s2, hs2⟩ : ∃ s2, s2 = (t2.toNat : Int) := ⟨_, rfl⟩
  obtain ⟨s3, hs3⟩ : ∃ s3, s3 = (t3.toNat : Int) := ⟨_, rfl⟩
  obtain ⟨s4, hs4⟩ : ∃ s4, s4 = (t4.toNat : Int) := ⟨_, rfl⟩
  obtain ⟨s5, hs5⟩ : ∃ s5, s5 = (t5.toNat : Int) := ⟨_, rfl⟩
  obtain ⟨s6, hs6⟩ : ∃ s6, s6 = (t6.toNat : Int) := ⟨_, rfl⟩
  obtain ⟨s7, hs7⟩ : ∃ s7, s7 = (t7.toNat : Int) := ⟨_, rfl⟩
  have hrowS : Row w1 (w.heap.size + 1) 57 (u8s [s0, s1, s2, s3, s4, s5, s6, s7]) := by
    have h := hg1.out
    rw [show splice (u8s [0, 0, 0, 0, 0, 0, 0, 0]) 0 (byts [t0, t1, t2, t3, t4, t5, t6, t7]) = u8s [s0, s1, s2, s3, s4, s5, s6, s7] by rw [hs0, hs1, hs2, hs3, hs4, hs5, hs6, hs7]; rfl] at h
    exact h
  have hrowK : Row w1 w.heap.size 57 (u8s [k0, k1, k2, k3, k4, k5, k6, k7]) := ((Row.new w 57 (u8s [k0, k1, k2, k3, k4, k5, k6, k7])).below hb1 (by omega))
  have hbw : Below w.heap.size w w1 := HW.out.trans (hb1.mono (by omega))
  have hRd : Rd w1 (some ⟨b, off, none⟩) (byts (bs.take m)) := hA2.out.below hbw
  have hsz : w.heap.size + 1 < w1.heap.size := hrowS.lt
  have hnat : natsI [t0, t1, t2, t3, t4, t5, t6, t7] = [s0, s1, s2, s3, s4, s5, s6, s7] := by rw [hs0, hs1, hs2, hs3, hs4, hs5, hs6, hs7]; rfl
  obtain ⟨l, hl⟩ : ∃ l, l = sealL [k0, k1, k2, k3, k4, k5, k6, k7] (bs.take m) := ⟨_, rfl⟩
  have hll : l.length = 8 := by rw [hl]; simp [sealL, sealGo_length]
  have hB2 : Hid (sealedB [k0, k1, k2, k3, k4, k5, k6, k7] bs = ([s0, s1, s2, s3, s4, s5, s6, s7] == l)) := by unfold Hid; rw [hB.out, hnat, hl]
  have heq : ∀ W, (binOp .eql 57 (.agg #[.int .u8 s0, .int .u8 s1, .int .u8 s2, .int .u8 s3, .int .u8 s4, .int .u8 s5, .int .u8 s6, .int .u8 s7]) (.agg (u8s l).toArray)).run Tryz.prog W = .ok (.bool ([s0, s1, s2, s3, s4, s5, s6, s7] == l)) W := fun W => eqKey [s0, s1, s2, s3, s4, s5, s6, s7] l rfl hll W
  have hmt : Hid (m = (bs.take m).length) := by unfold Hid; have := Hlen.out; simp; omega
  have hmm : Hid ((bs.take m).length ≤ 9223372036854775807) := by unfold Hid; rw [← hmt.out]; omega
  have S0 : w1.cell? ⟨w.heap.size, 0, none⟩ = some (.int .u8 k0) ∧ w1.cell? ⟨w.heap.size, 1, none⟩ = some (.int .u8 k1) ∧ w1.cell? ⟨w.heap.size, 2, none⟩ = some (.int .u8 k2) ∧ w1.cell? ⟨w.heap.size, 3, none⟩ = some (.int .u8 k3) ∧ w1.cell? ⟨w.heap.size, 4, none⟩ = some (.int .u8 k4) ∧ w1.cell? ⟨w.heap.size, 5, none⟩ = some (.int .u8 k5) ∧ w1.cell? ⟨w.heap.size, 6, none⟩ = some (.int .u8 k6) ∧ w1.cell? ⟨w.heap.size, 7, none⟩ = some (.int .u8 k7) ∧ w1.cell? ⟨w.heap.size + 1, 0, none⟩ = some (.int .u8 s0) ∧ w1.cell? ⟨w.heap.size + 1, 1, none⟩ = some (.int .u8 s1) ∧ w1.cell? ⟨w.heap.size + 1, 2, none⟩ = some (.int .u8 s2) ∧ w1.cell? ⟨w.heap.size + 1, 3, none⟩ = some (.int .u8 s3) ∧ w1.cell? ⟨w.heap.size + 1, 4, none⟩ = some (.int .u8 s4) ∧ w1.cell? ⟨w.heap.size + 1, 5, none⟩ = some (.int .u8 s5) ∧ w1.cell? ⟨w.heap.size + 1, 6, none⟩ = some (.int .u8 s6) ∧ w1.cell? ⟨w.heap.size + 1, 7, none⟩ = some (.int .u8 s7) ∧ Below w1.heap.size w1 w1 :=
    ⟨by rw [hrowK.cell]; rfl, by rw [hrowK.cell]; rfl, by rw [hrowK.cell]; rfl, by rw [hrowK.cell]; rfl, by rw [hrowK.cell]; rfl, by rw [hrowK.cell]; rfl, by rw [hrowK.cell]; rfl, by rw [hrowK.cell]; rfl, by rw [hrowS.cell]; rfl, by rw [hrowS.cell]; rfl, by rw [hrowS.cell]; rfl, by rw [hrowS.cell]; rfl, by rw [hrowS.cell]; rfl, by rw [hrowS.cell]; rfl, by rw [hrowS.cell]; rfl, by rw [hrowS.cell]; rfl, Below.refl _ _⟩
  have HS0 := Lib.hid S0; have HRd := Lib.hid hRd; have Hbw := Lib.hid hbw; have Hl := Lib.hid hl
  have Hsz := Lib.hid hsz
  obtain ⟨bv, hbv⟩ : ∃ bv, bv = ([s0, s1, s2, s3, s4, s5, s6, s7] == l) := ⟨_, rfl⟩
  rw [← hbv] at heq hB2
  clear hs0 hs1 hs2 hs3 hs4 hs5 hs6 hs7 hrowS hrowK hbw hRd hsz hnat hl hll hB hsrc HF HB0 HK hb1 hg1 T8 hm hc hbv S0
  go_wp2
  go_region_held3 (fun w' => w'.cell? ⟨w.heap.size, 0, none⟩ = some (.int .u8 k0) ∧ w'.cell? ⟨w.heap.size, 1, none⟩ = some (.int .u8 k1) ∧ w'.cell? ⟨w.heap.size, 2, none⟩ = some (.int .u8 k2) ∧ w'.cell? ⟨w.heap.size, 3, none⟩ = some (.int .u8 k3) ∧ w'.cell? ⟨w.heap.size, 4, none⟩ = some (.int .u8 k4) ∧ w'.cell? ⟨w.heap.size, 5, none⟩ = some (.int .u8 k5) ∧ w'.cell? ⟨w.heap.size, 6, none⟩ = some (.int .u8 k6) ∧ w'.cell? ⟨w.heap.size, 7, none⟩ = some (.int .u8 k7) ∧ w'.cell? ⟨w.heap.size + 1, 0, none⟩ = some (.int .u8 s0) ∧ w'.cell? ⟨w.heap.size + 1, 1, none⟩ = some (.int .u8 s1) ∧ w'.cell? ⟨w.heap.size + 1, 2, none⟩ = some (.int .u8 s2) ∧ w'.cell? ⟨w.heap.size + 1, 3, none⟩ = some (.int .u8 s3) ∧ w'.cell? ⟨w.heap.size + 1, 4, none⟩ = some (.int .u8 s4) ∧ w'.cell? ⟨w.heap.size + 1, 5, none⟩ = some (.int .u8 s5) ∧ w'.cell? ⟨w.heap.size + 1, 6, none⟩ = some (.int .u8 s6) ∧ w'.cell? ⟨w.heap.size + 1, 7, none⟩ = some (.int .u8 s7) ∧ Below w1.heap.size w1 w') (first | assumption | exact keepIs HS0.out (Below.drew (Below.refl _ _)) | exact keepIs (by assumption) (Below.drew (Below.refl _ _)) | exact keepIs (by assumption) (below_drewN (Below.refl _ _) _) | exact keepIs (by assumption) (by assumption) | exact keepIs (by assumption) ((Below.refl _ _).alloc (Nat.le_refl _) _))
    (first | (go_at_call 63; refine (sealed_any k0 k1 k2 k3 k4 k5 k6 k7 (some ⟨b, off, none⟩) m c (bs.take m) _ (HRd.out.below ?_) hmt.out hmm.out hk.out).mono ?_; (exact lastIs (by assumption)); (rintro e w2 ⟨rfl, hb2⟩; rw [keyV, ← Hl.out])))
  all_goals go_wp2
  all_goals go_ret
  all_goals exact ⟨ret_bool hB2.out.symm, Hbw.out.trans ((lastIs (by assumption)).mono (by have := Hsz.out; omega))⟩
end Go.Proofs.YtlflfieknibgmaaGreatDoor
