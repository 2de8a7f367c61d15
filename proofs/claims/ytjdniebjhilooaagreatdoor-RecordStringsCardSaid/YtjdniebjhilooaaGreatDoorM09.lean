import Derived.Laws.CopyOwn
import Derived.Test.YtjdniebjhilooaaGreatDoorM10
namespace Go.Proofs.YtjdniebjhilooaaGreatDoor
set_option linter.all false
open Go.RowKit Go.Fl
theorem keepC {W W' : World} {p : Addr} {v : Value} (h : W.cell? p = some v) (hb : Below W.heap.size W W') : W'.cell? p = some v := (hb.cell (World.block_lt_of_cell? W p h)).trans h
def uEq : Value → Value → Bool
 | .int _ a, .int _ b => a == b
 | _, _ => false
theorem all2_u8s : ∀ xs ys : List Int, all2 uEq (u8s xs) (u8s ys) = (xs == ys)
 | [], [] => rfl
 | x :: xs, y :: ys => by
   have := all2_u8s xs ys
   simp only [u8s, List.map_cons, all2, uEq] at this ⊢
   rw [this]; rfl
 | [], _ :: _ => rfl
 | _ :: _, [] => rfl
theorem u8s_getD (xs : List Int) (i : Nat) (h : i < (u8s xs).length) : (u8s xs).getD i undef = .int .u8 (xs.getD i 0) := by
 have h2 : i < xs.length := by simpa [u8s] using h
 simp [u8s, h2]
theorem isAgg5 (w : World) : (isAgg 5).run Tryz.prog w = .ok false w := by kernel_rfl
theorem eqBytes (d : Nat) (t : TypeId) (n : Nat) (hu : Tryz.prog.underlying t = some (.array n 5)) (xs ys : List Int) (hx : xs.length = n) (hy : ys.length = n) (w : World) :
 (Op.equalIn (d + 2) t (.agg (u8s xs).toArray) (.agg (u8s ys).toArray)).run Tryz.prog w = .ok (xs == ys) w := by
 obtain ⟨i, hi, _⟩ := info_parts info5
 rw [run_eqArray w (d + 1) t 5 n i uEq (u8s xs) (u8s ys) hu hi (by kernel_rfl) (part_scalar w _ isAgg5) ?_ (by simpa [u8s] using hx) (by simpa [u8s] using hy), all2_u8s]
 intro j hj
 have hj2 : j < (u8s ys).length := by simp [u8s] at hj ⊢; omega
 rw [u8s_getD xs j hj, u8s_getD ys j hj2, run_equalIn_int w d _ .u8 .u8 _ _ Tryz.underlying5]
 rfl
theorem eqKey (xs ys : List Int) (hx : xs.length = 8) (hy : ys.length = 8) (w : World) : (binOp .eql 46 (.agg (u8s xs).toArray) (.agg (u8s ys).toArray)).run Tryz.prog w = .ok (.bool (xs == ys)) w := by
 rw [run_eql_struct, eqBytes 9998 46 8 Tryz.underlying46 xs ys hx hy w]; rfl
def natsI (bs : List UInt8) : List Int := bs.map fun b => (b.toNat : Int)
def sealedB (key : List Int) (bs : List UInt8) : Bool := natsI (bs.drop (bs.length - 8)) == sealL key (bs.take (bs.length - 8))
theorem slice_from {P : Program} (t : TypeId) (ht : P.underlying t = some (.slice (P.elem t))) (hs : ∀ w, (sizeOf (P.elem t)).run P w = .ok 1 w) (b off n c : Nat) (l : Int) (h0 : 0 ≤ l) (hl : l < n) (hn : n ≤ c) (w : World) :
 (Instr.slice t (.slice (some ⟨b, off, none⟩) n c) (some (.int .i64 l)) none none).run P w = .ok (.slice (some ⟨b, off + l.toNat, none⟩) (n - l.toNat) (c - l.toNat)) w := by
 rw [run_slice_l w t (some ⟨b, off, none⟩) n c ht .i64 l h0 (by omega), hs]
 simp only [Result.andThen, sliced, Nat.mul_one]
 have hne : ¬ c = l.toNat := by omega
 rw [if_neg hne]
 by_cases hj : l.toNat = 0
 · simp [Addr.add, hj]
 · simp [Addr.add, hj]
theorem keepIs {w1 W W' : World} {kb sb : Nat} {k0 k1 k2 k3 k4 k5 k6 k7 s0 s1 s2 s3 s4 s5 s6 s7 : Int} (h : W.cell? ⟨kb, 0, none⟩ = some (.int .u8 k0) ∧ W.cell? ⟨kb, 1, none⟩ = some (.int .u8 k1) ∧ W.cell? ⟨kb, 2, none⟩ = some (.int .u8 k2) ∧ W.cell? ⟨kb, 3, none⟩ = some (.int .u8 k3) ∧ W.cell? ⟨kb, 4, none⟩ = some (.int .u8 k4) ∧ W.cell? ⟨kb, 5, none⟩ = some (.int .u8 k5) ∧ W.cell? ⟨kb, 6, none⟩ = some (.int .u8 k6) ∧ W.cell? ⟨kb, 7, none⟩ = some (.int .u8 k7) ∧ W.cell? ⟨sb, 0, none⟩ = some (.int .u8 s0) ∧ W.cell? ⟨sb, 1, none⟩ = some (.int .u8 s1) ∧ W.cell? ⟨sb, 2, none⟩ = some (.int .u8 s2) ∧ W.cell? ⟨sb, 3, none⟩ = some (.int .u8 s3) ∧ W.cell? ⟨sb, 4, none⟩ = some (.int .u8 s4) ∧ W.cell? ⟨sb, 5, none⟩ = some (.int .u8 s5) ∧ W.cell? ⟨sb, 6, none⟩ = some (.int .u8 s6) ∧ W.cell? ⟨sb, 7, none⟩ = some (.int .u8 s7) ∧ Below w1.heap.size w1 W) (hb : Below W.heap.size W W') : W'.cell? ⟨kb, 0, none⟩ = some (.int .u8 k0) ∧ W'.cell? ⟨kb, 1, none⟩ = some (.int .u8 k1) ∧ W'.cell? ⟨kb, 2, none⟩ = some (.int .u8 k2) ∧ W'.cell? ⟨kb, 3, none⟩ = some (.int .u8 k3) ∧ W'.cell? ⟨kb, 4, none⟩ = some (.int .u8 k4) ∧ W'.cell? ⟨kb, 5, none⟩ = some (.int .u8 k5) ∧ W'.cell? ⟨kb, 6, none⟩ = some (.int .u8 k6) ∧ W'.cell? ⟨kb, 7, none⟩ = some (.int .u8 k7) ∧ W'.cell? ⟨sb, 0, none⟩ = some (.int .u8 s0) ∧ W'.cell? ⟨sb, 1, none⟩ = some (.int .u8 s1) ∧ W'.cell? ⟨sb, 2, none⟩ = some (.int .u8 s2) ∧ W'.cell? ⟨sb, 3, none⟩ = some (.int .u8 s3) ∧ W'.cell? ⟨sb, 4, none⟩ = some (.int .u8 s4) ∧ W'.cell? ⟨sb, 5, none⟩ = some (.int .u8 s5) ∧ W'.cell? ⟨sb, 6, none⟩ = some (.int .u8 s6) ∧ W'.cell? ⟨sb, 7, none⟩ = some (.int .u8 s7) ∧ Below w1.heap.size w1 W' :=
 ⟨keepC (h.1) hb, keepC (h.2.1) hb, keepC (h.2.2.1) hb, keepC (h.2.2.2.1) hb, keepC (h.2.2.2.2.1) hb, keepC (h.2.2.2.2.2.1) hb, keepC (h.2.2.2.2.2.2.1) hb, keepC (h.2.2.2.2.2.2.2.1) hb, keepC (h.2.2.2.2.2.2.2.2.1) hb, keepC (h.2.2.2.2.2.2.2.2.2.1) hb, keepC (h.2.2.2.2.2.2.2.2.2.2.1) hb, keepC (h.2.2.2.2.2.2.2.2.2.2.2.1) hb, keepC (h.2.2.2.2.2.2.2.2.2.2.2.2.1) hb, keepC (h.2.2.2.2.2.2.2.2.2.2.2.2.2.1) hb, keepC (h.2.2.2.2.2.2.2.2.2.2.2.2.2.2.1) hb, keepC (h.2.2.2.2.2.2.2.2.2.2.2.2.2.2.2.1) hb, (h.2.2.2.2.2.2.2.2.2.2.2.2.2.2.2.2).trans (hb.mono (h.2.2.2.2.2.2.2.2.2.2.2.2.2.2.2.2).size)⟩
theorem lastIs {w1 W : World} {kb sb : Nat} {k0 k1 k2 k3 k4 k5 k6 k7 s0 s1 s2 s3 s4 s5 s6 s7 : Int} (h : W.cell? ⟨kb, 0, none⟩ = some (.int .u8 k0) ∧ W.cell? ⟨kb, 1, none⟩ = some (.int .u8 k1) ∧ W.cell? ⟨kb, 2, none⟩ = some (.int .u8 k2) ∧ W.cell? ⟨kb, 3, none⟩ = some (.int .u8 k3) ∧ W.cell? ⟨kb, 4, none⟩ = some (.int .u8 k4) ∧ W.cell? ⟨kb, 5, none⟩ = some (.int .u8 k5) ∧ W.cell? ⟨kb, 6, none⟩ = some (.int .u8 k6) ∧ W.cell? ⟨kb, 7, none⟩ = some (.int .u8 k7) ∧ W.cell? ⟨sb, 0, none⟩ = some (.int .u8 s0) ∧ W.cell? ⟨sb, 1, none⟩ = some (.int .u8 s1) ∧ W.cell? ⟨sb, 2, none⟩ = some (.int .u8 s2) ∧ W.cell? ⟨sb, 3, none⟩ = some (.int .u8 s3) ∧ W.cell? ⟨sb, 4, none⟩ = some (.int .u8 s4) ∧ W.cell? ⟨sb, 5, none⟩ = some (.int .u8 s5) ∧ W.cell? ⟨sb, 6, none⟩ = some (.int .u8 s6) ∧ W.cell? ⟨sb, 7, none⟩ = some (.int .u8 s7) ∧ Below w1.heap.size w1 W) : Below w1.heap.size w1 W := h.2.2.2.2.2.2.2.2.2.2.2.2.2.2.2.2
set_option maxRecDepth 100000 in
set_option maxHeartbeats 2000000 in
theorem isSealed_any (k0 k1 k2 k3 k4 k5 k6 k7 : Int) (A : Option Addr) (n c : Nat) (bs : List UInt8) (w : World) (hA : Rd w A (byts bs)) (hn : n = bs.length) (hc : n ≤ c) (h8 : 8 ≤ bs.length) (hm : bs.length ≤ 9223372036854775807) (hkeys : ∀ j (h : j < 8), isByte ([k0, k1, k2, k3, k4, k5, k6, k7][j])) :
 Calls Tryz.prog 70 #[.agg #[.int .u8 k0, .int .u8 k1, .int .u8 k2, .int .u8 k3, .int .u8 k4, .int .u8 k5, .int .u8 k6, .int .u8 k7], .slice A n c] w fun e w' => e = .returned (.bool (sealedB [k0, k1, k2, k3, k4, k5, k6, k7] bs)) ∧ Below w.heap.size w w' := by
 subst hn
 obtain ⟨b, off, rfl⟩ : ∃ b off, A = some ⟨b, off, none⟩ := by
  obtain ⟨b, off, h, _⟩ := Rd.byte hA (show 0 < bs.length by omega)
  exact ⟨b, off, h⟩
 obtain ⟨m, hm8⟩ : ∃ m, bs.length = m + 8 := ⟨bs.length - 8, by omega⟩
 have hk := Lib.hid hkeys
 obtain ⟨tl, htl⟩ : ∃ tl, tl = bs.drop m := ⟨_, rfl⟩
 have htl8 : tl.length = 8 := by rw [htl]; simp; omega
 have hB : Hid (sealedB [k0, k1, k2, k3, k4, k5, k6, k7] bs = (natsI tl == sealL [k0, k1, k2, k3, k4, k5, k6, k7] (bs.take m))) := by
  unfold Hid sealedB
  rw [show bs.length - 8 = m by omega, htl]
 have hsrc : Hid (∀ j v, (byts tl)[j]? = some v → ∀ W, Below w.heap.size w W → W.cell? ((⟨b, off + m, none⟩ : Addr).add j) = some v) := by
  intro j v hv W hbW
  rw [htl] at hv
  have hv2 : (byts bs)[m + j]? = some v := by simpa [byts] using hv
  obtain ⟨b', off', hh, hcell⟩ := hA (m + j) v hv2
  cases hh
  have := (hbW.cell (World.block_lt_of_cell? w _ hcell)).trans hcell
  by_cases hj : j = 0
  · subst hj; simpa [Addr.add] using this
  · simpa [Addr.add, hj, Nat.add_assoc] using this
 have hA2 : Hid (Rd w (some ⟨b, off, none⟩) (byts (bs.take m))) := by have := hA.take m; simpa [byts, Hid] using this
 have hlen : bs.length = m + 8 := hm8
 have hsl := fun W => slice_from (P := Tryz.prog) 48 (by kernel_rfl) (fun _ => by kernel_rfl) b off bs.length c (m : Int) (by omega) (by omega) hc W
 have hst := fun W => slice_to (P := Tryz.prog) 48 (by kernel_rfl) 1 (fun _ => by kernel_rfl) (some ⟨b, off, none⟩) bs.length c (m : Int) (by omega) (by omega) W
 obtain ⟨L, hL⟩ : ∃ L, L = bs.length := ⟨_, rfl⟩
 rw [← hL] at hsl hst hc hlen hm ⊢
 have Hlen := Lib.hid hL
 clear hkeys htl hA hm8 h8 hL
 subst hlen
 have e1 : m + 8 - (m : Int).toNat = 8 := by omega
 have e2 : (m : Int).toNat = m := by omega
 simp only [e1, e2] at hsl hst
 clear e1 e2
 go_enter Tryz.func70, Tryz.ntmps70
 go_wp2
 have HF : Hid ((((w.alloc (.cells #[.int .u8 k0, .int .u8 k1, .int .u8 k2, .int .u8 k3, .int .u8 k4, .int .u8 k5, .int .u8 k6, .int .u8 k7] 46)).alloc (.cells (u8s [0, 0, 0, 0, 0, 0, 0, 0]).toArray 46)).drew).heap[w.heap.size + 1]? = some (.cells (u8s [0, 0, 0, 0, 0, 0, 0, 0]).toArray 46 (0, 0))) := by
  have h := Row.new (w.alloc (.cells #[.int .u8 k0, .int .u8 k1, .int .u8 k2, .int .u8 k3, .int .u8 k4, .int .u8 k5, .int .u8 k6, .int .u8 k7] 46)) 46 (u8s [0, 0, 0, 0, 0, 0, 0, 0])
  rw [World.size_alloc] at h
  exact h
 have HK : Hid (Row ((w.alloc (.cells #[.int .u8 k0, .int .u8 k1, .int .u8 k2, .int .u8 k3, .int .u8 k4, .int .u8 k5, .int .u8 k6, .int .u8 k7] 46)).alloc (.cells (u8s [0, 0, 0, 0, 0, 0, 0, 0]).toArray 46)) w.heap.size 46 (u8s [k0, k1, k2, k3, k4, k5, k6, k7])) := (Row.new w 46 (u8s [k0, k1, k2, k3, k4, k5, k6, k7])).alloc _
 have HB0 : Hid (Below (w.heap.size + 1) (w.alloc (.cells #[.int .u8 k0, .int .u8 k1, .int .u8 k2, .int .u8 k3, .int .u8 k4, .int .u8 k5, .int .u8 k6, .int .u8 k7] 46)) (((w.alloc (.cells #[.int .u8 k0, .int .u8 k1, .int .u8 k2, .int .u8 k3, .int .u8 k4, .int .u8 k5, .int .u8 k6, .int .u8 k7] 46)).alloc (.cells (u8s [0, 0, 0, 0, 0, 0, 0, 0]).toArray 46)).drew)) := by
  have h := ((Below.refl (w.alloc (.cells #[.int .u8 k0, .int .u8 k1, .int .u8 k2, .int .u8 k3, .int .u8 k4, .int .u8 k5, .int .u8 k6, .int .u8 k7] 46)).heap.size _).alloc (Nat.le_refl _) (.cells (u8s [0, 0, 0, 0, 0, 0, 0, 0]).toArray 46)).drew
  rw [World.size_alloc] at h
  exact h
 have HW : Hid (Below w.heap.size w (w.alloc (.cells #[.int .u8 k0, .int .u8 k1, .int .u8 k2, .int .u8 k3, .int .u8 k4, .int .u8 k5, .int .u8 k6, .int .u8 k7] 46))) := (Below.refl _ _).alloc (Nat.le_refl _) _
 have T8 : Hid (tl.length = 8) := htl8
 clear htl8
 go_region_law (refine step_copy_splice rfl (.tmp 10) (.tmp 13) 48 48 rfl 5 Tryz.underlying48 (by kernel_rfl) (some ⟨w.heap.size + 1, 0, none⟩) (some ⟨b, off + m, none⟩) 8 8 8 (c - m) (by simp [Act.eval, Act.put]) (by simp [Act.eval, Act.put]) (w.heap.size + 1) 0 (u8s [0, 0, 0, 0, 0, 0, 0, 0]) 46 HF.out (byts tl) (by simp [byts, T8.out]) (fun _ => ⟨rfl, _, rfl, fun j v hv => hsrc.out j v hv _ (HW.out.trans (HB0.out.mono (Nat.le_succ _)))⟩) (by simp [byts, u8s, T8.out]) (by simp [byts, Value.oneCell']) (w.heap.size + 1) (w.alloc (.cells #[.int .u8 k0, .int .u8 k1, .int .u8 k2, .int .u8 k3, .int .u8 k4, .int .u8 k5, .int .u8 k6, .int .u8 k7] 46)) HB0.out (Nat.le_refl _) ?_; intro w1 hg1 hb1)
 obtain ⟨t0, t1, t2, t3, t4, t5, t6, t7, rfl⟩ : ∃ t0 t1 t2 t3 t4 t5 t6 t7, tl = [t0, t1, t2, t3, t4, t5, t6, t7] := by
  have := T8.out
  match tl, this with
  | [a, b, c, d, e, f, g, h], _ => exact ⟨a, b, c, d, e, f, g, h, rfl⟩
 obtain ⟨s0, hs0⟩ : ∃ s0, s0 = (t0.toNat : Int) := ⟨_, rfl⟩
 obtain ⟨s1, hs1⟩ : ∃ s1, s1 = (t1.toNat : Int) := ⟨_, rfl⟩
 obtain ⟨s2, hs2⟩ : ∃ s2, s2 = (t2.toNat : Int) := ⟨_, rfl⟩
 obtain ⟨s3, hs3⟩ : ∃ s3, s3 = (t3.toNat : Int) := ⟨_, rfl⟩
 obtain ⟨s4, hs4⟩ : ∃ s4, s4 = (t4.toNat : Int) := ⟨_, rfl⟩
 obtain ⟨s5, hs5⟩ : ∃ s5, s5 = (t5.toNat : Int) := ⟨_, rfl⟩
 obtain ⟨s6, hs6⟩ : ∃ s6, s6 = (t6.toNat : Int) := ⟨_, rfl⟩
 obtain ⟨s7, hs7⟩ : ∃ s7, s7 = (t7.toNat : Int) := ⟨_, rfl⟩
 have hrowS : Row w1 (w.heap.size + 1) 46 (u8s [s0, s1, s2, s3, s4, s5, s6, s7]) := by
  have h := hg1.out
  rw [show splice (u8s [0, 0, 0, 0, 0, 0, 0, 0]) 0 (byts [t0, t1, t2, t3, t4, t5, t6, t7]) = u8s [s0, s1, s2, s3, s4, s5, s6, s7] by rw [hs0, hs1, hs2, hs3, hs4, hs5, hs6, hs7]; rfl] at h
  exact h
 have hrowK : Row w1 w.heap.size 46 (u8s [k0, k1, k2, k3, k4, k5, k6, k7]) := ((Row.new w 46 (u8s [k0, k1, k2, k3, k4, k5, k6, k7])).below hb1 (by omega))
 have hbw : Below w.heap.size w w1 := HW.out.trans (hb1.mono (by omega))
 have hRd : Rd w1 (some ⟨b, off, none⟩) (byts (bs.take m)) := hA2.out.below hbw
 have hsz : w.heap.size + 1 < w1.heap.size := hrowS.lt
 have hnat : natsI [t0, t1, t2, t3, t4, t5, t6, t7] = [s0, s1, s2, s3, s4, s5, s6, s7] := by rw [hs0, hs1, hs2, hs3, hs4, hs5, hs6, hs7]; rfl
 obtain ⟨l, hl⟩ : ∃ l, l = sealL [k0, k1, k2, k3, k4, k5, k6, k7] (bs.take m) := ⟨_, rfl⟩
 have hll : l.length = 8 := by rw [hl]; simp [sealL, sealGo_length]
 have hB2 : Hid (sealedB [k0, k1, k2, k3, k4, k5, k6, k7] bs = ([s0, s1, s2, s3, s4, s5, s6, s7] == l)) := by unfold Hid; rw [hB.out, hnat, hl]
 have heq : ∀ W, (binOp .eql 46 (.agg #[.int .u8 s0, .int .u8 s1, .int .u8 s2, .int .u8 s3, .int .u8 s4, .int .u8 s5, .int .u8 s6, .int .u8 s7]) (.agg (u8s l).toArray)).run Tryz.prog W = .ok (.bool ([s0, s1, s2, s3, s4, s5, s6, s7] == l)) W := fun W => eqKey [s0, s1, s2, s3, s4, s5, s6, s7] l rfl hll W
 have hmt : Hid (m = (bs.take m).length) := by unfold Hid; have := Hlen.out; simp; omega
 have hmm : Hid ((bs.take m).length ≤ 9223372036854775807) := by unfold Hid; rw [← hmt.out]; omega
 have S0 : w1.cell? ⟨w.heap.size, 0, none⟩ = some (.int .u8 k0) ∧ w1.cell? ⟨w.heap.size, 1, none⟩ = some (.int .u8 k1) ∧ w1.cell? ⟨w.heap.size, 2, none⟩ = some (.int .u8 k2) ∧ w1.cell? ⟨w.heap.size, 3, none⟩ = some (.int .u8 k3) ∧ w1.cell? ⟨w.heap.size, 4, none⟩ = some (.int .u8 k4) ∧ w1.cell? ⟨w.heap.size, 5, none⟩ = some (.int .u8 k5) ∧ w1.cell? ⟨w.heap.size, 6, none⟩ = some (.int .u8 k6) ∧ w1.cell? ⟨w.heap.size, 7, none⟩ = some (.int .u8 k7) ∧ w1.cell? ⟨w.heap.size + 1, 0, none⟩ = some (.int .u8 s0) ∧ w1.cell? ⟨w.heap.size + 1, 1, none⟩ = some (.int .u8 s1) ∧ w1.cell? ⟨w.heap.size + 1, 2, none⟩ = some (.int .u8 s2) ∧ w1.cell? ⟨w.heap.size + 1, 3, none⟩ = some (.int .u8 s3) ∧ w1.cell? ⟨w.heap.size + 1, 4, none⟩ = some (.int .u8 s4) ∧ w1.cell? ⟨w.heap.size + 1, 5, none⟩ = some (.int .u8 s5) ∧ w1.cell? ⟨w.heap.size + 1, 6, none⟩ = some (.int .u8 s6) ∧ w1.cell? ⟨w.heap.size + 1, 7, none⟩ = some (.int .u8 s7) ∧ Below w1.heap.size w1 w1 :=
  ⟨by rw [hrowK.cell]; rfl, by rw [hrowK.cell]; rfl, by rw [hrowK.cell]; rfl, by rw [hrowK.cell]; rfl, by rw [hrowK.cell]; rfl, by rw [hrowK.cell]; rfl, by rw [hrowK.cell]; rfl, by rw [hrowK.cell]; rfl, by rw [hrowS.cell]; rfl, by rw [hrowS.cell]; rfl, by rw [hrowS.cell]; rfl, by rw [hrowS.cell]; rfl, by rw [hrowS.cell]; rfl, by rw [hrowS.cell]; rfl, by rw [hrowS.cell]; rfl, by rw [hrowS.cell]; rfl, Below.refl _ _⟩
 have HS0 := Lib.hid S0; have HRd := Lib.hid hRd; have Hbw := Lib.hid hbw; have Hl := Lib.hid hl
 have Hsz := Lib.hid hsz
 obtain ⟨bv, hbv⟩ : ∃ bv, bv = ([s0, s1, s2, s3, s4, s5, s6, s7] == l) := ⟨_, rfl⟩
 rw [← hbv] at heq hB2
 clear hs0 hs1 hs2 hs3 hs4 hs5 hs6 hs7 hrowS hrowK hbw hRd hsz hnat hl hll hB hsrc HF HB0 HK hb1 hg1 T8 hm hc hbv S0
 go_wp2
 go_region_held3 (fun w' => w'.cell? ⟨w.heap.size, 0, none⟩ = some (.int .u8 k0) ∧ w'.cell? ⟨w.heap.size, 1, none⟩ = some (.int .u8 k1) ∧ w'.cell? ⟨w.heap.size, 2, none⟩ = some (.int .u8 k2) ∧ w'.cell? ⟨w.heap.size, 3, none⟩ = some (.int .u8 k3) ∧ w'.cell? ⟨w.heap.size, 4, none⟩ = some (.int .u8 k4) ∧ w'.cell? ⟨w.heap.size, 5, none⟩ = some (.int .u8 k5) ∧ w'.cell? ⟨w.heap.size, 6, none⟩ = some (.int .u8 k6) ∧ w'.cell? ⟨w.heap.size, 7, none⟩ = some (.int .u8 k7) ∧ w'.cell? ⟨w.heap.size + 1, 0, none⟩ = some (.int .u8 s0) ∧ w'.cell? ⟨w.heap.size + 1, 1, none⟩ = some (.int .u8 s1) ∧ w'.cell? ⟨w.heap.size + 1, 2, none⟩ = some (.int .u8 s2) ∧ w'.cell? ⟨w.heap.size + 1, 3, none⟩ = some (.int .u8 s3) ∧ w'.cell? ⟨w.heap.size + 1, 4, none⟩ = some (.int .u8 s4) ∧ w'.cell? ⟨w.heap.size + 1, 5, none⟩ = some (.int .u8 s5) ∧ w'.cell? ⟨w.heap.size + 1, 6, none⟩ = some (.int .u8 s6) ∧ w'.cell? ⟨w.heap.size + 1, 7, none⟩ = some (.int .u8 s7) ∧ Below w1.heap.size w1 w') (first | assumption | exact keepIs HS0.out (Below.drew (Below.refl _ _)) | exact keepIs (by assumption) (Below.drew (Below.refl _ _)) | exact keepIs (by assumption) (below_drewN (Below.refl _ _) _) | exact keepIs (by assumption) (by assumption) | exact keepIs (by assumption) ((Below.refl _ _).alloc (Nat.le_refl _) _))
  (first | (go_at_call 69; refine (sealed_any k0 k1 k2 k3 k4 k5 k6 k7 (some ⟨b, off, none⟩) m c (bs.take m) _ (HRd.out.below ?_) hmt.out hmm.out hk.out).mono ?_; (exact lastIs (by assumption)); (rintro e w2 ⟨rfl, hb2⟩; rw [keyV, ← Hl.out])))
 all_goals go_wp2
 all_goals go_ret
 all_goals exact ⟨ret_bool hB2.out.symm, Hbw.out.trans ((lastIs (by assumption)).mono (by have := Hsz.out; omega))⟩
def plV (p : PkT) : List Value := pkV p ++ [.int .i64 (8 * p.2.1)]
def plC (l : List PkT) : List Value := l.flatMap plV
theorem plV_length {p : PkT} (h : p.2.2.2.length = 8) : (plV p).length = 12 := by simp [plV, pkV_length h]
set_option maxRecDepth 100000 in
set_option maxHeartbeats 400000 in
theorem placed1_any (st ct ln : Int) (x0 x1 x2 x3 x4 x5 x6 x7 : Nat) (w : World) (hct : 0 ≤ ct ∧ ct ≤ 65535) : Calls Tryz.prog 80 #[.agg #[.int .i64 st, .int .i64 ct, .int .i64 ln, .float .f32 x0, .float .f32 x1, .float .f32 x2, .float .f32 x3, .float .f32 x4, .float .f32 x5, .float .f32 x6, .float .f32 x7]] w fun e w' => e = .returned (.agg #[.int .i64 st, .int .i64 ct, .int .i64 ln, .float .f32 x0, .float .f32 x1, .float .f32 x2, .float .f32 x3, .float .f32 x4, .float .f32 x5, .float .f32 x6, .float .f32 x7, .int .i64 (8 * ct)]) ∧ Below w.heap.size w w' := by
 have e1 : IntKind.i64.wrap (8 * ct) = 8 * ct := IntWalk.i64_in _ (by omega)
 have e2 : wrap64 (8 * ct) = 8 * ct := by unfold wrap64; omega
 go_enter Tryz.func80, Tryz.ntmps80
 go_wp2
 exact bodyPost_ret (v := .agg #[.int .i64 st, .int .i64 ct, .int .i64 ln, .float .f32 x0, .float .f32 x1, .float .f32 x2, .float .f32 x3, .float .f32 x4, .float .f32 x5, .float .f32 x6, .float .f32 x7, .int .i64 (8 * ct)]) (by simp [results, Tryz.results80, go_sem]) rfl ⟨rfl, by repeat (first | exact Below.refl _ _ | refine Below.setCell ?_ (by simp) _ | refine Below.alloc ?_ (by simp) _)⟩
theorem makeS {P : Program} (t e : TypeId) (z : Value) (zs : Array Value) (bytes : Nat) (ht : P.underlying t = some (.slice e)) (hinfo : (P.info? e).map (fun i => (i.zero, i.size, i.bytes)) = some (some z, zs.size, bytes)) (hz : z.cells = zs)
 (n : Nat) (hn : bytes * n ≤ 281474976710656) (h63 : n ≤ 9223372036854775807) (w : World) :
 (Instr.makeSlice t (.int .i64 (n : Int)) (.int .i64 (n : Int))).run P w = .ok (.slice (some ⟨w.heap.size, 0, none⟩) n n) (w.alloc (.cells (madeCells zs (n * zs.size)) e)) := by
 obtain ⟨i, hi, h1, h2, h3⟩ := info_parts hinfo
 have hb : (i.bytes : Int) * (n : Int) ≤ 281474976710656 := by
  rw [h3]
  have h : ((bytes * n : Nat) : Int) ≤ 281474976710656 := by omega
  rwa [Int.natCast_mul] at h
 have h := run_make w t e i z ht hi h1 .i64 .i64 n n (by omega) (by omega) hb (by omega)
 rw [Int.toNat_natCast, h2, hz] at h
 exact h
def setsFrom (L : List Value) (o : Nat) : List Value → List Value
 | [] => L
 | v :: vs => setsFrom (L.set o v) (o + 1) vs
theorem setsFrom_eq (vs : List Value) : ∀ (X R : List Value), vs.length ≤ R.length → setsFrom (X ++ R) X.length vs = X ++ vs ++ R.drop vs.length := by
 induction vs with
 | nil => intro X R _; simp [setsFrom]
 | cons v vs ih =>
   intro X R h
   match R, h with
   | r :: R, h =>
     rw [setsFrom, List.set_append_right _ _ (Nat.le_refl _), Nat.sub_self, List.set_cons_zero]
     have h2 := ih (X ++ [v]) R (by simpa using h)
     rw [List.length_append, List.length_singleton, List.append_assoc, List.singleton_append] at h2
     rw [h2]; simp
theorem setsBlock (X M vs : List Value) (k s : Nat) (hs : vs.length = s) (hX : X.length = k * s) (hM : (k + 1) * s ≤ M.length) : setsFrom (X ++ M.drop (k * s)) (k * s) vs = X ++ vs ++ M.drop ((k + 1) * s) := by
 have h := setsFrom_eq vs X (M.drop (k * s)) (by rw [List.length_drop, hs]; rw [Nat.succ_mul] at hM; omega)
 rw [hX] at h
 rw [h, List.drop_drop, hs, Nat.succ_mul]
theorem info182 : (Tryz.prog.info? 164).map (fun i => (i.zero, i.size, i.bytes)) = some (some (.agg #[.int .i64 0, .int .i64 0, .int .i64 0, .float .f32 0, .float .f32 0, .float .f32 0, .float .f32 0, .float .f32 0, .float .f32 0, .float .f32 0, .float .f32 0, .int .i64 0]), 12, 64) := by kernel_rfl
set_option maxRecDepth 100000 in
set_option maxHeartbeats 1000000 in
theorem mappedPl_any (A : Option Addr) (n c : Nat) (ps : List PkT) (w : World) (hA : Rd w A (pksC ps)) (h8 : pks8 ps) (hct : ∀ p ∈ ps, 0 ≤ p.2.1 ∧ p.2.1 ≤ 65535) (hn : n = ps.length) (hm : ps.length ≤ 1024) :
 Calls Tryz.prog 79 #[.slice A n c, .func (.func 80) #[] #[]] w fun e w' => ∃ g, e = .returned (.slice (some ⟨g, 0, none⟩) n n) ∧ Row w' g 164 (plC ps) ∧ w.heap.size ≤ g ∧ Below w.heap.size w w' := by
 subst hn
 have hmk0 := fun W : World => makeS (P := Tryz.prog) 161 164 (.agg #[.int .i64 0, .int .i64 0, .int .i64 0, .float .f32 0, .float .f32 0, .float .f32 0, .float .f32 0, .float .f32 0, .float .f32 0, .float .f32 0, .float .f32 0, .int .i64 0]) #[.int .i64 0, .int .i64 0, .int .i64 0, .float .f32 0, .float .f32 0, .float .f32 0, .float .f32 0, .float .f32 0, .float .f32 0, .float .f32 0, .float .f32 0, .int .i64 0] 64 Tryz.underlying161 info182 rfl ps.length (by omega) (by omega) W
 have hmk : ∀ W : World, (Instr.makeSlice 161 (.int .i64 (ps.length : Int)) (.int .i64 (ps.length : Int))).run Tryz.prog W = .ok (.slice (some ⟨W.heap.size, 0, none⟩) ps.length ps.length) (W.alloc (.cells (madeCells #[.int .i64 0, .int .i64 0, .int .i64 0, .float .f32 0, .float .f32 0, .float .f32 0, .float .f32 0, .float .f32 0, .float .f32 0, .float .f32 0, .float .f32 0, .int .i64 0] (ps.length * 12)) 164)) := hmk0
 clear hmk0
 have hMl : (madeCells #[.int .i64 0, .int .i64 0, .int .i64 0, .float .f32 0, .float .f32 0, .float .f32 0, .float .f32 0, .float .f32 0, .float .f32 0, .float .f32 0, .float .f32 0, .int .i64 0] (ps.length * 12)).toList.length = ps.length * 12 := by simp [size_madeCells]
 obtain ⟨M, hM⟩ : ∃ M : List Value, (madeCells #[.int .i64 0, .int .i64 0, .int .i64 0, .float .f32 0, .float .f32 0, .float .f32 0, .float .f32 0, .float .f32 0, .float .f32 0, .float .f32 0, .float .f32 0, .int .i64 0] (ps.length * 12)) = M.toArray := ⟨_, (Array.toArray_toList ..).symm⟩
 rw [hM] at hmk hMl
 have HMl : Hid (M.length = ps.length * 12) := by unfold Hid; simpa using hMl
 have HA := Lib.hid hA; have H8 := Lib.hid h8; have HCT := Lib.hid hct
 clear hM hMl hA h8 hct
 go_enter Tryz.func79, Tryz.ntmps79
 go_wp2
 go_loopw [13] (fun i wr => ∃ k : Nat, k ≤ ps.length ∧ i = .int .i64 k ∧ Hid (Row wr w.heap.size 164 (plC (ps.take k) ++ M.drop (k * 12))) ∧ Hid (Below w.heap.size w wr)) (fun i _ => ps.length - (intOf i).toNat)
 case atStart => exact ⟨0, Nat.zero_le _, rfl, by have := Row.new w 164 M; show Row _ _ _ _; simpa [plC] using this, (Below.refl _ _).alloc (Nat.le_refl _) _⟩
 case round =>
  obtain ⟨k, hk, rfl, Hrow, Hb⟩ := hrel
  by_cases hlt : k < ps.length
  · obtain ⟨b, off, hAb, hc⟩ := Rd.flat (HA.out.below Hb.out) (fun p hp => pkV_length (H8.out p hp)) (by decide) hlt
    subst hAb
    obtain ⟨st, ct, ln, x0, x1, x2, x3, x4, x5, x6, x7, hp⟩ := pk_form (H8.out _ (List.getElem_mem hlt))
    have hct := HCT.out _ (List.getElem_mem hlt)
    rw [hp] at hc hct
    have c0 := hc 0 _ rfl
    have c1 := hc 1 _ rfl
    have c2 := hc 2 _ rfl
    have c3 := hc 3 _ rfl
    have c4 := hc 4 _ rfl
    have c5 := hc 5 _ rfl
    have c6 := hc 6 _ rfl
    have c7 := hc 7 _ rfl
    have c8 := hc 8 _ rfl
    have c9 := hc 9 _ rfl
    have c10 := hc 10 _ rfl
    rw [Nat.add_zero] at c0
    have hct : 0 ≤ ct ∧ ct ≤ 65535 := hct
    have hX : (plC (ps.take k)).length = k * 12 := by
     rw [plC, flat_length plV 12 _ (fun p hp => plV_length (H8.out p (List.mem_of_mem_take hp))), List.length_take, Nat.min_eq_left hk]
    have hset := setsBlock (plC (ps.take k)) M [.int .i64 st, .int .i64 ct, .int .i64 ln, .float .f32 x0, .float .f32 x1, .float .f32 x2, .float .f32 x3, .float .f32 x4, .float .f32 x5, .float .f32 x6, .float .f32 x7, .int .i64 (8 * ct)] k 12 rfl hX (by rw [HMl.out]; exact Nat.mul_le_mul_right _ hlt)
    have htk : plC (ps.take (k + 1)) = plC (ps.take k) ++ [.int .i64 st, .int .i64 ct, .int .i64 ln, .float .f32 x0, .float .f32 x1, .float .f32 x2, .float .f32 x3, .float .f32 x4, .float .f32 x5, .float .f32 x6, .float .f32 x7, .int .i64 (8 * ct)] := by
     rw [List.take_succ_eq_append_getElem hlt]
     simp [plC, hp, plV, pkV, pkC, flts]
    rw [← htk] at hset
    have Hset := Lib.hid hset
    have HX := Lib.hid hX
    have HCt := Lib.hid hct
    clear hset htk hc hp hX hct
    go_wp2_with fail
    refine (placed1_any st ct ln x0 x1 x2 x3 x4 x5 x6 x7 _ HCt.out).mono ?_
    rintro e w1 ⟨rfl, hb1⟩
    have Hb1 : Hid (Below w.heap.size w w1) := (Hb.out.alloc Hb.out.size _).trans (hb1.mono (by have := Hb.out.size; simp; omega))
    have Hrow1 := Lib.hid ((Hrow.out.alloc _).old hb1)
    have hl1 : (k + 1) * 12 ≤ (plC (ps.take k) ++ M.drop (k * 12)).length := by rw [List.length_append, HX.out, List.length_drop, HMl.out]; omega
    obtain ⟨v0, hv0⟩ : ∃ v, w1.cell? ⟨w.heap.size, k * 12, none⟩ = some v := ⟨_, Hrow1.out.cellAt (by omega)⟩
    have hf0 := Hrow1.out.free (k * 12)
    obtain ⟨v1, hv1⟩ : ∃ v, w1.cell? ⟨w.heap.size, k * 12 + 1, none⟩ = some v := ⟨_, Hrow1.out.cellAt (by omega)⟩
    have hf1 := Hrow1.out.free (k * 12 + 1)
    obtain ⟨v2, hv2⟩ : ∃ v, w1.cell? ⟨w.heap.size, k * 12 + 2, none⟩ = some v := ⟨_, Hrow1.out.cellAt (by omega)⟩
    have hf2 := Hrow1.out.free (k * 12 + 2)
    obtain ⟨v3, hv3⟩ : ∃ v, w1.cell? ⟨w.heap.size, k * 12 + 3, none⟩ = some v := ⟨_, Hrow1.out.cellAt (by omega)⟩
    have hf3 := Hrow1.out.free (k * 12 + 3)
    obtain ⟨v4, hv4⟩ : ∃ v, w1.cell? ⟨w.heap.size, k * 12 + 4, none⟩ = some v := ⟨_, Hrow1.out.cellAt (by omega)⟩
    have hf4 := Hrow1.out.free (k * 12 + 4)
    obtain ⟨v5, hv5⟩ : ∃ v, w1.cell? ⟨w.heap.size, k * 12 + 5, none⟩ = some v := ⟨_, Hrow1.out.cellAt (by omega)⟩
    have hf5 := Hrow1.out.free (k * 12 + 5)
    obtain ⟨v6, hv6⟩ : ∃ v, w1.cell? ⟨w.heap.size, k * 12 + 6, none⟩ = some v := ⟨_, Hrow1.out.cellAt (by omega)⟩
    have hf6 := Hrow1.out.free (k * 12 + 6)
    obtain ⟨v7, hv7⟩ : ∃ v, w1.cell? ⟨w.heap.size, k * 12 + 7, none⟩ = some v := ⟨_, Hrow1.out.cellAt (by omega)⟩
    have hf7 := Hrow1.out.free (k * 12 + 7)
    obtain ⟨v8, hv8⟩ : ∃ v, w1.cell? ⟨w.heap.size, k * 12 + 8, none⟩ = some v := ⟨_, Hrow1.out.cellAt (by omega)⟩
    have hf8 := Hrow1.out.free (k * 12 + 8)
    obtain ⟨v9, hv9⟩ : ∃ v, w1.cell? ⟨w.heap.size, k * 12 + 9, none⟩ = some v := ⟨_, Hrow1.out.cellAt (by omega)⟩
    have hf9 := Hrow1.out.free (k * 12 + 9)
    obtain ⟨v10, hv10⟩ : ∃ v, w1.cell? ⟨w.heap.size, k * 12 + 10, none⟩ = some v := ⟨_, Hrow1.out.cellAt (by omega)⟩
    have hf10 := Hrow1.out.free (k * 12 + 10)
    obtain ⟨v11, hv11⟩ : ∃ v, w1.cell? ⟨w.heap.size, k * 12 + 11, none⟩ = some v := ⟨_, Hrow1.out.cellAt (by omega)⟩
    have hf11 := Hrow1.out.free (k * 12 + 11)
    clear hb1 hl1
    go_wp2
    go_roundw
    case rel => exact ⟨k + 1, by omega, by go_num, by show Row _ _ _ _; rw [← Hset.out]; exact ((((((((((((Hrow1.out.set (k * 12) _).set (k * 12 + 1) _).set (k * 12 + 2) _).set (k * 12 + 3) _).set (k * 12 + 4) _).set (k * 12 + 5) _).set (k * 12 + 6) _).set (k * 12 + 7) _).set (k * 12 + 8) _).set (k * 12 + 9) _).set (k * 12 + 10) _).set (k * 12 + 11) _), ((((((((((((Hb1.out.setCell (by simp) _).setCell (by simp) _).setCell (by simp) _).setCell (by simp) _).setCell (by simp) _).setCell (by simp) _).setCell (by simp) _).setCell (by simp) _).setCell (by simp) _).setCell (by simp) _).setCell (by simp) _).setCell (by simp) _)⟩
    case measure => simp [intOf]; omega
  · obtain rfl : k = ps.length := by omega
    go_wp2
    go_ret
    exact ⟨_, rfl, by have h := Hrow.out; rw [List.take_of_length_le (Nat.le_refl _), List.drop_of_length_le (by rw [HMl.out]; omega), List.append_nil] at h; exact h, Nat.le_refl _, Hb.out⟩
end Go.Proofs.YtjdniebjhilooaaGreatDoor
