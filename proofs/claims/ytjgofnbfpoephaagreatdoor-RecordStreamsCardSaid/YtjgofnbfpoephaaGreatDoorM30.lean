/- Contracts: the difference of two lists of numbers. -/
import Derived.Test.YtjgofnbfpoephaaGreatDoorM28
import Derived.Test.YtjgofnbfpoephaaGreatDoorM04
import Derived.Test.YtjgofnbfpoephaaGreatDoorM07
namespace Go.Proofs.YtjgofnbfpoephaaGreatDoor
set_option linter.all false
open Go.RowKit Go.Fl
set_option linter.unusedVariables false
set_option linter.unusedSimpArgs false

/-- the sum of the absolute differences -/
def absSum : List Int → List Int → Int
  | x :: xs, y :: ys => max (x - y) (y - x) + absSum xs ys
  | _, _ => 0
theorem absSum_take (xs ys : List Int) (k : Nat) (hx : k < xs.length) (hy : k < ys.length) : absSum (xs.take (k + 1)) (ys.take (k + 1)) = absSum (xs.take k) (ys.take k) + max (xs[k] - ys[k]) (ys[k] - xs[k]) := by
  induction xs generalizing ys k with
  | nil => simp at hx
  | cons x xs ih => cases ys with
    | nil => simp at hy
    | cons y ys =>
      cases k with
      | zero => simp [absSum]
      | succ k =>
        have := ih ys k (by simpa using hx) (by simpa using hy)
        simp only [List.take_succ_cons, absSum, List.getElem_cons_succ] at this ⊢
        omega
theorem absSum_bd (xs ys : List Int) (hx : ∀ x ∈ xs, x.natAbs ≤ 65536) (hy : ∀ y ∈ ys, y.natAbs ≤ 65536) : 0 ≤ absSum xs ys ∧ absSum xs ys ≤ 131072 * xs.length := by
  induction xs generalizing ys with
  | nil => cases ys <;> simp [absSum]
  | cons x xs ih => cases ys with
    | nil => simp [absSum]; omega
    | cons y ys =>
      have h1 := ih ys (fun x h => hx x (List.mem_cons_of_mem _ h)) (fun y h => hy y (List.mem_cons_of_mem _ h))
      have h2 := hx x (List.mem_cons_self ..)
      have h3 := hy y (List.mem_cons_self ..)
      simp only [absSum, List.length_cons]
      omega
def difN (xs ys : List Int) : Int := (absSum xs ys).tdiv (gcdI (absSum xs ys) xs.length)
def difD (xs ys : List Int) : Int := (xs.length : Int) / gcdI (absSum xs ys) xs.length

set_option maxRecDepth 100000 in
set_option maxHeartbeats 300000 in
theorem difference_any (A B : Option Addr) (c d : Nat) (xs ys : List Int) (n : Nat) (w : World) (hA : Rd w A (ints xs)) (hB : Rd w B (ints ys)) (hn : n = xs.length) (hl : ys.length = xs.length) (h0 : 0 < xs.length) (h1 : xs.length ≤ 4096) (hx : ∀ x ∈ xs, x.natAbs ≤ 65536) (hy : ∀ y ∈ ys, y.natAbs ≤ 65536) :
    Calls Tryz.prog 129 #[.slice A n c, .slice B n d] w fun e w' => e = .returned (.agg #[.int .i64 (difN xs ys), .int .i64 (difD xs ys)]) ∧ Below w.heap.size w w' := by
  subst hn
  have HL := Lib.hid hl; have HX := Lib.hid hx; have HY := Lib.hid hy
  have HA : Hid (∀ W, Below w.heap.size w W → Rd W A (ints xs)) := fun W h => hA.below h
  have HB : Hid (∀ W, Below w.heap.size w W → Rd W B (ints ys)) := fun W h => hB.below h
  clear hl hx hy hA hB
  go_enter Tryz.func129, Tryz.ntmps129
  go_upto_region 1 with fail
  refine genF w.heap.size 24 [.int .i64 0, .int .i64 0] (Row.new w 24 [.int .i64 0, .int .i64 0]) ((Below.refl w.heap.size w).alloc (Nat.le_refl _) _) ?_
  intro W R0 RB
  have HR := Lib.hid R0; have HRB := Lib.hid RB
  clear R0 RB
  go_wp2
  go_loopw [5, 9] (fun s i wr => ∃ k : Nat, k ≤ xs.length ∧ i = .int .i64 k ∧ s = .int .i64 (absSum (xs.take k) (ys.take k)) ∧ ∃ q, wr = W.drewN q) (fun _ i _ => xs.length - (intOf i).toNat)
  case atStart => exact ⟨0, Nat.zero_le _, rfl, by simp [absSum], 0, rfl⟩
  case round =>
    obtain ⟨k, hk, rfl, rfl, q, rfl⟩ := hrel
    by_cases hlt : k < xs.length
    · have hlt2 : k < ys.length := by rw [HL.out]; exact hlt
      obtain ⟨b, off, hAb, hc1⟩ := Rd.int (HA.out _ HRB.out) hlt
      obtain ⟨b', off', hBb, hc2⟩ := Rd.int (HB.out _ HRB.out) hlt2
      subst hAb; subst hBb
      have hs := absSum_take xs ys k hlt hlt2
      have hb := absSum_bd (xs.take k) (ys.take k) (fun x h => HX.out x (List.mem_of_mem_take h)) (fun x h => HY.out x (List.mem_of_mem_take h))
      rw [List.length_take] at hb
      have hx1 := HX.out _ (List.getElem_mem hlt)
      have hy1 := HY.out _ (List.getElem_mem hlt2)
      obtain ⟨x, hxx⟩ : ∃ x, x = xs[k] := ⟨_, rfl⟩
      obtain ⟨y, hyy⟩ : ∃ y, y = ys[k] := ⟨_, rfl⟩
      obtain ⟨sm, hsm⟩ : ∃ sm, sm = absSum (xs.take k) (ys.take k) := ⟨_, rfl⟩
      rw [← hxx] at hc1 hs hx1; rw [← hyy] at hc2 hs hy1; rw [← hsm] at hs hb ⊢
      have e1 : IntKind.i64.wrap (x - y) = x - y := IntWalk.i64_in _ (by omega)
      have e2 : IntKind.i64.wrap (y - x) = y - x := IntWalk.i64_in _ (by omega)
      have e3 : wrap64 (sm + max (x - y) (y - x)) = sm + max (x - y) (y - x) := by unfold wrap64; omega
      have e4 : (if x - y < y - x then y - x else x - y) = max (x - y) (y - x) := by rw [Int.max_def]; split <;> split <;> omega
      have E3 := Lib.hid e3; have E4 := Lib.hid e4
      clear e3 e4
      have i1 : (k : Int) < (xs.length : Int) := by omega
      have i2 : (k : Int) < (ys.length : Int) := by omega
      have Hs := Lib.hid hs
      clear hs hb hx1 hy1 hxx hyy hsm
      go_wp2
      go_quiet (fail)
      go_wp2
      go_roundw
      case rel => exact ⟨k + 1, by omega, by go_num, by first | (rw [Hs.out, E4.out]; exact congrArg _ E3.out) | (rw [Hs.out]; exact congrArg _ E3.out), _, rfl⟩
      case measure => simp [intOf]; omega
    · obtain rfl : k = xs.length := by omega
      have hb := absSum_bd xs ys HX.out HY.out
      have hs : absSum (xs.take xs.length) (ys.take xs.length) = absSum xs ys := by rw [List.take_length, ← HL.out, List.take_length]
      rw [hs]
      obtain ⟨sm, hsm⟩ : ∃ sm, sm = absSum xs ys := ⟨_, rfl⟩
      rw [← hsm] at hb ⊢
      have Hsm := Lib.hid hsm
      clear hs hsm
      have Hbd : Hid (Bd sm ∧ 0 < (xs.length : Int) ∧ (xs.length : Int) ≤ 9223372036854775807) := by unfold Hid Bd; omega
      have hdn : difN xs ys = sm.tdiv (gcdI sm xs.length) := by rw [difN, Hsm.out]
      have hdd : difD xs ys = (xs.length : Int) / gcdI sm xs.length := by rw [difD, Hsm.out]
      obtain ⟨dn, hdn2⟩ : ∃ dn, dn = sm.tdiv (gcdI sm xs.length) := ⟨_, rfl⟩
      obtain ⟨dd, hdd2⟩ : ∃ dd, dd = (xs.length : Int) / gcdI sm xs.length := ⟨_, rfl⟩
      have HC : Hid (∀ W, Calls Tryz.prog 178 #[.int .i64 sm, .int .i64 (xs.length : Int)] W fun e w' => e = .returned (.agg #[.int .i64 dn, .int .i64 dd]) ∧ Below W.heap.size W w') := fun W => by
        have h := ratio_any sm xs.length W Hbd.out.1 Hbd.out.2
        rw [← hdn2, ← hdd2] at h; exact h
      rw [← hdn2] at hdn; rw [← hdd2] at hdd
      have Hdn := Lib.hid hdn; have Hdd := Lib.hid hdd
      clear hdn hdd hdn2 hdd2 hb
      go_wp2_with fail
      refine (HC.out _).mono ?_
      rintro e w2 ⟨rfl, hb2⟩
      have HR2 : Hid (Row w2 w.heap.size 24 [.int .i64 0, .int .i64 0]) := Row.old (w := W.drewN q) HR.out hb2
      have HB2 : Hid (Below w.heap.size w w2) := (below_drewN HRB.out q).trans (hb2.mono HRB.out.size)
      clear hb2
      go_wp2_with (refine wpList_store_row rfl 24 _ _ rfl w.heap.size #[.int .i64 dn, .int .i64 dd] rfl rfl 24 _ HR2.out ?_ ?_ ?_ ?_; (kernel_rfl); (rfl); (simp [Value.oneCell']))
      refine bodyPost_ret (results_row1 rfl _ _ w.heap.size 24 #[.int .i64 dn, .int .i64 dd] (0, 0) _ rfl (HR2.out.setRow [.int .i64 dn, .int .i64 dd]) Tryz.underlying24 rfl (by kernel_rfl)) rfl ⟨by rw [Hdn.out, Hdd.out], ?_⟩
      exact Below.setRow HB2.out (Nat.le_refl _) _
end Go.Proofs.YtjgofnbfpoephaaGreatDoor
