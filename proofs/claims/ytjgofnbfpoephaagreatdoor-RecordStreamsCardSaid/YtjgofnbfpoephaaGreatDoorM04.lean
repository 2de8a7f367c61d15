/- Texts that were made one by one: B Cx Rw St C C4 Sl D E Rt. -/
import Derived.Test.YtjgofnbfpoephaaGreatDoorM01
import Derived.Deep.QuietTactic
import Derived.BigQuiet
import Derived.Test.YtjgofnbfpoephaaGreatDoorM02
import Derived.Laws.ComplexArith
import Derived.Deep.RegionLaw
import Derived.StillTailTactics
import Derived.Deep.RegionHeld3
import Derived.IntWalk
import Derived.Deep.DeepCutAuto
import Derived.Deep.LoopGhost
import Derived.Outline
/- What memory holds, in words of our own; and the contract of First. -/
namespace Go.Proofs.YtjgofnbfpoephaaGreatDoor
set_option linter.all false
open Go.RowKit

/-- From the address on, memory holds these cells (whatever the address, where there are none). -/
def Rd (w : World) (A : Option Addr) (xs : List Value) : Prop := ∀ j v, xs[j]? = some v → ∃ b off, A = some ⟨b, off, none⟩ ∧ w.cell? ⟨b, off + j, none⟩ = some v

theorem Rd.at {w : World} {A : Option Addr} {xs : List Value} (h : Rd w A xs) {j : Nat} (hj : j < xs.length) : ∃ b off, A = some ⟨b, off, none⟩ ∧ w.cell? ⟨b, off + j, none⟩ = some xs[j] :=
  h j _ (List.getElem?_eq_getElem hj)

def ints (zs : List Int) : List Value := zs.map (.int .i64)
theorem Rd.int {w : World} {A : Option Addr} {zs : List Int} (h : Rd w A (ints zs)) {j : Nat} (hj : j < zs.length) : ∃ b off, A = some ⟨b, off, none⟩ ∧ w.cell? ⟨b, off + j, none⟩ = some (.int .i64 (zs[j])) := by
  obtain ⟨b, off, h1, h2⟩ := Rd.at h (j := j) (by simpa [ints] using hj)
  refine ⟨b, off, h1, ?_⟩
  rw [h2]; simp [ints]

def firstI : List Int → Int
  | [] => 0
  | z :: zs => if z = 0 then firstI zs else z
theorem firstI_drop {zs : List Int} {k : Nat} (hk : k < zs.length) : firstI (zs.drop k) = if zs[k] = 0 then firstI (zs.drop (k + 1)) else zs[k] := by
  rw [List.drop_eq_getElem_cons hk, firstI]

set_option maxHeartbeats 400000 in
theorem first_any (A : Option Addr) (n c : Nat) (zs : List Int) (w : World) (h : Rd w A (ints zs)) (hn : n = zs.length) (hm : zs.length ≤ 9223372036854775807) :
    Calls Tryz.prog 46 #[.slice A n c] w fun e w' => e = .returned (.int .i64 (firstI zs)) ∧ w = w' := by
  subst hn
  go_enter Tryz.func46, Tryz.ntmps46
  go_wp2
  go_loop [3] (fun i => ∃ k : Nat, k ≤ zs.length ∧ i = .int .i64 k ∧ Hid (firstI (zs.drop k) = firstI zs)) (fun i => zs.length - (intOf i).toNat)
  case atStart => exact ⟨0, Nat.zero_le _, rfl, rfl⟩
  case round =>
    obtain ⟨k, hk, rfl, H⟩ := hrel
    by_cases hlt : k < zs.length
    · obtain ⟨b, off, rfl, hc⟩ := Rd.int h hlt
      have hd := Lib.hid (firstI_drop hlt)
      by_cases hz : zs[k] = 0
      · rw [hz] at hc
        go_wp2
        go_round
        case rel => exact ⟨k + 1, by omega, by go_num, by show _ = _; rw [← H.out, hd.out, if_pos hz]⟩
        case measure => simp [intOf]; omega
      · have hz' : (zs[k] != 0) = true := by simpa using hz
        have Hz := Lib.hid hz; clear hz
        go_wp2
        go_ret
        exact ⟨ret_int (by rw [← H.out, hd.out, if_neg Hz.out]), rfl⟩
    · go_wp2
      go_ret
      exact ⟨ret_int (by rw [← H.out, List.drop_of_length_le (by omega)]; rfl), rfl⟩
end Go.Proofs.YtjgofnbfpoephaaGreatDoor

/- Complex numbers of the kind complex64 whose parts are sixteenths: sums and products, exact. No program is imported here. -/
namespace Go.Fl
open Ieee
set_option linter.unusedVariables false

theorem signed_prod (s t : Bool) (m p a b : Nat) : signed s m a * signed t p b = signed (s ^^ t) (m * p) (a + b) := by
  rw [signed_eq, signed_eq, signed_eq]
  have : m * p * 2 ^ (a + b) = (m * 2 ^ a) * (p * 2 ^ b) := by rw [Nat.pow_add, Nat.mul_mul_mul_comm]
  rw [this, Int.natCast_mul]
  cases s <;> cases t <;> simp [Int.neg_mul, Int.mul_neg]

/-- a product, exact -/
theorem mulg_val {f : Format} {x y : Nat} {V U n : Int} {j L : Nat} (h : Val f x V) (k : Val f y U) (hL : (L : Int) = -f.leastPlace) (hp : V * U = n * (2 ^ (j + L) : Nat))
    (hn : n.natAbs < 2 ^ (f.fractionBits + 1)) (ho : n.natAbs * 2 ^ j < 2 ^ (f.fractionBits + 2 ^ f.exponentBits - 2)) (he : 3 ≤ 2 ^ f.exponentBits) :
    ∃ r, f.mul x y = some r ∧ Val f r (n * (2 ^ j : Nat)) := by
  obtain ⟨s, m, e, h1, h2, rfl⟩ := h.read
  obtain ⟨t, p, e', k1, k2, rfl⟩ := k.read
  refine ⟨f.write (.number (s ^^ t) (m * p) (e + e')), by unfold Format.mul; rw [h1, k1]; rfl, ?_⟩
  rw [signed_prod] at hp
  have hab := abs_of hp
  refine write_val f _ _ _ n j hn ?_ (sgn_of hp) ho he
  rw [Nat.pow_add 2 j L, ← Nat.mul_assoc] at hab
  by_cases h3 : f.leastPlace ≤ e + e'
  · have e1 : (f.leastPlace - (e + e')).toNat = 0 := by omega
    have e2 : (e - f.leastPlace).toNat + (e' - f.leastPlace).toNat = (e + e' - f.leastPlace).toNat + L := by omega
    rw [e2, Nat.pow_add, ← Nat.mul_assoc] at hab
    rw [e1, Nat.pow_zero, Nat.mul_one]
    exact Nat.eq_of_mul_eq_mul_right (Nat.two_pow_pos L) hab
  · have e1 : (e + e' - f.leastPlace).toNat = 0 := by omega
    have e2 : L = (f.leastPlace - (e + e')).toNat + ((e - f.leastPlace).toNat + (e' - f.leastPlace).toNat) := by omega
    rw [e1, Nat.pow_zero, Nat.mul_one]
    have e3 : (2 : Nat) ^ L = 2 ^ (f.leastPlace - (e + e')).toNat * 2 ^ ((e - f.leastPlace).toNat + (e' - f.leastPlace).toNat) := by rw [← Nat.pow_add]; exact congrArg _ e2
    rw [e3, ← Nat.mul_assoc] at hab
    exact Nat.eq_of_mul_eq_mul_right (Nat.two_pow_pos _) hab

theorem sum_val {f : Format} {A B : Datum} {s t : Bool} {m p : Nat} {e e' : Int} {n : Int} {j : Nat} (h1 : A = .number s m e) (h2 : f.leastPlace ≤ e) (k1 : B = .number t p e') (k2 : f.leastPlace ≤ e')
    (hsum : signed s m (e - f.leastPlace).toNat + signed t p (e' - f.leastPlace).toNat = n * (2 ^ j : Nat))
    (hn : n.natAbs < 2 ^ (f.fractionBits + 1)) (ho : n.natAbs * 2 ^ j < 2 ^ (f.fractionBits + 2 ^ f.exponentBits - 2)) (he : 3 ≤ 2 ^ f.exponentBits) :
    ∃ r, (A.sum B).map f.write = some r ∧ Val f r (n * (2 ^ j : Nat)) := by
  obtain ⟨base, hb⟩ : ∃ base, base = min e e' := ⟨_, rfl⟩
  obtain ⟨q, hq⟩ : ∃ q : Nat, q = (base - f.leastPlace).toNat := ⟨_, rfl⟩
  have a1 : (e - f.leastPlace).toNat = (e - base).toNat + q := by omega
  have a2 : (e' - f.leastPlace).toNat = (e' - base).toNat + q := by omega
  rw [a1, a2, ← signed_mul, ← signed_mul, ← Int.add_mul] at hsum
  obtain ⟨total, ht⟩ : ∃ total, total = signed s m (e - base).toNat + signed t p (e' - base).toNat := ⟨_, rfl⟩
  rw [← ht] at hsum
  refine ⟨f.write (.number (if total = 0 then s && t else total < 0) total.natAbs base), ?_, ?_⟩
  · rw [h1, k1]
    simp only [Datum.sum, Option.map_some]
    rw [← hb, ← ht]
  · have hp : (0 : Int) < (2 ^ q : Nat) := by exact_mod_cast Nat.two_pow_pos q
    have hpj : (0 : Int) < (2 ^ j : Nat) := by exact_mod_cast Nat.two_pow_pos j
    have habs : total.natAbs * 2 ^ q = n.natAbs * 2 ^ j := by
      have := congrArg Int.natAbs hsum
      rwa [Int.natAbs_mul, Int.natAbs_mul, Int.natAbs_natCast, Int.natAbs_natCast] at this
    refine write_val f _ _ _ n j hn ?_ ?_ ho he
    · have : (f.leastPlace - base).toNat = 0 := by omega
      rw [this, Nat.pow_zero, Nat.mul_one, ← hq, habs]
    · by_cases h0 : total = 0
      · have : n = 0 := by
          rw [h0, Int.zero_mul] at hsum
          rcases Int.mul_eq_zero.1 hsum.symm with h | h
          · exact h
          · omega
        subst this; simp
      · rw [if_neg h0]
        by_cases hneg : total < 0
        · rw [decide_eq_true hneg, if_pos rfl]
          have : n < 0 := by
            have h3 : total * (2 ^ q : Nat) < 0 := Int.mul_neg_of_neg_of_pos hneg hp
            rw [hsum] at h3
            by_cases hx : n < 0
            · exact hx
            · have := Int.mul_nonneg (Int.not_lt.1 hx) (Int.le_of_lt hpj); omega
          omega
        · rw [decide_eq_false hneg]
          have : 0 ≤ n := by
            have h3 : 0 ≤ total * (2 ^ q : Nat) := Int.mul_nonneg (by omega) (Int.le_of_lt hp)
            rw [hsum] at h3
            exact Int.nonneg_of_mul_nonneg_left h3 hpj
          simp; omega

/-- a difference, exact -/
theorem sub_val {f : Format} {x y : Nat} {V U n : Int} {j : Nat} (h : Val f x V) (k : Val f y U) (hsum : V - U = n * (2 ^ j : Nat))
    (hn : n.natAbs < 2 ^ (f.fractionBits + 1)) (ho : n.natAbs * 2 ^ j < 2 ^ (f.fractionBits + 2 ^ f.exponentBits - 2)) (he : 3 ≤ 2 ^ f.exponentBits) :
    ∃ r, f.sub x y = some r ∧ Val f r (n * (2 ^ j : Nat)) := by
  obtain ⟨s, m, e, h1, h2, rfl⟩ := h.read
  obtain ⟨t, p, e', k1, k2, rfl⟩ := k.read
  refine sum_val (t := !t) (p := p) (e' := e') h1 h2 (by rw [k1]; rfl) k2 ?_ hn ho he
  rw [← hsum, Int.sub_eq_add_neg]
  congr 1
  rw [signed_eq, signed_eq]; cases t <;> simp

/-- a float64 as a float32, exact -/
theorem narrow {y : Nat} {n : Int} {j : Nat} (h : Val double y (n * (2 ^ j : Nat) * (2 ^ k1 : Nat))) (hn : n.natAbs < 2 ^ 24) (hj : j + 3 ≤ 200) :
    ∃ x, floatToFloatBits .f64 y .f32 = some x ∧ Val single x (n * (2 ^ j : Nat)) := by
  obtain ⟨s, m, e, h1, h2, hV⟩ := h.read
  have l1 : single.leastPlace = -149 := by decide
  have l2 : double.leastPlace = -1074 := by decide
  have hab : m * 2 ^ (e - double.leastPlace).toNat = n.natAbs * 2 ^ (j + k1) := abs_of (s := s) (by rw [← hV, Int.mul_assoc, pw rfl])
  have hsg := sgn_of (s := s) (m := m) (u := (e - double.leastPlace).toNat) (n := n) (j := j + k1) (by rw [← hV, Int.mul_assoc, pw rfl])
  have hval : Val single (single.write (.number s m e)) (n * (2 ^ j : Nat)) := by
    refine write_val single s m e n j hn ?_ hsg (pow_bound hn (by show 24 + j ≤ 23 + 2 ^ 8 - 2; omega)) (by decide)
    rw [Nat.pow_add, ← Nat.mul_assoc] at hab
    by_cases h3 : single.leastPlace ≤ e
    · have e1 : (single.leastPlace - e).toNat = 0 := by omega
      have e2 : (e - double.leastPlace).toNat = (e - single.leastPlace).toNat + k1 := by rw [k1_eq]; omega
      rw [e2, Nat.pow_add, ← Nat.mul_assoc] at hab
      rw [e1, Nat.pow_zero, Nat.mul_one]
      exact Nat.eq_of_mul_eq_mul_right (Nat.two_pow_pos k1) hab
    · have e1 : (e - single.leastPlace).toNat = 0 := by omega
      have e2 : k1 = (single.leastPlace - e).toNat + (e - double.leastPlace).toNat := by rw [k1_eq]; omega
      rw [e1, Nat.pow_zero, Nat.mul_one]
      have e3 : (2 : Nat) ^ k1 = 2 ^ (single.leastPlace - e).toNat * 2 ^ (e - double.leastPlace).toNat := by rw [← Nat.pow_add]; exact congrArg _ e2
      rw [e3, ← Nat.mul_assoc] at hab
      exact Nat.eq_of_mul_eq_mul_right (Nat.two_pow_pos _) hab
  refine ⟨single.write (.number s m e), ?_, hval⟩
  unfold floatToFloatBits
  rw [if_neg (by decide)]
  have hd : FloatKind.f64.decode y = .number s m e := h1
  rw [hd]
  simp only
  obtain ⟨s', v', ⟨m', e', hr, _⟩, _⟩ := hval
  have : (FloatKind.f32.decode (FloatKind.f32.encode (.number s m e))).isInfinity = false := by
    show (single.read (single.write (.number s m e))).isInfinity = false
    rw [hr]; rfl
  rw [this]; rfl

/-- a sample's part: an integer of sixteenths -/
def S (x : Nat) (n : Int) : Prop := Val single x (n * (2 ^ 145 : Nat))
/-- the same as a float64 -/
def D (x : Nat) (n : Int) : Prop := Val double x (n * (2 ^ 145 : Nat) * (2 ^ k1 : Nat))
theorem S.unique {x : Nat} {n m : Int} (h : S x n) (k : S x m) : n = m := by
  have := Val.unique h k
  exact Int.eq_of_mul_eq_mul_right (by exact_mod_cast Nat.ne_of_gt (Nat.two_pow_pos 145)) this
theorem S.wide {x : Nat} {n : Int} (h : S x n) : ∃ y, floatToFloatBits .f32 x .f64 = some y ∧ D y n := by
  obtain ⟨y, h1, h2, _⟩ := Fl.wide h
  exact ⟨y, h1, h2⟩
theorem D.narrow {y : Nat} {n : Int} (h : D y n) (hn : n.natAbs < 2 ^ 24) : ∃ x, floatToFloatBits .f64 y .f32 = some x ∧ S x n := Fl.narrow h hn (by decide)
theorem S.zero : S 0 0 := by show Val single 0 _; rw [Int.zero_mul]; exact val_zero
theorem S.add {x y : Nat} {n m : Int} (h : S x n) (k : S y m) (hb : (n + m).natAbs < 2 ^ 24) : ∃ r, single.add x y = some r ∧ S r (n + m) :=
  add_val h k (Int.add_mul _ _ _).symm hb (pow_bound hb (by decide)) (by decide)
theorem D.add {x y : Nat} {n m : Int} (h : D x n) (k : D y m) (hb : (n + m).natAbs < 2 ^ 24) : ∃ r, double.add x y = some r ∧ D r (n + m) := by
  have e : (n + m) * (2 ^ 145 : Nat) * (2 ^ k1 : Nat) = (n + m) * (2 ^ (145 + k1) : Nat) := by rw [Int.mul_assoc, pw rfl]
  unfold D
  rw [e]
  refine add_val h k ?_ (Nat.lt_trans hb (Nat.pow_lt_pow_right (by decide) (by decide))) (pow_bound hb ?_) (by decide)
  · rw [← e, Int.add_mul, Int.add_mul]
  · show 24 + (145 + k1) ≤ 52 + 2 ^ 11 - 2
    rw [k1_eq]; decide
theorem D.sub {x y : Nat} {n m : Int} (h : D x n) (k : D y m) (hb : (n - m).natAbs < 2 ^ 24) : ∃ r, double.sub x y = some r ∧ D r (n - m) := by
  have e : (n - m) * (2 ^ 145 : Nat) * (2 ^ k1 : Nat) = (n - m) * (2 ^ (145 + k1) : Nat) := by rw [Int.mul_assoc, pw rfl]
  unfold D
  rw [e]
  refine sub_val h k ?_ (Nat.lt_trans hb (Nat.pow_lt_pow_right (by decide) (by decide))) (pow_bound hb ?_) (by decide)
  · rw [← e, Int.sub_mul, Int.sub_mul]
  · show 24 + (145 + k1) ≤ 52 + 2 ^ 11 - 2
    rw [k1_eq]; decide
/-- the product with a whole number: D of 16 c is c -/
theorem D.mul {x y : Nat} {n c : Int} (h : D x n) (k : D y (16 * c)) (hb : (n * c).natAbs < 2 ^ 24) : ∃ r, double.mul x y = some r ∧ D r (n * c) := by
  have e : (n * c) * (2 ^ 145 : Nat) * (2 ^ k1 : Nat) = (n * c) * (2 ^ (145 + k1) : Nat) := by rw [Int.mul_assoc, pw rfl]
  unfold D
  rw [e]
  refine mulg_val (L := u64) h k (by decide) ?_ (Nat.lt_trans hb (Nat.pow_lt_pow_right (by decide) (by decide))) (pow_bound hb ?_) (by decide)
  · have e2 : (16 * c) * (2 ^ 145 : Nat) * (2 ^ k1 : Nat) = c * (2 ^ u64 : Nat) := by
      rw [Int.mul_comm 16 c, Int.mul_assoc, Int.mul_assoc, pw rfl]
      have : (16 : Int) = (2 ^ 4 : Nat) := by decide
      rw [this, pw (c := u64) (by rw [k1_eq]; rfl)]
    have e3 : n * (2 ^ 145 : Nat) * (2 ^ k1 : Nat) = n * (2 ^ (145 + k1) : Nat) := by rw [Int.mul_assoc, pw rfl]
    rw [e2, e3, Int.mul_assoc, Int.mul_assoc, ← Int.mul_assoc _ c, Int.mul_comm _ c, Int.mul_assoc c, pw rfl]
  · show 24 + (145 + k1) ≤ 52 + 2 ^ 11 - 2
    rw [k1_eq]; decide

section
variable {P : Program}
theorem conv_up {x y : Nat} (h : floatToFloatBits .f32 x .f64 = some y) (w : World) : (Op.Complex.conv .f32 x .f64).run P w = .ok y w := by
  have hc := run_floatToFloat (P := P) w h
  unfold Op.Complex.conv
  rw [if_neg (by decide)]
  simp [hc]
theorem conv_down {x y : Nat} (h : floatToFloatBits .f64 x .f32 = some y) (w : World) : (Op.Complex.conv .f64 x .f32).run P w = .ok y w := by
  have hc := run_floatToFloat (P := P) w h
  unfold Op.Complex.conv
  rw [if_neg (by decide)]
  simp [hc]

/-- a product of complex numbers -/
theorem cmul (t : TypeId) {xr xi yr yi : Nat} {a b c d : Int} (ha : S xr a) (hb : S xi b) (hc : S yr (16 * c)) (hd : S yi (16 * d))
    (h1 : (a * c).natAbs < 2 ^ 22) (h2 : (b * d).natAbs < 2 ^ 22) (h3 : (a * d).natAbs < 2 ^ 22) (h4 : (b * c).natAbs < 2 ^ 22) :
    ∃ r i, S r (a * c - b * d) ∧ S i (a * d + b * c) ∧ ∀ w, (binOp .mul t (.complex .f32 xr xi) (.complex .f32 yr yi)).run P w = .ok (.complex .f32 r i) w := by
  obtain ⟨A, wa, da⟩ := ha.wide
  obtain ⟨B, wb, db⟩ := hb.wide
  obtain ⟨C, wc, dc⟩ := hc.wide
  obtain ⟨E, wd, dd⟩ := hd.wide
  obtain ⟨ac, m1, v1⟩ := da.mul dc (by omega)
  obtain ⟨bd, m2, v2⟩ := db.mul dd (by omega)
  obtain ⟨ad, m3, v3⟩ := da.mul dd (by omega)
  obtain ⟨bc, m4, v4⟩ := db.mul dc (by omega)
  obtain ⟨re, m5, v5⟩ := v1.sub v2 (by omega)
  obtain ⟨im, m6, v6⟩ := v3.add v4 (by omega)
  obtain ⟨r, n1, s1⟩ := v5.narrow (by omega)
  obtain ⟨i, n2, s2⟩ := v6.narrow (by omega)
  refine ⟨r, i, s1, s2, fun w => ?_⟩
  have f1 : floatBits .mul .f64 A C = some ac := m1
  have f2 : floatBits .mul .f64 B E = some bd := m2
  have f3 : floatBits .mul .f64 A E = some ad := m3
  have f4 : floatBits .mul .f64 B C = some bc := m4
  have f5 : floatBits .sub .f64 ac bd = some re := m5
  have f6 : floatBits .add .f64 ad bc = some im := m6
  simp [binOp, Op.complexOp, conv_up wa, conv_up wb, conv_up wc, conv_up wd, conv_down n1, conv_down n2, Op.Complex.product, Op.Complex.mul, Op.Complex.sub, Op.Complex.add, run_carith w f1, run_carith w f2, run_carith w f3, run_carith w f4, run_carith w f5, run_carith w f6]
/-- a sum of complex numbers -/
theorem cadd (t : TypeId) {xr xi yr yi : Nat} {a b c d : Int} (ha : S xr a) (hb : S xi b) (hc : S yr c) (hd : S yi d) (h1 : (a + c).natAbs < 2 ^ 24) (h2 : (b + d).natAbs < 2 ^ 24) :
    ∃ r i, S r (a + c) ∧ S i (b + d) ∧ ∀ w, (binOp .add t (.complex .f32 xr xi) (.complex .f32 yr yi)).run P w = .ok (.complex .f32 r i) w := by
  obtain ⟨r, m1, v1⟩ := ha.add hc h1
  obtain ⟨i, m2, v2⟩ := hb.add hd h2
  refine ⟨r, i, v1, v2, fun w => run_complex_sum w .add (Or.inl rfl) t .f32 _ _ _ _ _ _ ?_⟩
  have f1 : floatBits .add .f32 xr yr = some r := m1
  have f2 : floatBits .add .f32 xi yi = some i := m2
  simp [cSumBits, f1, f2]
end
/-- the whole numbers 1 and -1, as samples -/
theorem S.one : S 1065353216 (16 * 1) := by
  have h := nearest32 1 (by decide)
  have e : FloatKind.f32.nearest 1 = 1065353216 := by decide +kernel
  rw [e] at h
  have e2 : (16 * 1 : Int) * (2 ^ 145 : Nat) = 1 * (2 ^ u32 : Nat) := by decide
  unfold S; rw [e2]; exact h
theorem S.minus : S 3212836864 (16 * -1) := by
  have h := nearest32 (-1) (by decide)
  have e : FloatKind.f32.nearest (-1) = 3212836864 := by decide +kernel
  rw [e] at h
  have e2 : (16 * -1 : Int) * (2 ^ 145 : Nat) = -1 * (2 ^ u32 : Nat) := by decide
  unfold S; rw [e2]; exact h
end Go.Fl

/- A result that lies in a block; a world behind a name. No program is imported here. -/
namespace Go.Proofs.YtjgofnbfpoephaaGreatDoor
set_option linter.all false
open Go.RowKit
theorem results_rowA {P : Program} {fn : Func} {p : Tmp} {ty : TypeId} (h : fn.results = #[.cell p ty]) (tmps : Array Value) (w : World) (g : Nat) (e : TypeId) (cs : Array Value) (fr : Nat × Nat) (d : TypeDesc)
    (hp : tmps.getD p undef = .pointer (some ⟨g, 0, none⟩)) (hg : w.heap[g]? = some (.cells cs e fr))
    (hu : P.underlying ty = some d) (hd : (match d with | .struct _ | .array _ _ => true | _ => false) = true) (hi : (P.info? ty).map (·.size) = some cs.size) :
    (results fn tmps).run P w = .ok (.agg cs) w := by
  have hp' : tmps[p]?.getD undef = .pointer (some ⟨g, 0, none⟩) := by simpa using hp
  simp [results, h, hp', asAddr, run_loadVar_row w g e ty cs fr d hg hu hd hi]
theorem genA {p : World → Prop} {w0 w : World} (g : Nat) (t : TypeId) (v : List Value) (h0 : Row w g t v) (hb : Below w0.heap.size w0 w) (h : ∀ W, Row W g t v → Below w0.heap.size w0 W → p W) : p w := h w h0 hb
end Go.Proofs.YtjgofnbfpoephaaGreatDoor

/- Steps of a region that draws its order: a whole block is loaded, or stored. No program is imported here. -/
namespace Go.Proofs.YtjgofnbfpoephaaGreatDoor
set_option linter.all false
open Go.RowKit
set_option linter.unusedVariables false
theorem step_store_row {P : Program} {ops : Array Oper} {o : Oper} {a : Act} {w : World} {K : Act → World → Prop} {Q : Exit → Act → World → Prop} {E : Prop} (hgd : o.guard = none) (ty : TypeId) (x y : Operand) (ho : o.op = .store ty x y)
    (g : Nat) (cells : List Value) (hx : a.eval x = .pointer (some ⟨g, 0, none⟩)) (hy : a.eval y = .agg cells.toArray)
    (t : TypeId) (old : List Value) (hg : Row w g t old) (hi : (P.info? ty).map (·.size) = some cells.length)
    (hold : old.length = cells.length) (h1 : ∀ v ∈ cells, v.oneCell' = true)
    (h : K (a.put o.dst undef) (w.setRow g cells.toArray)) :
    if Region.wanted o (yielded ops a.tmps) = true then Oper.wp P o a w K Q else E := by
  have hw : Region.wanted o (yielded ops a.tmps) = true := by simp [Region.wanted, hgd]
  rw [if_pos hw]
  exact wp_store_row ty x y ho g cells.toArray hx hy t old.toArray hg (by simpa using hi) (by simpa using hold) (by simpa using h1) h
theorem step_load_row {P : Program} {ops : Array Oper} {o : Oper} {a : Act} {w : World} {K : Act → World → Prop} {Q : Exit → Act → World → Prop} {E : Prop} (hgd : o.guard = none) (ty : TypeId) (x : Operand) (ho : o.op = .load ty x)
    (g : Nat) (hx : a.eval x = .pointer (some ⟨g, 0, none⟩)) (t : TypeId) (cs : List Value) (hg : Row w g t cs) (d : TypeDesc)
    (hu : P.underlying ty = some d) (hd : (match d with | .struct _ | .array _ _ => true | _ => false) = true) (hi : (P.info? ty).map (·.size) = some cs.length)
    (h : K (a.put o.dst (.agg cs.toArray)) w) :
    if Region.wanted o (yielded ops a.tmps) = true then Oper.wp P o a w K Q else E := by
  have hw : Region.wanted o (yielded ops a.tmps) = true := by simp [Region.wanted, hgd]
  rw [if_pos hw]
  exact wp_load_row ty x ho g hx t cs.toArray (0, 0) d hg hu hd (by simpa using hi) h
end Go.Proofs.YtjgofnbfpoephaaGreatDoor

/- Contracts of the functions on names, ranges and divisors: each returns what a plain function says. -/
namespace Go.Proofs.YtjgofnbfpoephaaGreatDoor
set_option linter.all false
open Go.RowKit

-- the program's When, CheckRange, First
theorem failed_t (n : Int) (w : World) : Calls Tryz.prog 91 #[.bool true, .int .i64 n] w fun e w' => e = .returned (.int .i64 n) ∧ w = w' := by
  go_enter Tryz.func91, Tryz.ntmps91
  go_wp2
  go_ret
  exact ⟨rfl, rfl⟩
theorem failed_f (n : Int) (w : World) : Calls Tryz.prog 91 #[.bool false, .int .i64 n] w fun e w' => e = .returned (.int .i64 0) ∧ w = w' := by
  go_enter Tryz.func91, Tryz.ntmps91
  go_wp2
  go_ret
  exact ⟨rfl, rfl⟩
theorem failed_any (b : Bool) (n : Int) (w : World) : Calls Tryz.prog 91 #[.bool b, .int .i64 n] w fun e w' => e = .returned (.int .i64 (whenI b n)) ∧ w = w' := by
  cases b
  · exact failed_f n w
  · exact failed_t n w

set_option maxHeartbeats 400000 in
theorem between_any (n low high : Int) (w : World) : Calls Tryz.prog 88 #[.int .i64 n, .int .i64 low, .int .i64 high] w fun e w' => e = .returned (.int .i64 (whenI (rangeB n low high) 3)) ∧ w = w' := by
  go_enter Tryz.func88, Tryz.ntmps88
  go_wp2_with (go_at_call 91; refine (failed_any _ _ _).mono ?_; rintro e w' ⟨rfl, rfl⟩)
  all_goals go_ret
  all_goals exact ⟨ret_int (by simp [rangeB, *]), rfl⟩

set_option maxHeartbeats 400000 in
theorem firstV_any (A : Option Addr) (n c : Nat) (zs : List Int) (w : World) (h : Rd w A (ints zs)) (hn : n = zs.length) (hm : zs.length ≤ 9223372036854775807) :
    Calls Tryz.prog 87 #[.slice A n c] w fun e w' => e = .returned (.int .i64 (firstI zs)) ∧ w = w' := by
  subst hn
  go_enter Tryz.func87, Tryz.ntmps87
  go_wp2
  go_loop [7] (fun i => ∃ k : Nat, k ≤ zs.length ∧ i = .int .i64 k ∧ Hid (firstI (zs.drop k) = firstI zs)) (fun i => zs.length - (intOf i).toNat)
  case atStart => exact ⟨0, Nat.zero_le _, rfl, rfl⟩
  case round =>
    obtain ⟨k, hk, rfl, H⟩ := hrel
    by_cases hlt : k < zs.length
    · obtain ⟨b, off, rfl, hc⟩ := Rd.int h hlt
      have hd := Lib.hid (firstI_drop hlt)
      by_cases hz : zs[k] = 0
      · rw [hz] at hc
        go_wp2
        go_round
        case rel => exact ⟨k + 1, by omega, by go_num, by show _ = _; rw [← H.out, hd.out, if_pos hz]⟩
        case measure => simp [intOf]; omega
      · have hz' : (zs[k] != 0) = true := by simpa using hz
        have Hz := Lib.hid hz; clear hz
        go_wp2
        go_ret
        exact ⟨ret_int (by rw [← H.out, hd.out, if_neg Hz.out]), rfl⟩
    · go_wp2
      go_ret
      exact ⟨ret_int (by rw [← H.out, List.drop_of_length_le (by omega)]; rfl), rfl⟩

-- letters and digits
def capB (c : Int) : Bool := decide (65 ≤ c) && decide (c ≤ 90)
def lowB (c : Int) : Bool := decide (97 ≤ c) && decide (c ≤ 122)
def digB (c : Int) : Bool := decide (48 ≤ c) && decide (c ≤ 57)
def letB (c : Int) : Bool := capB c || lowB c
set_option maxHeartbeats 400000 in
theorem isCapital_any (c : Int) (w : World) : Calls Tryz.prog 168 #[.int .u8 c] w fun e w' => e = .returned (.bool (capB c)) ∧ w = w' := by
  go_enter Tryz.func168, Tryz.ntmps168
  go_wp2
  all_goals go_ret
  all_goals exact ⟨by simp [capB, *] <;> omega, rfl⟩
set_option maxHeartbeats 400000 in
theorem isDigit_any (c : Int) (w : World) : Calls Tryz.prog 90 #[.int .u8 c] w fun e w' => e = .returned (.bool (digB c)) ∧ w = w' := by
  go_enter Tryz.func90, Tryz.ntmps90
  go_wp2
  all_goals go_ret
  all_goals exact ⟨by simp [digB, *] <;> omega, rfl⟩
set_option maxHeartbeats 400000 in
theorem isLetter_any (c : Int) (w : World) : Calls Tryz.prog 89 #[.int .u8 c] w fun e w' => e = .returned (.bool (letB c)) ∧ w = w' := by
  cases hb : capB c
  all_goals
    have Hb := Lib.hid hb; clear hb
    go_enter Tryz.func89, Tryz.ntmps89
    go_wp2_with (go_at_call 168; refine (isCapital_any _ _).mono ?_; rintro e w' ⟨rfl, rfl⟩; rw [Hb.out])
    all_goals go_ret
    all_goals exact ⟨by simp [letB, lowB, Hb.out, *] <;> omega, rfl⟩
end Go.Proofs.YtjgofnbfpoephaaGreatDoor

/- A quarter of a float, exact. No program is imported here. -/
namespace Go.Fl
open Ieee
set_option linter.unusedVariables false
set_option linter.unusedSimpArgs false

def b4 : Nat := 1082130432
theorem read_b4 : single.read b4 = .number false (2 ^ 23) (-21) := by decide +kernel
theorem quotient4_eq (s : Bool) (m : Nat) (i : Int) : Datum.quotient 25 (.number s m i) (.number false (2 ^ 23) (-21)) =
    some (.number s (2 * (m * 2 ^ (48 - m.log2) / 2 ^ 23) + ((m * 2 ^ (48 - m.log2) % 2 ^ 23 != 0)).toNat) (i - (-21) - ((48 - m.log2 : Nat) : Int) - 1)) := by
  have hl : (2 ^ 23 : Nat).log2 = 23 := by decide +kernel
  have h0 : (2 ^ 23 : Nat) ≠ 0 := by decide
  unfold Datum.quotient
  simp only [if_neg h0, hl, shl, Bool.xor_false]

/-- a quarter, exact -/
theorem div4 {x : Nat} {V W : Int} (h : Val single x V) (hV : V = W * 4) (hr : ∃ (n : Int) (j : Nat), W = n * (2 ^ j : Nat) ∧ n.natAbs < 2 ^ 24 ∧ j ≤ 200) : ∃ r, single.div x b4 = some r ∧ Val single r W := by
  obtain ⟨s, m, e, h1, h2, rfl⟩ := h.read
  obtain ⟨b1, _, _⟩ := read_bounds h1 (by decide)
  obtain ⟨n, j, rfl, hn, hj⟩ := hr
  have hm : m.log2 ≤ 23 := by
    by_cases hm0 : m = 0
    · subst hm0; decide
    · have := (Nat.log2_lt hm0).2 (show m < 2 ^ (23 + 1) from b1); omega
  obtain ⟨more, hmore⟩ : ∃ more, more = 48 - m.log2 := ⟨_, rfl⟩
  have hdiv : m * 2 ^ more = (m * 2 ^ (more - 23)) * 2 ^ 23 := by rw [Nat.mul_assoc, ← Nat.pow_add]; congr 2; omega
  have hq : 2 * (m * 2 ^ more / 2 ^ 23) + ((m * 2 ^ more % 2 ^ 23 != 0)).toNat = m * 2 ^ (more - 22) := by
    rw [hdiv, Nat.mul_div_cancel _ (Nat.two_pow_pos _), Nat.mul_mod_left]
    have : more - 22 = (more - 23) + 1 := by omega
    rw [this, Nat.pow_succ]; simp; rw [Nat.mul_comm _ 2, Nat.mul_left_comm]
  refine ⟨single.write (.number s (m * 2 ^ (more - 22)) (e - (-21) - more - 1)), ?_, ?_⟩
  · unfold Format.div
    rw [h1, read_b4]
    show (Datum.quotient 25 _ _).map _ = _
    rw [quotient4_eq, ← hmore, hq]; rfl
  · have e4 : n * (2 ^ j : Nat) * 4 = n * (2 ^ (j + 2) : Nat) := by rw [Nat.pow_add, Int.mul_assoc]; simp
    rw [e4] at hV
    have habs := abs_of hV
    refine write_val single _ _ _ n j hn ?_ (sgn_of hV) (pow_bound hn (by show 24 + j ≤ 23 + 2 ^ 8 - 2; omega)) (by decide)
    have l1 : single.leastPlace = -149 := by decide
    by_cases hp : single.leastPlace ≤ e - (-21) - more - 1
    · have e1 : (single.leastPlace - (e - (-21) - more - 1)).toNat = 0 := by omega
      rw [e1, Nat.pow_zero, Nat.mul_one]
      have e2 : (e - single.leastPlace).toNat = (more - 22) + (e - (-21) - more - 1 - single.leastPlace).toNat + 2 := by omega
      rw [e2, Nat.pow_add, Nat.pow_add, ← Nat.mul_assoc, ← Nat.mul_assoc, Nat.pow_add, ← Nat.mul_assoc] at habs
      exact Nat.eq_of_mul_eq_mul_right (by decide) habs
    · have e1 : (e - (-21) - more - 1 - single.leastPlace).toNat = 0 := by omega
      rw [e1, Nat.pow_zero, Nat.mul_one]
      obtain ⟨d, hd⟩ : ∃ d, d = (single.leastPlace - (e - (-21) - more - 1)).toNat := ⟨_, rfl⟩
      rw [← hd]
      have e2 : (e - single.leastPlace).toNat + d = (more - 22) + 2 := by omega
      have h3 : m * 2 ^ (e - single.leastPlace).toNat * 2 ^ d = n.natAbs * 2 ^ (j + 2) * 2 ^ d := by rw [habs]
      have hL : m * 2 ^ (e - single.leastPlace).toNat * 2 ^ d = m * 2 ^ (more - 22) * 2 ^ 2 := by rw [Nat.mul_assoc, ← Nat.pow_add, e2, Nat.pow_add, ← Nat.mul_assoc]
      have hR : n.natAbs * 2 ^ (j + 2) * 2 ^ d = n.natAbs * 2 ^ j * 2 ^ d * 2 ^ 2 := by rw [Nat.pow_add, Nat.mul_assoc, Nat.mul_assoc, Nat.mul_assoc, Nat.mul_assoc, Nat.mul_comm (2 ^ 2) (2 ^ d)]
      exact Nat.eq_of_mul_eq_mul_right (by decide) (hL.symm.trans (h3.trans hR))
theorem S.quarter {x : Nat} {n : Int} (h : S x (4 * n)) (hn : n.natAbs < 2 ^ 24) : ∃ r, single.div x b4 = some r ∧ S r n :=
  div4 h (by rw [Int.mul_assoc, Int.mul_comm]) ⟨n, 145, rfl, hn, by decide⟩
end Go.Fl

/- The part of a slice between two indices. -/
namespace Go.Proofs.YtjgofnbfpoephaaGreatDoor
set_option linter.all false
open Go.RowKit
set_option linter.unusedVariables false

theorem slice_mid {P : Program} (t : TypeId) (ht : P.underlying t = some (.slice (P.elem t))) (hs : ∀ w, (sizeOf (P.elem t)).run P w = .ok 1 w) (A : Option Addr) (n c f h : Nat) (hf : f ≤ h) (hh : h ≤ n) (hn : n ≤ c) (hA : A = none → c = 0) :
    ∃ A', (∀ W, (Instr.slice t (.slice A n c) (some (.int .i64 (f : Int))) (some (.int .i64 (h : Int))) none).run P W = .ok (.slice A' (h - f) (c - f)) W) ∧ (∀ W xs, Rd W A xs → Rd W A' ((xs.drop f).take (h - f))) ∧ (A' = none → c - f = 0) := by
  refine ⟨if c = f then A else A.map (·.add f), fun W => ?_, fun W xs hR => ?_, fun h0 => ?_⟩
  · rw [run_slice_lh W t A n c ht .i64 .i64 (f : Int) (h : Int) (by omega) (by omega) (by omega), hs]
    simp only [Result.andThen, sliced, Nat.mul_one, Int.toNat_natCast]
  · by_cases hc : c = f
    · have : h - f = 0 := by omega
      rw [this, List.take_zero]
      intro j v hv; cases hv
    · rw [if_neg hc]
      cases A with
      | none => exact absurd (hA rfl) (by omega)
      | some a =>
        intro j v hv
        rw [List.getElem?_take] at hv
        split at hv
        · rw [List.getElem?_drop] at hv
          obtain ⟨b, off, h1, h2⟩ := hR (f + j) v hv
          cases h1
          refine ⟨b, off + f, ?_, by rw [Nat.add_assoc]; exact h2⟩
          by_cases h0 : f = 0
          · simp [Addr.add, h0]
          · simp [Addr.add, h0]
        · cases hv
  · split at h0
    · rename_i hc; omega
    · cases A with
      | none => have := hA rfl; omega
      | some a => cases h0

end Go.Proofs.YtjgofnbfpoephaaGreatDoor

/- Contracts: names, divisors, ratios. -/
namespace Go.Proofs.YtjgofnbfpoephaaGreatDoor
set_option linter.all false
open Go.RowKit

/-- the greatest common divisor by Euclid's steps, with Go's remainder -/
def gcdI (a b : Int) : Int := Int.gcd a b
theorem gcdI_step (a b : Int) : gcdI a b = gcdI b (a.tmod b) := by
  unfold gcdI
  congr 1
  show Nat.gcd a.natAbs b.natAbs = Nat.gcd b.natAbs (a.tmod b).natAbs
  rw [Int.natAbs_tmod, Nat.gcd_comm a.natAbs, Nat.gcd_rec, Nat.gcd_comm]
theorem gcdI_zero (a : Int) : gcdI a 0 = max a (-a) := by
  unfold gcdI; rw [Int.gcd_zero_right]; omega

def Bd (a : Int) : Prop := -9223372036854775807 ≤ a ∧ a ≤ 9223372036854775807
theorem tmod_lt {a b : Int} (h : b ≠ 0) : (a.tmod b).natAbs < b.natAbs := by
  rw [Int.natAbs_tmod]; exact Nat.mod_lt _ (by omega)
theorem tmod_bd {a b : Int} (hb : Bd b) (h : b ≠ 0) : Bd (a.tmod b) := by
  have := tmod_lt (a := a) h; unfold Bd at *; omega

set_option maxHeartbeats 400000 in
theorem divisor_any (a b : Int) (w : World) (ha : Bd a) (hb : Bd b) : Calls Tryz.prog 92 #[.int .i64 a, .int .i64 b] w fun e w' => e = .returned (.int .i64 (gcdI a b)) ∧ ∃ n, w' = w.drewN n := by
  go_enter Tryz.func92, Tryz.ntmps92
  go_wp2
  go_loopw [0, 1] (fun x y wr => ∃ (p q : Int), x = .int .i64 p ∧ y = .int .i64 q ∧ Hid (Bd p) ∧ Hid (Bd q) ∧ Hid (gcdI p q = gcdI a b) ∧ ∃ n, wr = w.drewN n) (fun _ y _ => (intOf y).natAbs)
  case atStart => exact ⟨a, b, rfl, rfl, ha, hb, rfl, 0, rfl⟩
  case round =>
    obtain ⟨p, q, rfl, rfl, hp, hq, H, n, rfl⟩ := hrel
    by_cases hz : q = 0
    · subst hz
      have hb0 := hp.out
      unfold Bd at hb0
      go_wp2
      all_goals go_ret
      all_goals exact ⟨ret_int (by rw [← H.out, gcdI_zero]; omega), n, rfl⟩
    · have hz' : (q != 0) = true := by simpa using hz
      have hz2 : (q == 0) = false := by simpa using hz
      have hlt := Lib.hid (tmod_lt (a := p) hz)
      have hbd := Lib.hid (tmod_bd (a := p) hq.out hz)
      have hst := Lib.hid (gcdI_step p q)
      have hb0 := hp.out
      have hb1 := hq.out
      unfold Bd at hb0 hb1
      go_wp2
      go_quiet (fail)
      go_wp2
      go_roundw
      case rel => exact ⟨q, p.tmod q, rfl, rfl, hq, hbd, by show _ = _; rw [← H.out, hst.out], n + nq, by rw [World.drewN_drewN]⟩
      case measure => exact hlt.out

theorem gcdI_abs (a b : Int) : gcdI (max a (-a)) (max b (-b)) = gcdI a b := by
  unfold gcdI
  congr 1
  show Nat.gcd _ _ = Nat.gcd _ _
  congr 1 <;> omega

set_option maxHeartbeats 400000 in
theorem divisorR_any (a b : Int) (w : World) (ha : Bd a) (hb : Bd b) : Calls Tryz.prog 93 #[.int .i64 a, .int .i64 b] w fun e w' => e = .returned (.int .i64 (gcdI a b)) ∧ ∃ n, w' = w.drewN n := by
  obtain ⟨p0, h0⟩ : ∃ p, p = max a (-a) := ⟨_, rfl⟩
  obtain ⟨q0, h1⟩ : ∃ q, q = max b (-b) := ⟨_, rfl⟩
  have H0 := Lib.hid h0; have H1 := Lib.hid h1
  have hp0 : Hid (0 ≤ p0 ∧ Bd p0) := by unfold Hid Bd at *; omega
  have hq0 : Hid (0 ≤ q0 ∧ Bd q0) := by unfold Hid Bd at *; omega
  have hA := ha
  have hB := hb
  unfold Bd at hA hB
  have E0 : (if -a > a then -a else a) = p0 := by rw [h0]; split <;> omega
  have E1 : (if -b > b then -b else b) = q0 := by rw [h1]; split <;> omega
  clear h0 h1
  go_enter Tryz.func93, Tryz.ntmps93
  go_wp2
  go_loopw [0, 1] (fun x y wr => ∃ (p q : Int), x = .int .i64 p ∧ y = .int .i64 q ∧ Hid (0 ≤ p ∧ Bd p) ∧ Hid (0 ≤ q ∧ Bd q) ∧ Hid (gcdI p q = gcdI a b) ∧ ∃ n, wr = w.drewN n) (fun _ y _ => (intOf y).natAbs)
  case atStart => exact ⟨p0, q0, rfl, rfl, hp0, hq0, by show _ = _; rw [H0.out, H1.out, gcdI_abs], 0, rfl⟩
  case round =>
    obtain ⟨p, q, rfl, rfl, hp, hq, H, n, rfl⟩ := hrel
    by_cases hz : q = 0
    · subst hz
      go_wp2
      go_ret
      exact ⟨ret_int (by rw [← H.out, gcdI_zero]; have := hp.out; omega), n, rfl⟩
    · have hz' : (q != 0) = true := by simpa using hz
      have hz2 : (q == 0) = false := by simpa using hz
      have hlt := Lib.hid (tmod_lt (a := p) hz)
      have hbd := Lib.hid (tmod_bd (a := p) hq.out.2 hz)
      have h0 : Hid (0 ≤ p % q) := Lib.hid (Int.emod_nonneg _ hz)
      have het : Hid (p % q = p.tmod q) := Lib.hid (Int.tmod_eq_emod_of_nonneg hp.out.1).symm
      have hst := Lib.hid (gcdI_step p q)
      have hb0 := hp.out
      have hb1 := hq.out
      unfold Bd at hb0 hb1
      go_wp2
      go_quiet (fail)
      go_wp2
      go_roundw
      case rel => exact ⟨q, p % q, rfl, rfl, hq, by show _ ∧ _; rw [het.out]; exact ⟨by rw [← het.out]; exact h0.out, hbd.out⟩, by show _ = _; rw [het.out, ← H.out, hst.out], n + nq, by rw [World.drewN_drewN]⟩
      case measure => simp only [intOf]; rw [het.out]; exact hlt.out
end Go.Proofs.YtjgofnbfpoephaaGreatDoor

/- Contracts: ratios. -/
namespace Go.Proofs.YtjgofnbfpoephaaGreatDoor
set_option linter.all false
open Go.RowKit

theorem Rd.new (w : World) (cs : Array Value) (t : TypeId) (b : Nat) (hb : b = w.heap.size) : Rd (w.alloc (.cells cs t)) (some ⟨b, 0, none⟩) cs.toList := by
  subst hb
  intro j v hv
  refine ⟨_, _, rfl, ?_⟩
  rw [Nat.zero_add, World.cell?_alloc_at _ _ _ _ rfl]
  simpa using hv

theorem Rd.drew {w : World} {A : Option Addr} {xs : List Value} (h : Rd w A xs) : Rd w.drew A xs := h
theorem Rd.drewN {w : World} {A : Option Addr} {xs : List Value} (h : Rd w A xs) (n : Nat) : Rd (w.drewN n) A xs := h

def checkRatioI (a b : Int) : Int :=
  let e := firstI [whenI (rangeB a (-999999999) 999999999) 3, whenI (rangeB b 1 999999999) 3]
  if e = 0 then whenI (gcdI a b != 1) 1 else e

theorem whenI_ne {b : Bool} {n : Int} (h : whenI b n = 0) (hn : n ≠ 0) : b = false := by
  cases b
  · rfl
  · exact absurd h hn
theorem firstI_two {x y : Int} (h : firstI [x, y] = 0) : x = 0 ∧ y = 0 := by
  unfold firstI at h
  split at h
  · rename_i hx
    unfold firstI at h
    split at h
    · rename_i hy; exact ⟨hx, hy⟩
    · rename_i hy; exact absurd h hy
  · rename_i hx; exact absurd h hx
theorem ratio_bd {a b : Int} (h : (firstI [whenI (rangeB a (-999999999) 999999999) 3, whenI (rangeB b 1 999999999) 3] != 0) = false) : Bd a ∧ Bd b := by
  obtain ⟨h1, h2⟩ := firstI_two (by simpa using h)
  have h3 := whenI_ne h1 (by decide)
  have h4 := whenI_ne h2 (by decide)
  simp [rangeB] at h3 h4
  unfold Bd; omega

set_option maxHeartbeats 400000 in
theorem checkRatio_any (a b : Int) (w : World) : Calls Tryz.prog 21 #[.agg #[.int .i64 a, .int .i64 b]] w fun e w' => e = .returned (.int .i64 (checkRatioI a b)) ∧ Below w.heap.size w w' := by
  go_enter Tryz.func21, Tryz.ntmps21
  go_wp2
  go_region_held3 (fun w' => w'.cell? ⟨w.heap.size, 0, none⟩ = some (.int .i64 a) ∧ w'.cell? ⟨w.heap.size, 1, none⟩ = some (.int .i64 b)) (go_keep)
    (first | (go_at_call 88; refine (between_any _ _ _ _).mono ?_; rintro e w' ⟨rfl, rfl⟩) | (go_at_call 87; refine (firstV_any _ _ _ [whenI (rangeB a (-999999999) 999999999) 3, whenI (rangeB b 1 999999999) 3] _ (Rd.drew (Rd.new _ _ _ _ ?_)) rfl ?_).mono ?_; (simp); (simp); (rintro e w' ⟨rfl, rfl⟩)))
  go_wp2_with fail
  · go_ret
    exact ⟨ret_int (by rw [checkRatioI, if_neg (by simpa using ‹(firstI _ != 0) = true›)]), (((Below.refl _ _).alloc (Nat.le_refl _) _).alloc (by simp) _).drew⟩
  · have hE := ‹(firstI _ != 0) = false›
    obtain ⟨h1, h2⟩ := ratio_bd hE
    have HE := Lib.hid hE
    go_wp2_with (first | (go_at_call 92; refine (divisor_any _ _ _ ?_ ?_).mono ?_; (exact h1); (exact h2); (rintro e w' ⟨rfl, n, rfl⟩)) | (go_at_call 91; refine (failed_any _ _ _).mono ?_; rintro e w' ⟨rfl, rfl⟩))
    go_ret
    exact ⟨ret_int (by rw [checkRatioI, if_pos (by simpa using HE.out)]), below_drewN (((Below.refl _ _).alloc (Nat.le_refl _) _).alloc (by simp) _) _⟩
set_option maxHeartbeats 400000 in
theorem checkRatioR_any (a b : Int) (w : World) : Calls Tryz.prog 22 #[.agg #[.int .i64 a, .int .i64 b]] w fun e w' => e = .returned (.int .i64 (checkRatioI a b)) ∧ Below w.heap.size w w' := by
  go_enter Tryz.func22, Tryz.ntmps22
  go_wp2
  go_region_held3 (fun w' => w'.cell? ⟨w.heap.size, 0, none⟩ = some (.int .i64 a) ∧ w'.cell? ⟨w.heap.size, 1, none⟩ = some (.int .i64 b)) (go_keep)
    (first | (go_at_call 48; refine (checkRange_any _ _ _ _).mono ?_; rintro e w' ⟨rfl, rfl⟩) | (go_at_call 46; refine (first_any _ _ _ [whenI (rangeB a (-999999999) 999999999) 3, whenI (rangeB b 1 999999999) 3] _ (Rd.drew (Rd.new _ _ _ _ ?_)) rfl ?_).mono ?_; (simp); (simp); (rintro e w' ⟨rfl, rfl⟩)))
  go_wp2_with fail
  · go_ret
    exact ⟨ret_int (by rw [checkRatioI, if_neg (by simpa using ‹(firstI _ != 0) = true›)]), (((Below.refl _ _).alloc (Nat.le_refl _) _).alloc (by simp) _).drew⟩
  · have hE := ‹(firstI _ != 0) = false›
    obtain ⟨h1, h2⟩ := ratio_bd hE
    have HE := Lib.hid hE
    go_wp2_with (first | (go_at_call 93; refine (divisorR_any _ _ _ ?_ ?_).mono ?_; (exact h1); (exact h2); (rintro e w' ⟨rfl, n, rfl⟩)) | (go_at_call 38; refine (when_any _ _ _).mono ?_; rintro e w' ⟨rfl, rfl⟩))
    go_ret
    exact ⟨ret_int (by rw [checkRatioI, if_pos (by simpa using HE.out)]), below_drewN (((Below.refl _ _).alloc (Nat.le_refl _) _).alloc (by simp) _) _⟩
end Go.Proofs.YtjgofnbfpoephaaGreatDoor

/- Contracts: a quotient in lowest terms. -/
namespace Go.Proofs.YtjgofnbfpoephaaGreatDoor
set_option linter.all false
open Go.RowKit
set_option linter.unusedVariables false
set_option linter.unusedSimpArgs false

set_option maxRecDepth 100000 in
set_option maxHeartbeats 400000 in
theorem ratio_any (a b : Int) (w : World) (ha : Bd a) (hb : 0 < b ∧ b ≤ 9223372036854775807) : Calls Tryz.prog 178 #[.int .i64 a, .int .i64 b] w fun e w' => e = .returned (.agg #[.int .i64 (a.tdiv (gcdI a b)), .int .i64 (b / gcdI a b)]) ∧ Below w.heap.size w w' := by
  have hb2 : Bd b := by unfold Bd; omega
  have Ha := Lib.hid ha; have Hb := Lib.hid hb2
  have hg0 : 0 < gcdI a b := by
    unfold gcdI
    have := Int.gcd_pos_of_ne_zero_right a (b := b) (by omega)
    omega
  obtain ⟨gb, hgb⟩ : ∃ gb, gb = gcdI a b := ⟨_, rfl⟩
  rw [← hgb] at hg0
  have Hgb := Lib.hid hgb
  have hbd : Bd a := Ha.out
  unfold Bd at hbd
  have u1 : -9223372036854775807 ≤ a.tdiv gb ∧ a.tdiv gb ≤ 9223372036854775807 := by
    have h1 : (a.tdiv gb).natAbs ≤ a.natAbs := by rw [Int.natAbs_tdiv]; exact Nat.div_le_self _ _
    omega
  have u2 : 0 ≤ b / gb ∧ b / gb ≤ b := ⟨Int.ediv_nonneg (by omega) (by omega), Int.ediv_le_self _ (by omega)⟩
  have hbt : b.tdiv gb = b / gb := Int.tdiv_eq_ediv_of_nonneg (by omega)
  have e1 : IntKind.i64.wrap (a.tdiv gb) = a.tdiv gb := IntWalk.i64_in _ (by omega)
  have e2 : IntKind.i64.wrap (b / gb) = b / gb := IntWalk.i64_in _ (by omega)
  have e2' : IntKind.i64.wrap (b.tdiv gb) = b / gb := by rw [hbt]; exact e2
  have e5 : wrap64 (a.tdiv gb) = a.tdiv gb := by unfold wrap64; omega
  have e6 : wrap64 (b / gb) = b / gb := by unfold wrap64; omega
  have hne : ¬ gb = 0 := by omega
  have hne2 : (gb == 0) = false := by simpa using hne
  have hm1 : (if (1 : Int) < gb then gb else 1) = gb := by split <;> omega
  have hm2 : (if gb < (1 : Int) then 1 else gb) = gb := by split <;> omega
  have Hbt := Lib.hid hbt
  clear hgb ha hb2 hbd u1 u2 hbt
  go_enter Tryz.func178, Tryz.ntmps178
  go_upto_region 1 with fail
  refine genA w.heap.size 24 [.int .i64 0, .int .i64 0] (Row.new w 24 [.int .i64 0, .int .i64 0]) ((Below.refl w.heap.size w).alloc (Nat.le_refl _) _) ?_
  intro W R0 RB
  have HR := Lib.hid R0; have HRB := Lib.hid RB
  clear R0 RB
  go_wp2_with (go_at_call 92; refine (divisor_any a b _ Ha.out Hb.out).mono ?_; rintro e w1 ⟨rfl, q2, rfl⟩; rw [← Hgb.out])
  go_upto_region 2 with fail
  refine wp_region_held_drew (S := fun _ => True) (by kernel_rfl) ?_ (fun hHeld => ?_)
  · trivial
  refine wpAnyH_take (i := 0) (oi := ⟨some 10, _, _, _, _, _⟩) (v := ?_) rfl (by kernel_rfl) (by kernel_rfl) (by kernel_rfl) (fun _ _ _ h => h) (Or.inl ⟨by kernel_rfl, ?_⟩) hHeld ?_
  rotate_left
  · intro w1 hSw; (try dsimp only at hSw); go_simp <;> with_reducible rfl
  try simp only [Act.put, List.setIfInBounds_toArray, List.set_cons_zero, List.set_cons_succ]
  refine wpAnyH_take (i := 1) (oi := ⟨some 11, _, _, _, _, _⟩) (v := ?_) rfl (by kernel_rfl) (by kernel_rfl) (by kernel_rfl) (fun _ _ _ h => h) (Or.inl ⟨by kernel_rfl, ?_⟩) hHeld ?_
  rotate_left
  · intro w1 hSw; (try dsimp only at hSw); go_simp <;> with_reducible rfl
  try simp only [Act.put, List.setIfInBounds_toArray, List.set_cons_zero, List.set_cons_succ]
  refine wpAnyH_take (i := 2) (oi := ⟨some 12, _, _, _, _, _⟩) (v := ?_) rfl (by kernel_rfl) (by kernel_rfl) (by kernel_rfl) (fun _ _ _ h => h) (Or.inl ⟨by kernel_rfl, ?_⟩) hHeld ?_
  rotate_left
  · intro w1 hSw; (try dsimp only at hSw); go_simp <;> with_reducible rfl
  try simp only [Act.put, List.setIfInBounds_toArray, List.set_cons_zero, List.set_cons_succ]
  refine wpAnyH_take (i := 3) (oi := ⟨some 13, _, _, _, _, _⟩) (v := ?_) rfl (by kernel_rfl) (by kernel_rfl) (by kernel_rfl) (fun _ _ _ h => h) (Or.inl ⟨by kernel_rfl, ?_⟩) hHeld ?_
  rotate_left
  · intro w1 hSw; (try dsimp only at hSw); go_simp <;> with_reducible rfl
  try simp only [Act.put, List.setIfInBounds_toArray, List.set_cons_zero, List.set_cons_succ]
  refine wpAnyH_take (i := 4) (oi := ⟨some 14, _, _, _, _, _⟩) (v := ?_) rfl (by kernel_rfl) (by kernel_rfl) (by kernel_rfl) (fun _ _ _ h => h) (Or.inl ⟨by kernel_rfl, ?_⟩) hHeld ?_
  rotate_left
  · intro w1 hSw; (try dsimp only at hSw); go_simp <;> with_reducible rfl
  try simp only [Act.put, List.setIfInBounds_toArray, List.set_cons_zero, List.set_cons_succ]
  refine wpAnyH_take (i := 5) (oi := ⟨some 15, _, _, _, _, _⟩) (v := ?_) rfl (by kernel_rfl) (by kernel_rfl) (by kernel_rfl) (fun _ _ _ h => h) (Or.inl ⟨by kernel_rfl, ?_⟩) hHeld ?_
  rotate_left
  · intro w1 hSw; (try dsimp only at hSw); go_simp <;> with_reducible rfl
  try simp only [Act.put, List.setIfInBounds_toArray, List.set_cons_zero, List.set_cons_succ]
  refine wpAnyH_take (i := 6) (oi := ⟨some 16, _, _, _, _, _⟩) (v := ?_) rfl (by kernel_rfl) (by kernel_rfl) (by kernel_rfl) (fun _ _ _ h => h) (Or.inl ⟨by kernel_rfl, ?_⟩) hHeld ?_
  rotate_left
  · intro w1 hSw; (try dsimp only at hSw); go_simp <;> with_reducible rfl
  try simp only [Act.put, List.setIfInBounds_toArray, List.set_cons_zero, List.set_cons_succ]
  refine wpAnyH_ready (rs := [7]) (by kernel_rfl) (by simp) ?_
  refine AllReadyH.cons rfl (fun K hK => ?_) AllReadyH.nil
  refine step_store_row rfl 24 _ _ rfl w.heap.size [.int .i64 (a.tdiv gb), .int .i64 (b / gb)] rfl rfl 24 [.int .i64 0, .int .i64 0] HR.out (by kernel_rfl) rfl (by simp [Value.oneCell']) ?_
  refine hK.out _ _ ?_ (fun hHeld => ?_)
  · trivial
  clear hK K
  try simp only [Act.put, List.setIfInBounds_toArray, List.set_cons_zero, List.set_cons_succ]
  refine wpAnyH_done (by kernel_rfl) ?_ _
  go_wp2
  have hrow : Row (((W.drewN q2).drew).setRow w.heap.size [Value.int .i64 (a.tdiv gb), .int .i64 (b / gb)].toArray) w.heap.size 24 [.int .i64 (a.tdiv gb), .int .i64 (b / gb)] := Row.setRow (w := (W.drewN q2).drew) HR.out _
  refine bodyPost_ret (results_rowA rfl _ _ w.heap.size 24 _ (0, 0) _ rfl hrow Tryz.underlying24 rfl (by kernel_rfl)) rfl ⟨by rw [← Hgb.out], ?_⟩
  have hb0 := HRB.out
  exact Below.setRow (w := (W.drewN q2).drew) ⟨hb0.os, hb0.tape, hb0.output, hb0.size, hb0.block⟩ (Nat.le_refl _) _
end Go.Proofs.YtjgofnbfpoephaaGreatDoor
