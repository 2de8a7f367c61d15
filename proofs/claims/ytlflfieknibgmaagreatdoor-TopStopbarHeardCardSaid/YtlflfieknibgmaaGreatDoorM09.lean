import Derived.Test.YtlflfieknibgmaaGreatDoorM04
import Derived.Laws.ComplexArith
namespace Go.Fl
set_option linter.all false
open Ieee
theorem signed_prod (s t : Bool) (m p a b : Nat) : signed s m a * signed t p b = signed (s ^^ t) (m * p) (a + b) := by
  rw [signed_eq, signed_eq, signed_eq]
  have : m * p * 2 ^ (a + b) = (m * 2 ^ a) * (p * 2 ^ b) := by rw [Nat.pow_add, Nat.mul_mul_mul_comm]
  rw [this, Int.natCast_mul]
  cases s <;> cases t <;> simp [Int.neg_mul, Int.mul_neg]
theorem mulg_val {f : Format} {x y : Nat} {V U n : Int} {j L : Nat} (h : Val f x V) (k : Val f y U) (hL : (L : Int) = -f.leastPlace) (hp : V * U = n * (2 ^ (j + L) : Nat))
    (hn : n.natAbs < 2 ^ (f.fractionBits + 1)) (ho : n.natAbs * 2 ^ j < 2 ^ (f.fractionBits + 2 ^ f.exponentBits - 2)) (he : 3 ≤ 2 ^ f.exponentBits) :
    ∃ r, f.mul x y = some r ∧ Val f r (n * (2 ^ j : Nat)) := by
  obtain ⟨s, m, e, h1, h2, rfl⟩ := h.read
  obtain ⟨t, p, e', k1, k2, rfl⟩ := k.read
  refine ⟨f.write (.number (s ^^ t) (m * p) (e + e')), by unfold Format.mul; rw [h1, k1]; rfl, ?_⟩
  rw [signed_prod] at hp
  have hab := abs_of hp
  refine write_val f _ _ _ n j hn ?_ (sgn_of hp) ho he
  rw [Nat.pow_add 2 j L, ← Nat.mul_assoc] at hab
  by_cases h3 : f.leastPlace ≤ e + e'
  · have e1 : (f.leastPlace - (e + e')).toNat = 0 := by omega
    have e2 : (e - f.leastPlace).toNat + (e' - f.leastPlace).toNat = (e + e' - f.leastPlace).toNat + L := by omega
    rw [e2, Nat.pow_add, ← Nat.mul_assoc] at hab
    rw [e1, Nat.pow_zero, Nat.mul_one]
    exact Nat.eq_of_mul_eq_mul_right (Nat.two_pow_pos L) hab
  · have e1 : (e + e' - f.leastPlace).toNat = 0 := by omega
    have e2 : L = (f.leastPlace - (e + e')).toNat + ((e - f.leastPlace).toNat + (e' - f.leastPlace).toNat) := by omega
    rw [e1, Nat.pow_zero, Nat.mul_one]
    have e3 : (2 : Nat) ^ L = 2 ^ (f.leastPlace - (e + e')).toNat * 2 ^ ((e - f.leastPlace).toNat + (e' - f.leastPlace).toNat) := by rw [← Nat.pow_add]; exact congrArg _ e2
    rw [e3, ← Nat.mul_assoc] at hab
    exact Nat.eq_of_mul_eq_mul_right (Nat.two_pow_pos _) hab
theorem sum_val {f : Format} {A B : Datum} {s t : Bool} {m p : Nat} {e e' : Int} {n : Int} {j : Nat} (h1 : A = .number s m e) (h2 : f.leastPlace ≤ e) (k1 : B = .number t p e') (k2 : f.leastPlace ≤ e')
    (hsum : signed s m (e - f.leastPlace).toNat + signed t p (e' - f.leastPlace).toNat = n * (2 ^ j : Nat))
    (hn : n.natAbs < 2 ^ (f.fractionBits + 1)) (ho : n.natAbs * 2 ^ j < 2 ^ (f.fractionBits + 2 ^ f.exponentBits - 2)) (he : 3 ≤ 2 ^ f.exponentBits) :
    ∃ r, (A.sum B).map f.write = some r ∧ Val f r (n * (2 ^ j : Nat)) := by
  obtain ⟨base, hb⟩ : ∃ base, base = min e e' := ⟨_, rfl⟩
  obtain ⟨q, hq⟩ : ∃ q : Nat, q = (base - f.leastPlace).toNat := ⟨_, rfl⟩
  have a1 : (e - f.leastPlace).toNat = (e - base).toNat + q := by omega
  have a2 : (e' - f.leastPlace).toNat = (e' - base).toNat + q := by omega
  rw [a1, a2, ← signed_mul, ← signed_mul, ← Int.add_mul] at hsum
  obtain ⟨total, ht⟩ : ∃ total, total = signed s m (e - base).toNat + signed t p (e' - base).toNat := ⟨_, rfl⟩
  rw [← ht] at hsum
  refine ⟨f.write (.number (if total = 0 then s && t else total < 0) total.natAbs base), ?_, ?_⟩
  · rw [h1, k1]
    simp only [Datum.sum, Option.map_some]
    rw [← hb, ← ht]
  · have hp : (0 : Int) < (2 ^ q : Nat) := by exact_mod_cast Nat.two_pow_pos q
    have hpj : (0 : Int) < (2 ^ j : Nat) := by exact_mod_cast Nat.two_pow_pos j
    have habs : total.natAbs * 2 ^ q = n.natAbs * 2 ^ j := by
      have := congrArg Int.natAbs hsum
      rwa [Int.natAbs_mul, Int.natAbs_mul, Int.natAbs_natCast, Int.natAbs_natCast] at this
    refine write_val f _ _ _ n j hn ?_ ?_ ho he
    · have : (f.leastPlace - base).toNat = 0 := by omega
      rw [this, Nat.pow_zero, Nat.mul_one, ← hq, habs]
    · by_cases h0 : total = 0
      · have : n = 0 := by
          rw [h0, Int.zero_mul] at hsum
          rcases Int.mul_eq_zero.1 hsum.symm with h | h
          · exact h
          · omega
        subst this; simp
      · rw [if_neg h0]
        by_cases hneg : total < 0
        · rw [decide_eq_true hneg, if_pos rfl]
          have : n < 0 := by
            have h3 : total * (2 ^ q : Nat) < 0 := Int.mul_neg_of_neg_of_pos hneg hp
            rw [hsum] at h3
            by_cases hx : n < 0
            · exact hx
            · have := Int.mul_nonneg (Int.not_lt.1 hx) (Int.le_of_lt hpj); omega
          omega
        · rw [decide_eq_false hneg]
          have : 0 ≤ n := by
            have h3 : 0 ≤ total * (2 ^ q : Nat) := Int.mul_nonneg (by omega) (Int.le_of_lt hp)
            rw [hsum] at h3
            exact Int.nonneg_of_mul_nonneg_left h3 hpj
          simp; omega
theorem sub_val {f : Format} {x y : Nat} {V U n : Int} {j : Nat} (h : Val f x V) (k : Val f y U) (hsum : V - U = n * (2 ^ j : Nat))
    (hn : n.natAbs < 2 ^ (f.fractionBits + 1)) (ho : n.natAbs * 2 ^ j < 2 ^ (f.fractionBits + 2 ^ f.exponentBits - 2)) (he : 3 ≤ 2 ^ f.exponentBits) :
    ∃ r, f.sub x y = some r ∧ Val f r (n * (2 ^ j : Nat)) := by
  obtain ⟨s, m, e, h1, h2, rfl⟩ := h.read
  obtain ⟨t, p, e', k1, k2, rfl⟩ := k.read
  refine sum_val (t := !t) (p := p) (e' := e') h1 h2 (by rw [k1]; rfl) k2 ?_ hn ho he
  rw [← hsum, Int.sub_eq_add_neg]
  congr 1
  rw [signed_eq, signed_eq]; cases t <;> simp
theorem narrow {y : Nat} {n : Int} {j : Nat} (h : Val double y (n * (2 ^ j : Nat) * (2 ^ k1 : Nat))) (hn : n.natAbs < 2 ^ 24) (hj : j + 3 ≤ 200) :
    ∃ x, floatToFloatBits .f64 y .f32 = some x ∧ Val single x (n * (2 ^ j : Nat)) := by
  obtain ⟨s, m, e, h1, h2, hV⟩ := h.read
  have l1 : single.leastPlace = -149 := by decide
  have l2 : double.leastPlace = -1074 := by decide
  have hab : m * 2 ^ (e - double.leastPlace).toNat = n.natAbs * 2 ^ (j + k1) := abs_of (s := s) (by rw [← hV, Int.mul_assoc, pw rfl])
  have hsg := sgn_of (s := s) (m := m) (u := (e - double.leastPlace).toNat) (n := n) (j := j + k1) (by rw [← hV, Int.mul_assoc, pw rfl])
  have hval : Val single (single.write (.number s m e)) (n * (2 ^ j : Nat)) := by
    refine write_val single s m e n j hn ?_ hsg (pow_bound hn (by show 24 + j ≤ 23 + 2 ^ 8 - 2; omega)) (by decide)
    rw [Nat.pow_add, ← Nat.mul_assoc] at hab
    by_cases h3 : single.leastPlace ≤ e
    · have e1 : (single.leastPlace - e).toNat = 0 := by omega
      have e2 : (e - double.leastPlace).toNat = (e - single.leastPlace).toNat + k1 := by rw [k1_eq]; omega
      rw [e2, Nat.pow_add, ← Nat.mul_assoc] at hab
      rw [e1, Nat.pow_zero, Nat.mul_one]
      exact Nat.eq_of_mul_eq_mul_right (Nat.two_pow_pos k1) hab
    · have e1 : (e - single.leastPlace).toNat = 0 := by omega
      have e2 : k1 = (single.leastPlace - e).toNat + (e - double.leastPlace).toNat := by rw [k1_eq]; omega
      rw [e1, Nat.pow_zero, Nat.mul_one]
      have e3 : (2 : Nat) ^ k1 = 2 ^ (single.leastPlace - e).toNat * 2 ^ (e - double.leastPlace).toNat := by rw [← Nat.pow_add]; exact congrArg _ e2
      rw [e3, ← Nat.mul_assoc] at hab
      exact Nat.eq_of_mul_eq_mul_right (Nat.two_pow_pos _) hab
  refine ⟨single.write (.number s m e), ?_, hval⟩
  unfold floatToFloatBits
  rw [if_neg (by decide)]
  have hd : FloatKind.f64.decode y = .number s m e := h1
  rw [hd]
  simp only
  obtain ⟨s', v', ⟨m', e', hr, _⟩, _⟩ := hval
  have : (FloatKind.f32.decode (FloatKind.f32.encode (.number s m e))).isInfinity = false := by
    show (single.read (single.write (.number s m e))).isInfinity = false
    rw [hr]; rfl
  rw [this]; rfl
def S (x : Nat) (n : Int) : Prop := Val single x (n * (2 ^ 145 : Nat))
def D (x : Nat) (n : Int) : Prop := Val double x (n * (2 ^ 145 : Nat) * (2 ^ k1 : Nat))
theorem S.wide {x : Nat} {n : Int} (h : S x n) : ∃ y, floatToFloatBits .f32 x .f64 = some y ∧ D y n := by
  obtain ⟨y, h1, h2, _⟩ := Fl.wide h
  exact ⟨y, h1, h2⟩
theorem D.narrow {y : Nat} {n : Int} (h : D y n) (hn : n.natAbs < 2 ^ 24) : ∃ x, floatToFloatBits .f64 y .f32 = some x ∧ S x n := Fl.narrow h hn (by decide)
theorem S.zero : S 0 0 := by show Val single 0 _; rw [Int.zero_mul]; exact val_zero
theorem S.add {x y : Nat} {n m : Int} (h : S x n) (k : S y m) (hb : (n + m).natAbs < 2 ^ 24) : ∃ r, single.add x y = some r ∧ S r (n + m) :=
  add_val h k (Int.add_mul _ _ _).symm hb (pow_bound hb (by decide)) (by decide)
theorem D.add {x y : Nat} {n m : Int} (h : D x n) (k : D y m) (hb : (n + m).natAbs < 2 ^ 24) : ∃ r, double.add x y = some r ∧ D r (n + m) := by
  have e : (n + m) * (2 ^ 145 : Nat) * (2 ^ k1 : Nat) = (n + m) * (2 ^ (145 + k1) : Nat) := by rw [Int.mul_assoc, pw rfl]
  unfold D
  rw [e]
  refine add_val h k ?_ (Nat.lt_trans hb (Nat.pow_lt_pow_right (by decide) (by decide))) (pow_bound hb ?_) (by decide)
  · rw [← e, Int.add_mul, Int.add_mul]
  · show 24 + (145 + k1) ≤ 52 + 2 ^ 11 - 2
    rw [k1_eq]; decide
theorem D.sub {x y : Nat} {n m : Int} (h : D x n) (k : D y m) (hb : (n - m).natAbs < 2 ^ 24) : ∃ r, double.sub x y = some r ∧ D r (n - m) := by
  have e : (n - m) * (2 ^ 145 : Nat) * (2 ^ k1 : Nat) = (n - m) * (2 ^ (145 + k1) : Nat) := by rw [Int.mul_assoc, pw rfl]
  unfold D
  rw [e]
  refine sub_val h k ?_ (Nat.lt_trans hb (Nat.pow_lt_pow_right (by decide) (by decide))) (pow_bound hb ?_) (by decide)
  · rw [← e, Int.sub_mul, Int.sub_mul]
  · show 24 + (145 + k1) ≤ 52 + 2 ^ 11 - 2
    rw [k1_eq]; decide
theorem D.mul {x y : Nat} {n c : Int} (h : D x n) (k : D y (16 * c)) (hb : (n * c).natAbs < 2 ^ 24) : ∃ r, double.mul x y = some r ∧ D r (n * c) := by
  have e : (n * c) * (2 ^ 145 : Nat) * (2 ^ k1 : Nat) = (n * c) * (2 ^ (145 + k1) : Nat) := by rw [Int.mul_assoc, pw rfl]
  unfold D
  rw [e]
  refine mulg_val (L := u64) h k (by decide) ?_ (Nat.lt_trans hb (Nat.pow_lt_pow_right (by decide) (by decide))) (pow_bound hb ?_) (by decide)
  · have e2 : (16 * c) * (2 ^ 145 : Nat) * (2 ^ k1 : Nat) = c * (2 ^ u64 : Nat) := by
      rw [Int.mul_comm 16 c, Int.mul_assoc, Int.mul_assoc, pw rfl]
      have : (16 : Int) = (2 ^ 4 : Nat) := by decide
      rw [this, pw (c := u64) (by rw [k1_eq]; rfl)]
    have e3 : n * (2 ^ 145 : Nat) * (2 ^ k1 : Nat) = n * (2 ^ (145 + k1) : Nat) := by rw [Int.mul_assoc, pw rfl]
    rw [e2, e3, Int.mul_assoc, Int.mul_assoc, ← Int.mul_assoc _ c, Int.mul_comm _ c, Int.mul_assoc c, pw rfl]
  · show 24 + (145 + k1) ≤ 52 + 2 ^ 11 - 2
    rw [k1_eq]; decide
section
variable {P : Program}
end
theorem S.one : S 1065353216 (16 * 1) := by
  have h := nearest32 1 (by decide)
  have e : FloatKind.f32.nearest 1 = 1065353216 := by decide +kernel
  rw [e] at h
  have e2 : (16 * 1 : Int) * (2 ^ 145 : Nat) = 1 * (2 ^ u32 : Nat) := by decide
  unfold S; rw [e2]; exact h
def E (x : Nat) (n : Int) : Prop := Val double x (n * (2 ^ u64 : Nat))
theorem p64 : ((2 ^ u64 : Nat) : Int) ≠ 0 := by exact_mod_cast Nat.ne_of_gt (Nat.two_pow_pos u64)
theorem p64p : (0 : Int) < ((2 ^ u64 : Nat) : Int) := by exact_mod_cast Nat.two_pow_pos u64
theorem E.near {n : Int} (hn : n.natAbs < 2 ^ 53) : E (FloatKind.f64.nearest n) n := nearest64 n hn
theorem E.add {x y : Nat} {n m : Int} (h : E x n) (k : E y m) (hb : (n + m).natAbs < 2 ^ 53) : ∃ r, double.add x y = some r ∧ E r (n + m) :=
  add_val h k (Int.add_mul _ _ _).symm hb (pow_bound hb (by decide)) (by decide)
theorem E.sub {x y : Nat} {n m : Int} (h : E x n) (k : E y m) (hb : (n - m).natAbs < 2 ^ 53) : ∃ r, double.sub x y = some r ∧ E r (n - m) :=
  sub_val h k (Int.sub_mul _ _ _).symm hb (pow_bound hb (by decide)) (by decide)
theorem E.mul {x y : Nat} {n m : Int} (h : E x n) (k : E y m) (hb : (n * m).natAbs < 2 ^ 53) : ∃ r, double.mul x y = some r ∧ E r (n * m) := by
  refine mulg_val (L := u64) h k (by decide) ?_ hb (pow_bound hb (by decide)) (by decide)
  rw [← pw rfl, Int.mul_assoc, Int.mul_assoc, ← Int.mul_assoc _ m, Int.mul_comm _ m, Int.mul_assoc m]
theorem E.int {x : Nat} {n : Int} (h : E x n) (hb : n.natAbs < 2 ^ 60) : floatToIntVal .f64 x .i64 = some n := by
  have h1 := toInt_val h (by decide)
  have e0 : (- double.leastPlace).toNat = u64 := by decide
  have e : (n * (2 ^ u64 : Nat)).tdiv ((2 ^ (- double.leastPlace).toNat : Nat) : Int) = n := by rw [e0]; exact Int.mul_tdiv_cancel _ p64
  rw [e] at h1
  unfold floatToIntVal
  have h2 : (FloatKind.f64.decode x).toInt .zero = some n := h1
  rw [h2]
  simp only
  rw [if_pos (by simp [IntKind.min, IntKind.max, IntKind.signed, IntKind.bits]; omega)]
theorem E.eq {x y : Nat} {n m : Int} (h : E x n) (k : E y m) : (double.order x y == some .eq) = decide (n = m) := by
  rw [order_eq_iff h k]
  congr 1
  exact propext ⟨fun e => Int.eq_of_mul_eq_mul_right p64 e, fun e => by rw [e]⟩
theorem E.lt {x y : Nat} {n m : Int} (h : E x n) (k : E y m) : (double.order x y == some .lt) = decide (n < m) := by
  rw [order_lt_iff h k]
  congr 1
  exact propext ⟨fun e => Int.lt_of_mul_lt_mul_right e (Int.le_of_lt p64p), fun e => Int.mul_lt_mul_of_pos_right e p64p⟩
theorem E.gt {x y : Nat} {n m : Int} (h : E x n) (k : E y m) : (double.order x y == some .gt) = decide (m < n) := by
  rw [order_gt_iff h k]
  congr 1
  exact propext ⟨fun e => Int.lt_of_mul_lt_mul_right e (Int.le_of_lt p64p), fun e => Int.mul_lt_mul_of_pos_right e p64p⟩
theorem read_neg {x : Nat} (hx : x < 2 ^ 64) {s : Bool} {m : Nat} {e : Int} (h : double.read x = .number s m e) : double.read (x ^^^ 2 ^ 63) = .number (!s) m e := by
  have hsw : double.signWeight = 2 ^ 63 := by decide
  have h1 : (x ^^^ 2 ^ 63) % 2 ^ 63 = x % 2 ^ 63 := by
    have a := Nat.xor_mod_two_pow (a := x) (b := 2 ^ 63) (n := 63)
    rw [Nat.mod_self, Nat.xor_zero] at a
    exact a
  have h2 : ((x ^^^ 2 ^ 63) / 2 ^ 63 % 2 == 1) = !(x / 2 ^ 63 % 2 == 1) := by
    have a := Nat.xor_div_two_pow (a := x) (b := 2 ^ 63) (n := 63)
    rw [Nat.div_self (by decide)] at a
    rw [a]
    have h3 : x / 2 ^ 63 < 2 := by rw [Nat.div_lt_iff_lt_mul (by decide)]; exact hx
    have h4 : x / 2 ^ 63 = 0 ∨ x / 2 ^ 63 = 1 := by omega
    rcases h4 with h4 | h4 <;> rw [h4] <;> decide
  unfold Format.read at h ⊢
  simp only [hsw] at h ⊢
  rw [h1, h2]
  by_cases c1 : x % 2 ^ 63 < double.binade
  · rw [if_pos c1] at h ⊢
    injection h with a b c
    subst a; subst b; subst c; rfl
  · rw [if_neg c1] at h ⊢
    by_cases c2 : x % 2 ^ 63 < double.infRung
    · rw [if_pos c2] at h ⊢
      injection h with a b c
      subst a; subst b; subst c; rfl
    · rw [if_neg c2] at h
      split at h <;> cases h
theorem E.neg {x : Nat} {n : Int} (hx : x < 2 ^ 64) (h : E x n) : E (Op.negFloat .f64 x) (-n) := by
  obtain ⟨s, m, e, h1, h2, h3⟩ := Val.read h
  have hr : double.read (Op.negFloat .f64 x) = .number (!s) m e := read_neg hx h1
  have hv := Val.of_read hr h2
  have e4 : signed (!s) m (e - double.leastPlace).toNat = -n * (2 ^ u64 : Nat) := by
    rw [Int.neg_mul, h3, signed_eq, signed_eq]
    cases s <;> simp
  rw [e4] at hv
  exact hv
def CE (xr xi : Nat) (a b : Int) : Prop := E xr a ∧ E xi b ∧ xr < 2 ^ 64 ∧ xi < 2 ^ 64
section
variable {P : Program}
theorem lt64 {op : BinOp} {x y r : Nat} (h : floatBits op .f64 x y = some r) : r < 2 ^ 64 := by
  unfold floatBits at h
  split at h
  · exact double.add_lt h
  · exact double.sub_lt h
  · exact double.mul_lt h
  · exact double.div_lt h
  · cases h
theorem CE.add {xr xi yr yi : Nat} {a b c d : Int} (h : CE xr xi a b) (k : CE yr yi c d) (t : TypeId) (h1 : (a + c).natAbs < 2 ^ 53) (h2 : (b + d).natAbs < 2 ^ 53) :
    ∃ r i, CE r i (a + c) (b + d) ∧ ∀ w, (binOp .add t (.complex .f64 xr xi) (.complex .f64 yr yi)).run P w = .ok (.complex .f64 r i) w := by
  obtain ⟨r, m1, v1⟩ := h.1.add k.1 h1
  obtain ⟨i, m2, v2⟩ := h.2.1.add k.2.1 h2
  have f1 : floatBits .add .f64 xr yr = some r := m1
  have f2 : floatBits .add .f64 xi yi = some i := m2
  exact ⟨r, i, ⟨v1, v2, lt64 f1, lt64 f2⟩, fun w => run_complex_sum w .add (Or.inl rfl) t .f64 _ _ _ _ _ _ (by simp [cSumBits, f1, f2])⟩
theorem CE.sub {xr xi yr yi : Nat} {a b c d : Int} (h : CE xr xi a b) (k : CE yr yi c d) (t : TypeId) (h1 : (a - c).natAbs < 2 ^ 53) (h2 : (b - d).natAbs < 2 ^ 53) :
    ∃ r i, CE r i (a - c) (b - d) ∧ ∀ w, (binOp .sub t (.complex .f64 xr xi) (.complex .f64 yr yi)).run P w = .ok (.complex .f64 r i) w := by
  obtain ⟨r, m1, v1⟩ := h.1.sub k.1 h1
  obtain ⟨i, m2, v2⟩ := h.2.1.sub k.2.1 h2
  have f1 : floatBits .sub .f64 xr yr = some r := m1
  have f2 : floatBits .sub .f64 xi yi = some i := m2
  exact ⟨r, i, ⟨v1, v2, lt64 f1, lt64 f2⟩, fun w => run_complex_sum w .sub (Or.inr rfl) t .f64 _ _ _ _ _ _ (by simp [cSumBits, f1, f2])⟩
theorem CE.mul {xr xi yr yi : Nat} {a b c d : Int} (h : CE xr xi a b) (k : CE yr yi c d) (t : TypeId) (h1 : (a * c).natAbs < 2 ^ 52) (h2 : (b * d).natAbs < 2 ^ 52) (h3 : (a * d).natAbs < 2 ^ 52) (h4 : (b * c).natAbs < 2 ^ 52) :
    ∃ r i, CE r i (a * c - b * d) (a * d + b * c) ∧ ∀ w, (binOp .mul t (.complex .f64 xr xi) (.complex .f64 yr yi)).run P w = .ok (.complex .f64 r i) w := by
  obtain ⟨ac, m1, v1⟩ := h.1.mul k.1 (by omega)
  obtain ⟨bd, m2, v2⟩ := h.2.1.mul k.2.1 (by omega)
  obtain ⟨ad, m3, v3⟩ := h.1.mul k.2.1 (by omega)
  obtain ⟨bc, m4, v4⟩ := h.2.1.mul k.1 (by omega)
  obtain ⟨re, m5, v5⟩ := v1.sub v2 (by omega)
  obtain ⟨im, m6, v6⟩ := v3.add v4 (by omega)
  have f1 : floatBits .mul .f64 xr yr = some ac := m1
  have f2 : floatBits .mul .f64 xi yi = some bd := m2
  have f3 : floatBits .mul .f64 xr yi = some ad := m3
  have f4 : floatBits .mul .f64 xi yr = some bc := m4
  have f5 : floatBits .sub .f64 ac bd = some re := m5
  have f6 : floatBits .add .f64 ad bc = some im := m6
  exact ⟨re, im, ⟨v5, v6, lt64 f5, lt64 f6⟩, fun w => run_complex_mul w t _ _ _ _ _ _ (by simp [cMulBits, f1, f2, f3, f4, f5, f6])⟩
end
end Go.Fl
