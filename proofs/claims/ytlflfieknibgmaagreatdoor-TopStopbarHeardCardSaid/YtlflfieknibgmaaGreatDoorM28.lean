import Derived.Test.YtlflfieknibgmaaGreatDoorM20
import Derived.Test.YtlflfieknibgmaaGreatDoorM27
namespace Go.Proofs.YtlflfieknibgmaaGreatDoor
set_option linter.all false
open Go.RowKit Go.Fl
attribute [local go_sem] Oper.semAt_some
def Tr (x z : Nat) : Prop := ∀ w : World, (callFunc 167 #[.float .f64 x]).run Tryz.prog w = .ok (.value (.float .f64 z)) w
set_option maxRecDepth 100000 in
set_option maxHeartbeats 1000000 in
theorem truncM_by (x z : Nat) (w : World) (h : Tr x z) : Calls Tryz.prog 139 #[.float .f64 x] w fun e w' => e = .returned (.float .f64 z) ∧ w = w' := by
  have h1 : ∀ w, (callFunc 167 #[.float .f64 x]).run Tryz.prog w = .ok (.value (.float .f64 z)) w := h
  go_enter Tryz.func139, Tryz.ntmps139
  go_wp2
  go_ret
  exact ⟨rfl, rfl⟩
end Go.Proofs.YtlflfieknibgmaaGreatDoor
namespace Go.Proofs.YtlflfieknibgmaaGreatDoor
set_option linter.all false
open Go.RowKit Go.Fl Ieee
theorem E.trunc {x : Nat} {n : Int} (h : E x n) (hn : n.natAbs < 2 ^ 53) : ∃ s m e, double.read x = .number s m e ∧ E (double.write ((Datum.number s m e).integral .zero)) n := by
  obtain ⟨s, m, e, h1, h2, h3⟩ := Val.read h
  refine ⟨s, m, e, h1, ?_⟩
  have ht := toInt_val h (by decide)
  rw [h1] at ht
  have hu : (-double.leastPlace).toNat = u64 := by decide
  have hc : (n * ((2 ^ u64 : Nat) : Int)).tdiv ((2 ^ u64 : Nat) : Int) = n := Int.mul_tdiv_cancel n p64
  rw [hu, hc] at ht
  simp only [Datum.toInt, Datum.integral, Option.some.injEq] at ht
  show Val double (double.write (Datum.number s _ 0)) _
  obtain ⟨c, hcc⟩ : ∃ c, c = Toward.zero.cut s (m <<< e.toNat) (-e).toNat := ⟨_, rfl⟩
  rw [← hcc] at ht
  rw [← hcc]
  rw [signed_eq, Nat.pow_zero, Nat.mul_one] at ht
  have ha : c = n.natAbs := by cases s <;> simp at ht <;> omega
  have hsn : n = if s then -(n.natAbs : Int) else n.natAbs := by cases s <;> simp at ht ⊢ <;> omega
  refine write_val double s c 0 n u64 hn ?_ hsn (pow_bound hn (by decide)) (by decide)
  rw [ha]
  have e1 : ((0 : Int) - double.leastPlace).toNat = u64 := by decide
  have e2 : (double.leastPlace - 0).toNat = 0 := by decide
  rw [e1, e2, Nat.pow_zero, Nat.mul_one]
theorem toIntegral_num : ∃ Fn : Bool → Nat → Nat → Sem Value, ∀ x, Extern.MathFloor.toIntegral "math.archTrunc" .zero #[.float .f64 x] = (match FloatKind.f64.decode x with
    | .nan s t => Fn s t x
    | d => pure (.float .f64 (FloatKind.f64.encode (d.integral .zero)))) := ⟨_, fun x => rfl⟩
theorem tr_of {x : Nat} {s : Bool} {m : Nat} {e : Int} (h : double.read x = .number s m e) : Tr x (double.write ((Datum.number s m e).integral .zero)) := by
  intro w
  have hd : FloatKind.f64.decode x = .number s m e := h
  have e : (callFunc 167 #[.float .f64 x]).run Tryz.prog w = ((do let v ← Extern.MathFloor.toIntegral "math.archTrunc" .zero #[.float .f64 x]; pure (Next.value v)) : Sem Next).run Tryz.prog w := by kernel_rfl
  obtain ⟨Fn, hFn⟩ := toIntegral_num
  rw [e, hFn, hd]
  rfl
theorem E.tr {x : Nat} {n : Int} (h : E x n) (hn : n.natAbs < 2 ^ 53) : ∃ z, Tr x z ∧ E z n ∧ z < 2 ^ 64 := by
  obtain ⟨s, m, e, h1, h2⟩ := E.trunc h hn
  exact ⟨_, tr_of h1, h2, double.write_lt _⟩
theorem quo_eq (s : Bool) (m k p : Nat) (e : Int) (hk : k * 2 ^ p ≠ 0) (hl : (k * 2 ^ p).log2 = 52) (hd : k * 2 ^ p ∣ m * 2 ^ (106 - m.log2)) : Datum.quotient 54 (.number s m e) (.number false (k * 2 ^ p) (-(p : Int))) =
    some (.number s (2 * (m * 2 ^ (106 - m.log2) / (k * 2 ^ p))) (e + p - ((106 - m.log2 : Nat) : Int) - 1)) := by
  unfold Datum.quotient
  simp only [if_neg hk, hl, shl, Bool.xor_false, Nat.mod_eq_zero_of_dvd hd]
  simp
theorem E.div {x y : Nat} {n : Int} {k p : Nat} (h : E x (n * k)) (hn : n.natAbs < 2 ^ 53) (hy : double.read y = .number false (k * 2 ^ p) (-(p : Int))) (hk : 0 < k) (hl : (k * 2 ^ p).log2 = 52) (hd : ∀ m a : Nat, k ∣ m * 2 ^ a → k * 2 ^ p ∣ m * 2 ^ 54) : ∃ r, double.div x y = some r ∧ E r n ∧ r < 2 ^ 64 := by
  obtain ⟨s, m, e, h1, h2, h3⟩ := Val.read h
  obtain ⟨b1, _, _⟩ := read_bounds h1 (by decide)
  have hkp : 0 < k * 2 ^ p := Nat.mul_pos hk (Nat.two_pow_pos _)
  have hm : m.log2 ≤ 52 := by
    by_cases hm0 : m = 0
    · subst hm0; decide
    · have := (Nat.log2_lt hm0).2 (show m < 2 ^ (52 + 1) from b1); omega
  have hab := abs_of h3.symm
  have hnk : (n * k).natAbs = n.natAbs * k := by rw [Int.natAbs_mul]; rfl
  rw [hnk] at hab
  obtain ⟨A, hA⟩ : ∃ A, A = (e - double.leastPlace).toNat := ⟨_, rfl⟩
  rw [← hA] at hab
  have hAe : (A : Int) = e - double.leastPlace := by omega
  obtain ⟨more, hmore⟩ : ∃ more, more = 106 - m.log2 := ⟨_, rfl⟩
  have hdv : k * 2 ^ p ∣ m * 2 ^ more := by
    have e1 : m * 2 ^ more = m * 2 ^ 54 * 2 ^ (more - 54) := by rw [Nat.mul_assoc, ← Nat.pow_add]; congr 2; omega
    rw [e1]
    exact Nat.dvd_trans (hd m A (by rw [hab, Nat.mul_comm n.natAbs k, Nat.mul_assoc]; exact Nat.dvd_mul_right _ _)) (Nat.dvd_mul_right _ _)
  obtain ⟨q, hq⟩ : ∃ q, q = m * 2 ^ more / (k * 2 ^ p) := ⟨_, rfl⟩
  have hqm : q * (k * 2 ^ p) = m * 2 ^ more := by rw [hq]; exact Nat.div_mul_cancel hdv
  have hsn : n = if s then -(n.natAbs : Int) else n.natAbs := by
    have h4 := sgn_of h3.symm
    rw [hnk] at h4
    have hk0 : (k : Int) ≠ 0 := by omega
    cases s
    · simp only [Bool.false_eq_true, if_false] at h4 ⊢
      refine Int.eq_of_mul_eq_mul_right hk0 ?_
      rw [h4]; exact_mod_cast rfl
    · simp only [if_true] at h4 ⊢
      refine Int.eq_of_mul_eq_mul_right hk0 ?_
      rw [h4, Int.neg_mul]; exact_mod_cast rfl
  have ex : double.div x y = some (double.write (.number s (2 * q) (e + p - (more : Int) - 1))) := by
    unfold Format.div
    rw [h1, hy]
    show (Datum.quotient 54 _ _).map _ = _
    rw [quo_eq s m k p e (by omega) hl (by rw [← hmore]; exact hdv), ← hmore, ← hq]
    rfl
  refine ⟨_, ex, ?_, double.write_lt _⟩
  refine write_val double s (2 * q) _ n u64 hn ?_ hsn (pow_bound hn (by decide)) (by decide)
  obtain ⟨U, hU⟩ : ∃ U, U = 2 ^ u64 := ⟨_, rfl⟩
  rw [← hU] at hab ⊢
  refine Nat.eq_of_mul_eq_mul_right hkp ?_
  by_cases hp : double.leastPlace ≤ e + p - (more : Int) - 1
  · have e1 : (double.leastPlace - (e + p - (more : Int) - 1)).toNat = 0 := by omega
    obtain ⟨t, ht⟩ : ∃ t, t = (e + p - (more : Int) - 1 - double.leastPlace).toNat := ⟨_, rfl⟩
    rw [e1, ← ht, Nat.pow_zero, Nat.mul_one]
    have e2 : more + t + 1 = A + p := by omega
    calc 2 * q * 2 ^ t * (k * 2 ^ p) = q * (k * 2 ^ p) * 2 ^ t * 2 := by ac_rfl
      _ = m * 2 ^ (more + t + 1) := by rw [hqm, Nat.mul_assoc, Nat.mul_assoc, ← Nat.mul_assoc (2 ^ more), ← Nat.pow_add, ← Nat.pow_succ]
      _ = m * 2 ^ A * 2 ^ p := by rw [e2, Nat.pow_add, Nat.mul_assoc]
      _ = n.natAbs * U * (k * 2 ^ p) := by rw [hab]; ac_rfl
  · have e1 : (e + p - (more : Int) - 1 - double.leastPlace).toNat = 0 := by omega
    obtain ⟨d, hd2⟩ : ∃ d, d = (double.leastPlace - (e + p - (more : Int) - 1)).toNat := ⟨_, rfl⟩
    rw [e1, ← hd2, Nat.pow_zero, Nat.mul_one]
    have e2 : more + 1 = A + p + d := by omega
    calc 2 * q * (k * 2 ^ p) = q * (k * 2 ^ p) * 2 := by ac_rfl
      _ = m * 2 ^ (more + 1) := by rw [hqm, Nat.mul_assoc, ← Nat.pow_succ]
      _ = m * 2 ^ A * 2 ^ p * 2 ^ d := by rw [e2, Nat.pow_add, Nat.pow_add, Nat.mul_assoc, Nat.mul_assoc, Nat.mul_assoc]
      _ = n.natAbs * U * 2 ^ d * (k * 2 ^ p) := by rw [hab]; ac_rfl
theorem read_f3 : double.read (floatOfInt .f64 3) = .number false (3 * 2 ^ 51) (-((51 : Nat) : Int)) := by decide +kernel
theorem read_f4 : double.read (floatOfInt .f64 4) = .number false (4 * 2 ^ 50) (-((50 : Nat) : Int)) := by decide +kernel
theorem E.third {x : Nat} {n : Int} (h : E x (n * 3)) (hn : n.natAbs < 2 ^ 53) : ∃ r, double.div x (floatOfInt .f64 3) = some r ∧ E r n ∧ r < 2 ^ 64 :=
  E.div (k := 3) (p := 51) h hn read_f3 (by decide) (by decide +kernel) (fun m a hd => by
    have h3 : 3 ∣ m := Nat.Coprime.dvd_of_dvd_mul_right (Nat.Coprime.pow_right a (by decide)) hd
    obtain ⟨c, rfl⟩ := h3
    exact ⟨c * 8, by omega⟩)
theorem E.fourth {x : Nat} {n : Int} (h : E x (n * 4)) (hn : n.natAbs < 2 ^ 53) : ∃ r, double.div x (floatOfInt .f64 4) = some r ∧ E r n ∧ r < 2 ^ 64 :=
  E.div (k := 4) (p := 50) h hn read_f4 (by decide) (by decide +kernel) (fun m a hd => ⟨m * 4, by omega⟩)
def I32 (x : Nat) (n : Int) : Prop := S x (16 * n)
theorem u64_eq (n : Int) : 16 * n * (2 ^ 145 : Nat) * (2 ^ k1 : Nat) = n * (2 ^ u64 : Nat) := by
  have h1 := pw (a := 4) (b := 145) (c := 149) rfl
  have h2 := pw (a := 149) (b := k1) (c := u64) (by rw [k1_eq]; rfl)
  rw [← h1] at h2
  rw [← h2, show (16 : Int) = ((2 ^ 4 : Nat) : Int) from rfl]
  ac_rfl
theorem I32.wide {x : Nat} {n : Int} (h : I32 x n) : ∃ y, floatToFloatBits .f32 x .f64 = some y ∧ E y n ∧ y < 2 ^ 64 := by
  obtain ⟨y, h1, h2⟩ := S.wide h
  refine ⟨y, h1, ?_, wide_lt h1⟩
  unfold D at h2
  rw [u64_eq] at h2
  exact h2
theorem E.narrow {y : Nat} {n : Int} (h : E y n) (hn : n.natAbs < 2 ^ 20) : ∃ x, floatToFloatBits .f64 y .f32 = some x ∧ I32 x n :=
  D.narrow (n := 16 * n) (by unfold D; rw [u64_eq]; exact h) (by omega)
end Go.Proofs.YtlflfieknibgmaaGreatDoor
