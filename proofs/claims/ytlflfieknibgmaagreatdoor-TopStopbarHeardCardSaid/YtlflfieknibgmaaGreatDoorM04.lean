import GoSem.Core.Float
import Derived.Laws.FloatArith
namespace Go.Fl
set_option linter.all false
open Ieee
theorem shl (a n : Nat) : a <<< n = a * 2 ^ n := Nat.shiftLeft_eq a n
theorem log2_mul_pow (k j : Nat) (hk : k ≠ 0) : (k * 2 ^ j).log2 = k.log2 + j := by
  induction j with
  | zero => simp
  | succ j ih =>
    have h0 : k * 2 ^ j ≠ 0 := Nat.mul_ne_zero hk (Nat.ne_of_gt (Nat.two_pow_pos j))
    rw [Nat.pow_succ, ← Nat.mul_assoc, Nat.mul_comm, Nat.log2_two_mul h0, ih]; omega
theorem cut_exact (neg : Bool) (kept drop : Nat) (hk : kept ≠ 0) : Toward.even.cut neg (kept * 2 ^ drop) drop = kept := by
  have hl : (kept * 2 ^ drop).log2 = kept.log2 + drop := log2_mul_pow _ _ hk
  have hmin : min drop ((kept * 2 ^ drop).log2 + 2) = drop := by rw [hl]; omega
  have hg : 0 < 2 ^ drop := Nat.two_pow_pos _
  unfold Toward.cut
  simp only [hmin, shl, Nat.one_mul]
  rw [Nat.mul_div_cancel _ hg, Nat.mul_mod_left]
  have h1 : decide (2 ^ drop < 2 * 0) = false := by simp
  have h2 : ((2 ^ drop) == 2 * 0) = false := by simp
  simp
theorem read_word (f : Format) (neg : Bool) (t kept : Nat) (h : (t = 0 ∧ kept < f.binade) ∨ (f.binade ≤ kept ∧ kept < 2 * f.binade))
    (ho : t + 3 ≤ 2 ^ f.exponentBits) : f.read (f.word neg (t * f.binade + kept)) = .number neg kept (f.leastPlace + t) := by
  have hb : 0 < f.binade := Nat.two_pow_pos _
  have hinf : f.infRung = (2 ^ f.exponentBits - 1) * f.binade := rfl
  have hsw : f.signWeight = 2 ^ f.exponentBits * f.binade := by simp [Format.signWeight, Format.binade, Nat.pow_add]
  have hlt : t * f.binade + kept < f.infRung := by
    have h1 : t * f.binade + kept < (t + 2) * f.binade := by
      rw [Nat.add_mul]; rcases h with ⟨rfl, h⟩ | ⟨_, h⟩ <;> omega
    have h2 : (t + 2) * f.binade ≤ f.infRung := by rw [hinf]; exact Nat.mul_le_mul_right _ (by omega)
    omega
  have hlt2 : f.infRung < f.signWeight := by
    rw [hinf, hsw]; exact Nat.mul_lt_mul_of_pos_right (by omega) hb
  have hsp : 0 < f.signWeight := by omega
  have hr : f.word neg (t * f.binade + kept) % f.signWeight = t * f.binade + kept := by
    unfold Format.word; split
    · rw [Nat.add_mod_left, Nat.mod_eq_of_lt (by omega)]
    · rw [Nat.mod_eq_of_lt (by omega)]
  have hs : (f.word neg (t * f.binade + kept) / f.signWeight % 2 == 1) = neg := by
    unfold Format.word; split
    · rename_i hn; subst hn
      rw [Nat.add_div_left _ hsp, Nat.div_eq_of_lt (by omega)]; rfl
    · rename_i hn
      rw [Nat.div_eq_of_lt (by omega)]; simp at hn; subst hn; rfl
  unfold Format.read
  simp only [hr, hs]
  rcases h with ⟨rfl, h⟩ | ⟨h1, h2⟩
  · rw [if_pos (by omega)]; simp
  · have hd : (t * f.binade + kept) / f.binade = t + 1 := by
      rw [Nat.add_comm, Nat.add_mul_div_right _ _ hb]
      have : kept / f.binade = 1 := by
        rw [Nat.div_eq_of_lt_le] <;> omega
      omega
    have hm : (t * f.binade + kept) % f.binade = kept - f.binade := by
      rw [Nat.add_comm, Nat.add_mul_mod_self_right, Nat.mod_eq_sub_mod h1, Nat.mod_eq_of_lt (by omega)]
    have hge : f.binade ≤ t * f.binade + kept := by omega
    rw [if_neg (by omega), if_pos hlt, hd, hm]
    congr 1
    omega
def Is (f : Format) (x : Nat) (s : Bool) (v : Nat) : Prop := ∃ m e, f.read x = .number s m e ∧ f.leastPlace ≤ e ∧ m * 2 ^ (e - f.leastPlace).toNat = v
theorem write_is (f : Format) (s : Bool) (mag : Nat) (place : Int) (k j : Nat) (hk : k ≠ 0) (hf : k.log2 ≤ f.fractionBits)
    (hv : mag * 2 ^ (place - f.leastPlace).toNat = k * 2 ^ j * 2 ^ (f.leastPlace - place).toNat)
    (ho : k.log2 + j - f.fractionBits + 3 ≤ 2 ^ f.exponentBits) : Is f (f.write (.number s mag place)) s (k * 2 ^ j) := by
  have hm : mag ≠ 0 := by
    rintro rfl
    have : 0 < k * 2 ^ j * 2 ^ (f.leastPlace - place).toNat := Nat.mul_pos (Nat.mul_pos (by omega) (Nat.two_pow_pos _)) (Nat.two_pow_pos _)
    omega
  have hL : mag.log2 + (place - f.leastPlace).toNat = k.log2 + j + (f.leastPlace - place).toNat := by
    have := congrArg Nat.log2 hv
    rwa [log2_mul_pow _ _ hm, log2_mul_pow _ _ (Nat.mul_ne_zero hk (Nat.ne_of_gt (Nat.two_pow_pos j))), log2_mul_pow _ _ hk] at this
  obtain ⟨t, ht⟩ : ∃ t : Nat, t = k.log2 + j - f.fractionBits := ⟨_, rfl⟩
  have hlast : max (place + (mag.log2 : Int) - f.fractionBits) f.leastPlace = f.leastPlace + t := by omega
  obtain ⟨kept, hkept⟩ : ∃ kept, kept = k * 2 ^ (j - t) := ⟨_, rfl⟩
  have hk0 : kept ≠ 0 := by rw [hkept]; exact Nat.mul_ne_zero hk (Nat.ne_of_gt (Nat.two_pow_pos _))
  have htj : t ≤ j := by omega
  have hcut : mag * 2 ^ (place - (f.leastPlace + t)).toNat = kept * 2 ^ ((f.leastPlace + (t : Int)) - place).toNat := by
    rw [hkept]
    by_cases h1 : f.leastPlace ≤ place
    · have e1 : (f.leastPlace - place).toNat = 0 := by omega
      rw [e1, Nat.pow_zero, Nat.mul_one] at hv
      by_cases h2 : f.leastPlace + t ≤ place
      · have e2 : ((f.leastPlace + (t : Int)) - place).toNat = 0 := by omega
        rw [e2, Nat.pow_zero, Nat.mul_one]
        have e3 : (place - f.leastPlace).toNat = (place - (f.leastPlace + t)).toNat + t := by omega
        have e4 : j = (j - t) + t := by omega
        rw [e3, Nat.pow_add, ← Nat.mul_assoc] at hv
        rw [e4, Nat.pow_add, ← Nat.mul_assoc] at hv
        have := Nat.eq_of_mul_eq_mul_right (Nat.two_pow_pos t) hv
        simpa using this
      · have e2 : (place - (f.leastPlace + (t : Int))).toNat = 0 := by omega
        rw [e2, Nat.pow_zero, Nat.mul_one]
        have e4 : j = (j - t) + ((f.leastPlace + (t : Int)) - place).toNat + (place - f.leastPlace).toNat := by omega
        rw [e4, Nat.pow_add, ← Nat.mul_assoc] at hv
        have := Nat.eq_of_mul_eq_mul_right (Nat.two_pow_pos _) hv
        rw [this, Nat.pow_add, Nat.mul_assoc]
    · have e1 : (place - f.leastPlace).toNat = 0 := by omega
      have e2 : (place - (f.leastPlace + (t : Int))).toNat = 0 := by omega
      rw [e1, Nat.pow_zero, Nat.mul_one] at hv
      rw [e2, Nat.pow_zero, Nat.mul_one, hv, Nat.mul_assoc, Nat.mul_assoc, ← Nat.pow_add, ← Nat.pow_add]
      congr 2
      omega
  have hnear : f.nearest s mag place = f.word s (min (t * f.binade + kept) f.infRung) := by
    unfold Format.nearest
    rw [if_neg hm, hlast]
    simp only [shl]
    rw [hcut, cut_exact _ _ _ hk0]
    congr 3
    have : (f.leastPlace + (t : Int) - f.leastPlace).toNat = t := by omega
    rw [this]
  have hb : f.binade = 2 ^ f.fractionBits := rfl
  have hkl : 2 ^ k.log2 ≤ k ∧ k < 2 ^ (k.log2 + 1) := ⟨Nat.log2_self_le hk, Nat.lt_log2_self⟩
  have hup : kept < 2 ^ (k.log2 + 1 + (j - t)) := by
    rw [hkept, Nat.pow_add]; exact Nat.mul_lt_mul_of_pos_right hkl.2 (Nat.two_pow_pos _)
  have hlo : 2 ^ (k.log2 + (j - t)) ≤ kept := by
    rw [hkept, Nat.pow_add]; exact Nat.mul_le_mul_right _ hkl.1
  have hcase : (t = 0 ∧ kept < f.binade) ∨ (f.binade ≤ kept ∧ kept < 2 * f.binade) := by
    by_cases hz : k.log2 + j < f.fractionBits
    · left
      refine ⟨by omega, Nat.lt_of_lt_of_le hup ?_⟩
      rw [hb]; exact Nat.pow_le_pow_right (by decide) (by omega)
    · right
      have e : k.log2 + (j - t) = f.fractionBits := by omega
      refine ⟨by rw [hb, ← e]; exact hlo, ?_⟩
      have e2 : k.log2 + 1 + (j - t) = f.fractionBits + 1 := by omega
      rw [e2, Nat.pow_succ] at hup
      rw [hb]; omega
  have hinf : t * f.binade + kept ≤ f.infRung := by
    have h1 : t * f.binade + kept < (t + 2) * f.binade := by
      rw [Nat.add_mul]; rcases hcase with ⟨rfl, h⟩ | ⟨_, h⟩ <;> omega
    have h2 : (t + 2) * f.binade ≤ f.infRung := by
      show _ ≤ (2 ^ f.exponentBits - 1) * f.binade
      exact Nat.mul_le_mul_right _ (by omega)
    omega
  refine ⟨kept, f.leastPlace + t, ?_, by omega, ?_⟩
  · show f.read (f.nearest s mag place) = _
    rw [hnear, Nat.min_eq_left hinf]
    exact read_word f s t kept hcase (by omega)
  · have : (f.leastPlace + (t : Int) - f.leastPlace).toNat = t := by omega
    rw [this, hkept, Nat.mul_assoc, ← Nat.pow_add]
    congr 2; omega
theorem read_bounds {f : Format} {x : Nat} {s : Bool} {m : Nat} {e : Int} (h : f.read x = .number s m e) (he : 3 ≤ 2 ^ f.exponentBits) :
    m < 2 ^ (f.fractionBits + 1) ∧ f.leastPlace ≤ e ∧ (e - f.leastPlace).toNat + 3 ≤ 2 ^ f.exponentBits := by
  have hb : f.binade = 2 ^ f.fractionBits := rfl
  have hb0 : 0 < f.binade := Nat.two_pow_pos _
  unfold Format.read at h
  simp only at h
  split at h
  · rename_i h1
    injection h with _ h2 h3
    subst h2; subst h3
    refine ⟨?_, Int.le_refl _, by simpa using he⟩
    rw [Nat.pow_succ]; omega
  · split at h
    · rename_i h1 h2
      injection h with _ h3 h4
      subst h3; subst h4
      have hm : x % f.signWeight % f.binade < f.binade := Nat.mod_lt _ hb0
      have hd : x % f.signWeight / f.binade < 2 ^ f.exponentBits - 1 := by
        rw [Nat.div_lt_iff_lt_mul hb0]; exact h2
      refine ⟨by rw [Nat.pow_succ]; omega, by omega, by omega⟩
    · split at h <;> cases h
theorem write_is' (f : Format) (s : Bool) (mag : Nat) (place : Int) (k j : Nat) (hf : k < 2 ^ (f.fractionBits + 1))
    (hv : mag * 2 ^ (place - f.leastPlace).toNat = k * 2 ^ j * 2 ^ (f.leastPlace - place).toNat)
    (ho : k * 2 ^ j < 2 ^ (f.fractionBits + 2 ^ f.exponentBits - 2)) (he : 3 ≤ 2 ^ f.exponentBits) : Is f (f.write (.number s mag place)) s (k * 2 ^ j) := by
  by_cases hk : k = 0
  · subst hk
    have hm : mag = 0 := by
      rw [Nat.zero_mul, Nat.zero_mul] at hv
      rcases Nat.mul_eq_zero.1 hv with h | h
      · exact h
      · exact absurd h (Nat.ne_of_gt (Nat.two_pow_pos _))
    subst hm
    have hw : f.write (.number s 0 place) = f.word s (0 * f.binade + 0) := by simp [Format.write, Format.nearest]
    rw [hw]
    refine ⟨0, f.leastPlace + (0 : Nat), read_word f s 0 0 (.inl ⟨rfl, Nat.two_pow_pos _⟩) (by omega), by omega, by simp⟩
  · have h1 : 2 ^ k.log2 ≤ k := Nat.log2_self_le hk
    have h2 : 2 ^ (k.log2 + j) ≤ k * 2 ^ j := by rw [Nat.pow_add]; exact Nat.mul_le_mul_right _ h1
    have h3 : k.log2 + j < f.fractionBits + 2 ^ f.exponentBits - 2 := (Nat.pow_lt_pow_iff_right (a := 2) (by decide)).1 (Nat.lt_of_le_of_lt h2 ho)
    have h4 : k.log2 < f.fractionBits + 1 := (Nat.log2_lt hk).2 hf
    exact write_is f s mag place k j hk (by omega) hv (by omega)
def Val (f : Format) (x : Nat) (V : Int) : Prop := ∃ s v, Is f x s v ∧ V = if s then -(v : Int) else v
theorem signed_eq (s : Bool) (m u : Nat) : signed s m u = if s then -((m * 2 ^ u : Nat) : Int) else ((m * 2 ^ u : Nat) : Int) := by
  unfold signed; rw [shl]
theorem signed_mul (s : Bool) (m u p : Nat) : signed s m u * (2 ^ p : Nat) = signed s m (u + p) := by
  rw [signed_eq, signed_eq, Nat.pow_add, ← Nat.mul_assoc]
  cases s <;> simp [Int.neg_mul]
theorem Val.of_read {f : Format} {x : Nat} {s : Bool} {m : Nat} {e : Int} (h : f.read x = .number s m e) (hl : f.leastPlace ≤ e) : Val f x (signed s m (e - f.leastPlace).toNat) :=
  ⟨s, _, ⟨m, e, h, hl, rfl⟩, signed_eq _ _ _⟩
theorem Val.read {f : Format} {x : Nat} {V : Int} (h : Val f x V) : ∃ s m e, f.read x = .number s m e ∧ f.leastPlace ≤ e ∧ V = signed s m (e - f.leastPlace).toNat := by
  obtain ⟨s, v, ⟨m, e, h1, h2, rfl⟩, rfl⟩ := h
  exact ⟨s, m, e, h1, h2, (signed_eq _ _ _).symm⟩
theorem order_val {f : Format} {x y : Nat} {V U : Int} (h : Val f x V) (k : Val f y U) : f.order x y = some (compare V U) := by
  obtain ⟨s, m, e, h1, h2, rfl⟩ := h.read
  obtain ⟨t, n, e', k1, k2, rfl⟩ := k.read
  unfold Format.order
  rw [h1, k1]
  simp only [Datum.order]
  congr 1
  obtain ⟨p, hp⟩ : ∃ p : Nat, p = (min e e' - f.leastPlace).toNat := ⟨_, rfl⟩
  have a1 : (e - f.leastPlace).toNat = (e - min e e').toNat + p := by omega
  have a2 : (e' - f.leastPlace).toNat = (e' - min e e').toNat + p := by omega
  rw [a1, a2, ← signed_mul, ← signed_mul]
  have hp0 : (0 : Int) < (2 ^ p : Nat) := by exact_mod_cast Nat.two_pow_pos p
  generalize signed s m (e - min e e').toNat = A
  generalize signed t n (e' - min e e').toNat = B
  rcases Int.lt_trichotomy A B with h | h | h
  · rw [Int.compare_eq_lt.2 h, Int.compare_eq_lt.2 (Int.mul_lt_mul_of_pos_right h hp0)]
  · subst h; simp
  · rw [Int.compare_eq_gt.2 h, Int.compare_eq_gt.2 (Int.mul_lt_mul_of_pos_right h hp0)]
theorem write_val (f : Format) (s : Bool) (mag : Nat) (place : Int) (n : Int) (j : Nat) (hn : n.natAbs < 2 ^ (f.fractionBits + 1))
    (hv : mag * 2 ^ (place - f.leastPlace).toNat = n.natAbs * 2 ^ j * 2 ^ (f.leastPlace - place).toNat) (hs : n = if s then -(n.natAbs : Int) else n.natAbs)
    (ho : n.natAbs * 2 ^ j < 2 ^ (f.fractionBits + 2 ^ f.exponentBits - 2)) (he : 3 ≤ 2 ^ f.exponentBits) : Val f (f.write (.number s mag place)) (n * (2 ^ j : Nat)) := by
  refine ⟨s, n.natAbs * 2 ^ j, write_is' f s mag place _ j hn hv ho he, ?_⟩
  cases s
  · simp only [Bool.false_eq_true, if_false] at hs ⊢
    rw [hs]; simp
  · simp only [if_true] at hs ⊢
    rw [hs]; simp [Int.neg_mul]
theorem sgn_of {s : Bool} {m u : Nat} {n : Int} {j : Nat} (h : signed s m u = n * (2 ^ j : Nat)) : n = if s then -(n.natAbs : Int) else n.natAbs := by
  have hp : (0 : Int) < (2 ^ j : Nat) := by exact_mod_cast Nat.two_pow_pos j
  rw [signed_eq] at h
  cases s
  · simp only [Bool.false_eq_true, if_false] at h ⊢
    have : 0 ≤ n * (2 ^ j : Nat) := by rw [← h]; exact Int.natCast_nonneg _
    have := Int.nonneg_of_mul_nonneg_left this hp
    omega
  · simp only [if_true] at h ⊢
    have : 0 ≤ (-n) * (2 ^ j : Nat) := by rw [Int.neg_mul, ← h, Int.neg_neg]; exact Int.natCast_nonneg _
    have := Int.nonneg_of_mul_nonneg_left this hp
    omega
theorem abs_of {s : Bool} {m u : Nat} {n : Int} {j : Nat} (h : signed s m u = n * (2 ^ j : Nat)) : m * 2 ^ u = n.natAbs * 2 ^ j := by
  have := congrArg Int.natAbs h
  rw [Int.natAbs_mul, Int.natAbs_natCast, signed_eq] at this
  cases s
  · rwa [if_neg (by simp), Int.natAbs_natCast] at this
  · rwa [if_pos rfl, Int.natAbs_neg, Int.natAbs_natCast] at this
theorem add_val {f : Format} {x y : Nat} {V U n : Int} {j : Nat} (h : Val f x V) (k : Val f y U) (hsum : V + U = n * (2 ^ j : Nat))
    (hn : n.natAbs < 2 ^ (f.fractionBits + 1)) (ho : n.natAbs * 2 ^ j < 2 ^ (f.fractionBits + 2 ^ f.exponentBits - 2)) (he : 3 ≤ 2 ^ f.exponentBits) :
    ∃ r, f.add x y = some r ∧ Val f r (n * (2 ^ j : Nat)) := by
  obtain ⟨s, m, e, h1, h2, rfl⟩ := h.read
  obtain ⟨t, p, e', k1, k2, rfl⟩ := k.read
  obtain ⟨base, hb⟩ : ∃ base, base = min e e' := ⟨_, rfl⟩
  obtain ⟨q, hq⟩ : ∃ q : Nat, q = (base - f.leastPlace).toNat := ⟨_, rfl⟩
  have a1 : (e - f.leastPlace).toNat = (e - base).toNat + q := by omega
  have a2 : (e' - f.leastPlace).toNat = (e' - base).toNat + q := by omega
  rw [a1, a2, ← signed_mul, ← signed_mul, ← Int.add_mul] at hsum
  obtain ⟨total, ht⟩ : ∃ total, total = signed s m (e - base).toNat + signed t p (e' - base).toNat := ⟨_, rfl⟩
  rw [← ht] at hsum
  refine ⟨f.write (.number (if total = 0 then s && t else total < 0) total.natAbs base), ?_, ?_⟩
  · unfold Format.add
    rw [h1, k1]
    simp only [Datum.sum, Option.map_some]
    rw [← hb, ← ht]
  · have hp : (0 : Int) < (2 ^ q : Nat) := by exact_mod_cast Nat.two_pow_pos q
    have hpj : (0 : Int) < (2 ^ j : Nat) := by exact_mod_cast Nat.two_pow_pos j
    have habs : total.natAbs * 2 ^ q = n.natAbs * 2 ^ j := by
      have := congrArg Int.natAbs hsum
      rwa [Int.natAbs_mul, Int.natAbs_mul, Int.natAbs_natCast, Int.natAbs_natCast] at this
    refine write_val f _ _ _ n j hn ?_ ?_ ho he
    · have : (f.leastPlace - base).toNat = 0 := by omega
      rw [this, Nat.pow_zero, Nat.mul_one, ← hq, habs]
    · by_cases h0 : total = 0
      · have : n = 0 := by
          rw [h0, Int.zero_mul] at hsum
          rcases Int.mul_eq_zero.1 hsum.symm with h | h
          · exact h
          · omega
        subst this; simp
      · rw [if_neg h0]
        by_cases hneg : total < 0
        · rw [decide_eq_true hneg, if_pos rfl]
          have : n < 0 := by
            have h3 : total * (2 ^ q : Nat) < 0 := Int.mul_neg_of_neg_of_pos hneg hp
            rw [hsum] at h3
            by_cases hx : n < 0
            · exact hx
            · have := Int.mul_nonneg (Int.not_lt.1 hx) (Int.le_of_lt hpj); omega
          omega
        · rw [decide_eq_false hneg]
          have : 0 ≤ n := by
            have h3 : 0 ≤ total * (2 ^ q : Nat) := Int.mul_nonneg (by omega) (Int.le_of_lt hp)
            rw [hsum] at h3
            exact Int.nonneg_of_mul_nonneg_left h3 hpj
          simp; omega
theorem nearest_val (k : FloatKind) (n : Int) (hn : n.natAbs < 2 ^ (k.format.fractionBits + 1)) (j : Nat) (hj : (j : Int) = - k.format.leastPlace)
    (ho : n.natAbs * 2 ^ j < 2 ^ (k.format.fractionBits + 2 ^ k.format.exponentBits - 2)) (he : 3 ≤ 2 ^ k.format.exponentBits) : Val k.format (k.nearest n) (n * (2 ^ j : Nat)) := by
  unfold FloatKind.nearest FloatKind.encode
  refine write_val _ _ _ _ n j hn ?_ ?_ ho he
  · have e1 : (0 - k.format.leastPlace).toNat = j := by omega
    have e2 : (k.format.leastPlace - 0).toNat = 0 := by omega
    rw [e1, e2, Nat.pow_zero, Nat.mul_one]
  · by_cases h : n < 0
    · rw [decide_eq_true h, if_pos rfl]; omega
    · rw [decide_eq_false h]; simp; omega
theorem pow_bound {n a j b : Nat} (hn : n < 2 ^ a) (h : a + j ≤ b) : n * 2 ^ j < 2 ^ b := by
  have h1 : n * 2 ^ j < 2 ^ a * 2 ^ j := Nat.mul_lt_mul_of_pos_right hn (Nat.two_pow_pos _)
  rw [← Nat.pow_add] at h1
  exact Nat.lt_of_lt_of_le h1 (Nat.pow_le_pow_right (by decide) h)
def u32 : Nat := 149
def u64 : Nat := 1074
theorem nearest32 (n : Int) (hn : n.natAbs < 2 ^ 24) : Val single (FloatKind.f32.nearest n) (n * (2 ^ u32 : Nat)) :=
  nearest_val .f32 n hn u32 (by decide) (pow_bound hn (by decide)) (by decide)
theorem nearest64 (n : Int) (hn : n.natAbs < 2 ^ 53) : Val double (FloatKind.f64.nearest n) (n * (2 ^ u64 : Nat)) :=
  nearest_val .f64 n hn u64 (by decide) (pow_bound hn (by decide)) (by decide)
theorem mul_val {f : Format} {c x : Nat} {a : Nat} {b : Int} {V : Int} {n : Int} {j : Nat} (hc : f.read c = .number false (2 ^ a) b) (h : Val f x V) (hV : V * 2 ^ ((a : Int) + b).toNat = n * (2 ^ j : Nat)) (hab : 0 ≤ (a : Int) + b)
    (hn : n.natAbs < 2 ^ (f.fractionBits + 1)) (ho : n.natAbs * 2 ^ j < 2 ^ (f.fractionBits + 2 ^ f.exponentBits - 2)) (he : 3 ≤ 2 ^ f.exponentBits) :
    ∃ r, f.mul c x = some r ∧ Val f r (n * (2 ^ j : Nat)) := by
  obtain ⟨s, m, e, h1, h2, rfl⟩ := h.read
  refine ⟨f.write (.number (false ^^ s) (2 ^ a * m) (b + e)), by unfold Format.mul; rw [hc, h1]; rfl, ?_⟩
  obtain ⟨d, hd⟩ : ∃ d : Nat, d = ((a : Int) + b).toNat := ⟨_, rfl⟩
  rw [← hd] at hV
  have hV' : signed s m ((e - f.leastPlace).toNat + d) = n * (2 ^ j : Nat) := by
    rw [← hV, ← signed_mul]; norm_cast
  have hab' := abs_of hV'
  refine write_val f _ _ _ n j hn ?_ (by simpa using sgn_of hV') ho he
  rw [← hab']
  by_cases h3 : f.leastPlace ≤ b + e
  · have e1 : (f.leastPlace - (b + e)).toNat = 0 := by omega
    rw [e1, Nat.pow_zero, Nat.mul_one, Nat.mul_comm (2 ^ a) m, Nat.mul_assoc, ← Nat.pow_add]
    congr 2; omega
  · have e1 : (b + e - f.leastPlace).toNat = 0 := by omega
    rw [e1, Nat.pow_zero, Nat.mul_one, Nat.mul_comm (2 ^ a) m, Nat.mul_assoc, ← Nat.pow_add]
    congr 2; omega
theorem toInt_val {f : Format} {x : Nat} {V : Int} (h : Val f x V) (hl : f.leastPlace ≤ 0) : (f.read x).toInt .zero = some (V.tdiv (2 ^ (- f.leastPlace).toNat : Nat)) := by
  obtain ⟨s, m, e, h1, h2, rfl⟩ := h.read
  rw [h1]
  simp only [Datum.toInt, Datum.integral, Option.some.injEq]
  have hcut : ∀ n drop, Toward.zero.cut s n drop = n / 2 ^ drop := by
    intro n drop
    unfold Toward.cut
    simp only [Bool.toNat_false, Nat.add_zero, shl, Nat.one_mul]
    by_cases hd : drop ≤ n.log2 + 2
    · rw [Nat.min_eq_left hd]
    · rw [Nat.min_eq_right (by omega)]
      have h1 : n < 2 ^ (n.log2 + 1) := Nat.lt_log2_self
      have h2 : 2 ^ (n.log2 + 1) ≤ 2 ^ (n.log2 + 2) := Nat.pow_le_pow_right (by decide) (by omega)
      have h3 : 2 ^ (n.log2 + 2) ≤ 2 ^ drop := Nat.pow_le_pow_right (by decide) (by omega)
      rw [Nat.div_eq_of_lt (by omega), Nat.div_eq_of_lt (by omega)]
  rw [hcut, shl, signed_eq, signed_eq, Nat.pow_zero, Nat.mul_one]
  have key : m * 2 ^ e.toNat / 2 ^ (-e).toNat = m * 2 ^ (e - f.leastPlace).toNat / 2 ^ (-f.leastPlace).toNat := by
    by_cases h3 : 0 ≤ e
    · have e1 : (-e).toNat = 0 := by omega
      have e2 : (e - f.leastPlace).toNat = e.toNat + (-f.leastPlace).toNat := by omega
      rw [e1, Nat.pow_zero, Nat.div_one, e2, Nat.pow_add, ← Nat.mul_assoc, Nat.mul_div_cancel _ (Nat.two_pow_pos _)]
    · have e1 : e.toNat = 0 := by omega
      have e2 : (-f.leastPlace).toNat = (-e).toNat + (e - f.leastPlace).toNat := by omega
      rw [e1, Nat.pow_zero, Nat.mul_one, e2, Nat.pow_add, Nat.mul_div_mul_right _ _ (Nat.two_pow_pos _)]
  rw [key]
  cases s
  · simp only [Bool.false_eq_true, if_false]
    exact_mod_cast rfl
  · simp only [if_true]
    rw [Int.neg_tdiv]
    exact_mod_cast rfl
theorem Val.rep {f : Format} {x : Nat} {V : Int} (h : Val f x V) (he : 3 ≤ 2 ^ f.exponentBits) : ∃ (n : Int) (j : Nat), V = n * (2 ^ j : Nat) ∧ n.natAbs < 2 ^ (f.fractionBits + 1) ∧ j + 3 ≤ 2 ^ f.exponentBits := by
  obtain ⟨s, m, e, h1, h2, rfl⟩ := h.read
  obtain ⟨b1, _, b3⟩ := read_bounds h1 he
  refine ⟨if s then -(m : Int) else m, (e - f.leastPlace).toNat, ?_, ?_, b3⟩
  · rw [signed_eq]; cases s <;> simp [Int.neg_mul]
  · cases s <;> simpa using b1
def V32 (x : Nat) : Option Int := match single.read x with | .number s m e => some (signed s m (e - single.leastPlace).toNat) | _ => none
theorem V32_some {x : Nat} {V : Int} (h : V32 x = some V) : Val single x V := by
  unfold V32 at h
  split at h
  · rename_i s m e hr
    cases h
    exact Val.of_read hr (read_bounds hr (by decide)).2.1
  · cases h
theorem V32_none {x : Nat} (h : V32 x = none) : (∃ s, single.read x = .infinity s) ∨ ∃ s t, single.read x = .nan s t := by
  unfold V32 at h
  split at h
  · cases h
  · rename_i hh
    cases hr : single.read x with
    | number s m e => exact absurd hr (hh s m e)
    | infinity s => exact .inl ⟨s, rfl⟩
    | nan s t => exact .inr ⟨s, t, rfl⟩
@[irreducible] def k1 : Nat := 925
@[irreducible] def k2 : Nat := 929
theorem k1_eq : k1 = 925 := by unfold k1; rfl
theorem k2_eq : k2 = 929 := by unfold k2; rfl
theorem pw {a b c : Nat} (h : a + b = c) : ((2 ^ a : Nat) : Int) * ((2 ^ b : Nat) : Int) = ((2 ^ c : Nat) : Int) := by
  rw [← h, Nat.pow_add, Int.natCast_mul]
def b16 : Nat := 1098907648
def c16 : Nat := 4625196817309499392
theorem read_b16 : single.read b16 = .number false (2 ^ 23) (-19) := by decide +kernel
theorem read_c16 : double.read c16 = .number false (2 ^ 52) (-48) := by decide +kernel
theorem natAbs_mul_pow (n : Int) (j : Nat) : (n * (2 ^ j : Nat)).natAbs = n.natAbs * 2 ^ j := by
  rw [Int.natAbs_mul, Int.natAbs_natCast]
theorem mul16 {x : Nat} {V : Int} (h : Val single x V) (hV : V.natAbs < 2 ^ 200) : ∃ r, single.mul b16 x = some r ∧ Val single r (V * 16) := by
  obtain ⟨n, j, rfl, hn, hj⟩ := h.rep (by decide)
  rw [natAbs_mul_pow] at hV
  have e : n * (2 ^ j : Nat) * 16 = n * (2 ^ (j + 4) : Nat) := by rw [Nat.pow_add, Int.mul_assoc]; simp
  rw [e]
  refine mul_val (a := 23) (b := -19) read_b16 h ?_ (by decide) hn ?_ (by decide)
  · rw [← e]; rfl
  · rw [Nat.pow_add, ← Nat.mul_assoc]
    exact Nat.lt_of_lt_of_le (Nat.mul_lt_mul_of_pos_right hV (by decide)) (by rw [← Nat.pow_add]; exact Nat.pow_le_pow_right (by decide) (by decide))
theorem wide {x : Nat} {V : Int} (h : Val single x V) : ∃ y, floatToFloatBits .f32 x .f64 = some y ∧ Val double y (V * (2 ^ k1 : Nat)) ∧ ∃ (n : Int) (j : Nat), V = n * (2 ^ j : Nat) ∧ n.natAbs < 2 ^ 24 ∧ j + 3 ≤ 256 := by
  obtain ⟨s, m, e, h1, h2, hV⟩ := h.read
  obtain ⟨b1, _, b3⟩ := read_bounds h1 (by decide)
  have hs := sgn_of (j := (e - single.leastPlace).toNat) (n := if s then -(m : Int) else m) (s := s) (m := m) (u := (e - single.leastPlace).toNat) (by rw [signed_eq]; cases s <;> simp [Int.neg_mul])
  obtain ⟨n, hn⟩ : ∃ n : Int, n = if s then -(m : Int) else m := ⟨_, rfl⟩
  rw [← hn] at hs
  have hna : n.natAbs = m := by rw [hn]; cases s <;> simp
  have hVn : V = n * (2 ^ (e - single.leastPlace).toNat : Nat) := by rw [hV, signed_eq, hn]; cases s <;> simp [Int.neg_mul]
  have hb : m < 2 ^ 24 := b1
  have hval : Val double (double.write (.number s m e)) (n * (2 ^ ((e - single.leastPlace).toNat + k1) : Nat)) := by
    have l1 : single.leastPlace = -149 := by decide
    have l2 : double.leastPlace = -1074 := by decide
    have hb3 : (e - single.leastPlace).toNat + 3 ≤ 256 := b3
    refine write_val double s m e n _ ?_ ?_ hs ?_ (by decide)
    · rw [hna]; exact Nat.lt_of_lt_of_le hb (Nat.pow_le_pow_right (by decide) (by decide))
    · rw [hna]
      have e1 : (e - double.leastPlace).toNat = (e - single.leastPlace).toNat + k1 := by rw [k1_eq]; omega
      have e2 : (double.leastPlace - e).toNat = 0 := by omega
      rw [e1, e2]; simp
    · rw [hna]
      refine pow_bound hb ?_
      show 24 + ((e - single.leastPlace).toNat + k1) ≤ 52 + 2 ^ 11 - 2
      rw [k1_eq]; omega
  refine ⟨double.write (.number s m e), ?_, ?_, n, _, hVn, by rw [hna]; exact hb, b3⟩
  · unfold floatToFloatBits
    rw [if_neg (by decide)]
    have hd : FloatKind.f32.decode x = .number s m e := h1
    rw [hd]
    simp only
    obtain ⟨s', v', ⟨m', e', hr, _⟩, _⟩ := hval
    have : (FloatKind.f64.decode (FloatKind.f64.encode (.number s m e))).isInfinity = false := by
      show (double.read (double.write (.number s m e))).isInfinity = false
      rw [hr]; rfl
    rw [this]; rfl
  · rw [hVn, Int.mul_assoc]
    have := pw (a := (e - single.leastPlace).toNat) (b := k1) rfl
    rw [this]; exact hval
theorem mul16w {y : Nat} {V : Int} (h : Val double y (V * (2 ^ k1 : Nat))) (hr : ∃ (n : Int) (j : Nat), V = n * (2 ^ j : Nat) ∧ n.natAbs < 2 ^ 24 ∧ j + 3 ≤ 256) :
    ∃ r, double.mul c16 y = some r ∧ Val double r (V * (2 ^ k2 : Nat)) := by
  obtain ⟨n, j, rfl, hn, hj⟩ := hr
  have e : n * (2 ^ j : Nat) * (2 ^ k2 : Nat) = n * (2 ^ (j + k2) : Nat) := by rw [Int.mul_assoc, pw rfl]
  rw [e]
  refine mul_val (a := 52) (b := -48) read_c16 h ?_ (by decide) (Nat.lt_of_lt_of_le hn (Nat.pow_le_pow_right (by decide) (by decide))) (pow_bound hn ?_) (by decide)
  · have h4 : (((52 : Nat) : Int) + -48).toNat = 4 := by decide
    rw [← e, h4, Int.mul_assoc (n * _)]
    congr 1
    exact pw (b := 4) (by rw [k1_eq, k2_eq])
  · show 24 + (j + k2) ≤ 52 + 2 ^ 11 - 2
    rw [k2_eq]; omega
theorem tdiv_scale (V : Int) (a b : Nat) : (V * (2 ^ a : Nat)).tdiv (2 ^ (b + a) : Nat) = V.tdiv (2 ^ b : Nat) := by
  rw [Nat.pow_add, Int.natCast_mul]
  exact Int.mul_tdiv_mul_of_pos_left _ _ (by exact_mod_cast Nat.two_pow_pos a)
def cutI (V : Int) : Int := V.tdiv (2 ^ 145 : Nat)
theorem cutI_bd {V : Int} {M : Nat} (h : V.natAbs ≤ M * 2 ^ 145) : (cutI V).natAbs ≤ M := by
  unfold cutI
  rw [Int.natAbs_tdiv, Int.natAbs_natCast]
  exact Nat.div_le_of_le_mul (by rw [Nat.mul_comm]; exact h)
theorem toInt32 {r : Nat} {V : Int} (h : Val single r (V * 16)) (hb : (cutI V).natAbs < 2 ^ 60) : floatToIntVal .f32 r .i64 = some (cutI V) := by
  have h1 := toInt_val h (by decide)
  have e : (V * 16).tdiv ((2 ^ (- single.leastPlace).toNat : Nat) : Int) = cutI V := tdiv_scale V 4 145
  rw [e] at h1
  unfold floatToIntVal
  have h2 : (FloatKind.f32.decode r).toInt .zero = some (cutI V) := h1
  rw [h2]
  simp only
  rw [if_pos (by simp [IntKind.min, IntKind.max, IntKind.signed, IntKind.bits]; omega)]
theorem toInt64 {r : Nat} {V : Int} (h : Val double r (V * (2 ^ k2 : Nat))) (hb : (cutI V).natAbs < 2 ^ 60) : floatToIntVal .f64 r .i64 = some (cutI V) := by
  have h1 := toInt_val h (by decide)
  have e0 : (- double.leastPlace).toNat = 145 + k2 := by rw [k2_eq]; decide
  have e : (V * (2 ^ k2 : Nat)).tdiv ((2 ^ (- double.leastPlace).toNat : Nat) : Int) = cutI V := by rw [e0]; exact tdiv_scale V k2 145
  rw [e] at h1
  unfold floatToIntVal
  have h2 : (FloatKind.f64.decode r).toInt .zero = some (cutI V) := h1
  rw [h2]
  simp only
  rw [if_pos (by simp [IntKind.min, IntKind.max, IntKind.signed, IntKind.bits]; omega)]
theorem quotient_eq (s : Bool) (m : Nat) (i : Int) : Datum.quotient 25 (.number s m i) (.number false (2 ^ 23) (-19)) =
    some (.number s (2 * (m * 2 ^ (48 - m.log2) / 2 ^ 23) + ((m * 2 ^ (48 - m.log2) % 2 ^ 23 != 0)).toNat) (i - (-19) - ((48 - m.log2 : Nat) : Int) - 1)) := by
  have hl : (2 ^ 23 : Nat).log2 = 23 := by decide +kernel
  have h0 : (2 ^ 23 : Nat) ≠ 0 := by decide
  unfold Datum.quotient
  simp only [if_neg h0, hl, shl, Bool.xor_false]
theorem div16 {x : Nat} {V W : Int} (h : Val single x V) (hV : V = W * 16) (hr : ∃ (n : Int) (j : Nat), W = n * (2 ^ j : Nat) ∧ n.natAbs < 2 ^ 24 ∧ j ≤ 200) : ∃ r, single.div x b16 = some r ∧ Val single r W := by
  obtain ⟨s, m, e, h1, h2, rfl⟩ := h.read
  obtain ⟨b1, _, _⟩ := read_bounds h1 (by decide)
  obtain ⟨n, j, rfl, hn, hj⟩ := hr
  have hm : m.log2 ≤ 23 := by
    by_cases hm0 : m = 0
    · subst hm0; decide
    · have := (Nat.log2_lt hm0).2 (show m < 2 ^ (23 + 1) from b1); omega
  obtain ⟨more, hmore⟩ : ∃ more, more = 48 - m.log2 := ⟨_, rfl⟩
  have hdiv : m * 2 ^ more = (m * 2 ^ (more - 23)) * 2 ^ 23 := by rw [Nat.mul_assoc, ← Nat.pow_add]; congr 2; omega
  have hq : 2 * (m * 2 ^ more / 2 ^ 23) + ((m * 2 ^ more % 2 ^ 23 != 0)).toNat = m * 2 ^ (more - 22) := by
    rw [hdiv, Nat.mul_div_cancel _ (Nat.two_pow_pos _), Nat.mul_mod_left]
    have : more - 22 = (more - 23) + 1 := by omega
    rw [this, Nat.pow_succ]; simp; rw [Nat.mul_comm _ 2, Nat.mul_left_comm]
  refine ⟨single.write (.number s (m * 2 ^ (more - 22)) (e - (-19) - more - 1)), ?_, ?_⟩
  · unfold Format.div
    rw [h1, read_b16]
    show (Datum.quotient 25 _ _).map _ = _
    rw [quotient_eq, ← hmore, hq]; rfl
  · have e16 : n * (2 ^ j : Nat) * 16 = n * (2 ^ (j + 4) : Nat) := by rw [Nat.pow_add, Int.mul_assoc]; simp
    rw [e16] at hV
    have habs := abs_of hV
    refine write_val single _ _ _ n j hn ?_ (sgn_of hV) (pow_bound hn (by show 24 + j ≤ 23 + 2 ^ 8 - 2; omega)) (by decide)
    have l1 : single.leastPlace = -149 := by decide
    by_cases hp : single.leastPlace ≤ e - (-19) - more - 1
    · have e1 : (single.leastPlace - (e - (-19) - more - 1)).toNat = 0 := by omega
      rw [e1, Nat.pow_zero, Nat.mul_one]
      have e2 : (e - single.leastPlace).toNat = (more - 22) + (e - (-19) - more - 1 - single.leastPlace).toNat + 4 := by omega
      rw [e2, Nat.pow_add, Nat.pow_add, ← Nat.mul_assoc, ← Nat.mul_assoc, Nat.pow_add, ← Nat.mul_assoc] at habs
      exact Nat.eq_of_mul_eq_mul_right (by decide) habs
    · have e1 : (e - (-19) - more - 1 - single.leastPlace).toNat = 0 := by omega
      rw [e1, Nat.pow_zero, Nat.mul_one]
      obtain ⟨d, hd⟩ : ∃ d, d = (single.leastPlace - (e - (-19) - more - 1)).toNat := ⟨_, rfl⟩
      rw [← hd]
      have e2 : (e - single.leastPlace).toNat + d = (more - 22) + 4 := by omega
      have h3 : m * 2 ^ (e - single.leastPlace).toNat * 2 ^ d = n.natAbs * 2 ^ (j + 4) * 2 ^ d := by rw [habs]
      have hL : m * 2 ^ (e - single.leastPlace).toNat * 2 ^ d = m * 2 ^ (more - 22) * 2 ^ 4 := by rw [Nat.mul_assoc, ← Nat.pow_add, e2, Nat.pow_add, ← Nat.mul_assoc]
      have hR : n.natAbs * 2 ^ (j + 4) * 2 ^ d = n.natAbs * 2 ^ j * 2 ^ d * 2 ^ 4 := by rw [Nat.pow_add, Nat.mul_assoc, Nat.mul_assoc, Nat.mul_assoc, Nat.mul_assoc, Nat.mul_comm (2 ^ 4) (2 ^ d)]
      exact Nat.eq_of_mul_eq_mul_right (by decide) (hL.symm.trans (h3.trans hR))
def fb (n : Int) : Nat := (single.div (FloatKind.f32.nearest n) b16).getD 0
theorem fb_spec {n : Int} (hn : n.natAbs < 2 ^ 20) : single.div (FloatKind.f32.nearest n) b16 = some (fb n) ∧ Val single (fb n) (n * (2 ^ 145 : Nat)) := by
  have h1 := nearest32 n (Nat.lt_of_lt_of_le hn (Nat.pow_le_pow_right (by decide) (by decide)))
  have hW : n * (2 ^ u32 : Nat) = n * (2 ^ 145 : Nat) * 16 := by
    rw [Int.mul_assoc]; congr 1
  obtain ⟨r, hr, hv⟩ := div16 h1 hW ⟨n, 145, rfl, Nat.lt_of_lt_of_le hn (Nat.pow_le_pow_right (by decide) (by decide)), by decide⟩
  have : fb n = r := by unfold fb; rw [hr]; rfl
  rw [this]; exact ⟨hr, hv⟩
theorem order_eq_iff {f : Format} {x y : Nat} {V U : Int} (h : Val f x V) (k : Val f y U) : (f.order x y == some .eq) = decide (V = U) := by
  rw [order_val h k]
  rcases Int.lt_trichotomy V U with h | h | h
  · rw [Int.compare_eq_lt.2 h]
    have : ¬ V = U := by omega
    simp [this]
  · subst h; simp
  · rw [Int.compare_eq_gt.2 h]
    have : ¬ V = U := by omega
    simp [this]
theorem order_lt_iff {f : Format} {x y : Nat} {V U : Int} (h : Val f x V) (k : Val f y U) : (f.order x y == some .lt) = decide (V < U) := by
  rw [order_val h k]
  rcases Int.lt_trichotomy V U with h | h | h
  · rw [Int.compare_eq_lt.2 h]; simp [h]
  · subst h; simp
  · rw [Int.compare_eq_gt.2 h]
    have : ¬ V < U := by omega
    simp [this]
theorem order_gt_iff {f : Format} {x y : Nat} {V U : Int} (h : Val f x V) (k : Val f y U) : (f.order x y == some .gt) = decide (U < V) := by
  rw [order_val h k]
  rcases Int.lt_trichotomy V U with h | h | h
  · rw [Int.compare_eq_lt.2 h]
    have : ¬ U < V := by omega
    simp [this]
  · subst h; simp
  · rw [Int.compare_eq_gt.2 h]; simp [h]
theorem order_nan {f : Format} {x y : Nat} {s : Bool} {t : Nat} (h : f.read x = .nan s t) : f.order x y = none := by
  unfold Format.order; rw [h]; rfl
theorem order_inf_fin {f : Format} {x y : Nat} {s : Bool} {U : Int} (h : f.read x = .infinity s) (k : Val f y U) : f.order x y = some (if s then .lt else .gt) := by
  obtain ⟨t, m, e, k1, _⟩ := k.read
  unfold Format.order; rw [h, k1]; rfl
theorem order_inf_inf {f : Format} {x : Nat} {s : Bool} (h : f.read x = .infinity s) : f.order x x = some .eq := by
  unfold Format.order; rw [h]
  cases s <;> rfl
theorem read_inf (f : Format) (s : Bool) (he : 2 ≤ 2 ^ f.exponentBits) : f.read (f.write (.infinity s)) = .infinity s := by
  show f.read (f.word s f.infRung) = _
  have hb : 0 < f.binade := Nat.two_pow_pos _
  have hinf : f.infRung = (2 ^ f.exponentBits - 1) * f.binade := rfl
  have hsw : f.signWeight = 2 ^ f.exponentBits * f.binade := by simp [Format.signWeight, Format.binade, Nat.pow_add]
  have h1 : f.infRung < f.signWeight := by rw [hinf, hsw]; exact Nat.mul_lt_mul_of_pos_right (by omega) hb
  have h2 : f.binade ≤ f.infRung := by rw [hinf]; exact Nat.le_mul_of_pos_left _ (by omega)
  have hr : f.word s f.infRung % f.signWeight = f.infRung := by
    unfold Format.word; split
    · rw [Nat.add_mod_left, Nat.mod_eq_of_lt h1]
    · rw [Nat.mod_eq_of_lt h1]
  have hs : (f.word s f.infRung / f.signWeight % 2 == 1) = s := by
    unfold Format.word; split
    · rename_i hn; subst hn
      rw [Nat.add_div_left _ (by omega), Nat.div_eq_of_lt h1]; rfl
    · rename_i hn
      rw [Nat.div_eq_of_lt h1]; simp at hn; subst hn; rfl
  unfold Format.read
  simp only [hr, hs]
  rw [if_neg (by omega), if_neg (by omega), if_pos trivial]
theorem nan64_cut (q : Nat) (x : Nat) : ∃ s t, double.read ((Question.nanConv .f64 x).cut q) = .nan s t := by
  have e : (Question.nanConv .f64 x).cut q = (q % 2) * 2 ^ 63 + (9218868437227405312 + 1 + (q / 2) % 4503599627370495) := by
    show (q % 2) * 2 ^ 63 + 0x7ff0000000000000 + 1 + (q / 2) % (2 ^ 52 - 1) = _
    omega
  rw [e]
  have hsw : double.signWeight = 2 ^ 63 := by decide
  have hi : double.infRung = 9218868437227405312 := by decide
  have hb : double.binade = 4503599627370496 := by decide
  obtain ⟨r, hr⟩ : ∃ r, r = (q / 2) % 4503599627370495 := ⟨_, rfl⟩
  have hlt : r < 4503599627370495 := by rw [hr]; exact Nat.mod_lt _ (by decide)
  rw [← hr]
  unfold Format.read
  simp only [hsw, hi, hb]
  have h1 : ((q % 2) * 2 ^ 63 + (9218868437227405312 + 1 + r)) % 2 ^ 63 = 9218868437227405312 + 1 + r := by omega
  rw [h1, if_neg (by omega), if_neg (by omega), if_neg (by omega)]
  exact ⟨_, _, rfl⟩
theorem nan32_cut (q : Nat) (x y : Nat) : ∃ s t, single.read ((Question.nanBits .f32 x y).cut q) = .nan s t := by
  have e : (Question.nanBits .f32 x y).cut q = (q % 2) * 2 ^ 31 + (2139095040 + 1 + (q / 2) % 8388607) := by
    show (q % 2) * 2 ^ 31 + 0x7f800000 + 1 + (q / 2) % (2 ^ 23 - 1) = _
    omega
  rw [e]
  have hsw : single.signWeight = 2 ^ 31 := by decide
  have hi : single.infRung = 2139095040 := by decide
  have hb : single.binade = 8388608 := by decide
  obtain ⟨r, hr⟩ : ∃ r, r = (q / 2) % 8388607 := ⟨_, rfl⟩
  have hlt : r < 8388607 := by rw [hr]; exact Nat.mod_lt _ (by decide)
  rw [← hr]
  unfold Format.read
  simp only [hsw, hi, hb]
  have h1 : ((q % 2) * 2 ^ 31 + (2139095040 + 1 + r)) % 2 ^ 31 = 2139095040 + 1 + r := by omega
  rw [h1, if_neg (by omega), if_neg (by omega), if_neg (by omega)]
  exact ⟨_, _, rfl⟩
theorem sub_self_fin {x : Nat} {V : Int} (h : Val single x V) : single.sub x x = some 0 := by
  obtain ⟨s, m, e, h1, h2, _⟩ := h.read
  unfold Format.sub
  rw [h1]
  have : signed s m (e - min e e).toNat + signed (!s) m (e - min e e).toNat = 0 := by
    rw [signed_eq, signed_eq]; cases s <;> simp <;> omega
  simp only [Datum.opposite, Datum.sum, this, Option.map_some, if_true]
  cases s <;> rfl
theorem sub_self_not {x : Nat} (h : V32 x = none) : single.sub x x = none := by
  rcases V32_none h with ⟨s, hr⟩ | ⟨s, t, hr⟩
  · unfold Format.sub; rw [hr]; cases s <;> rfl
  · unfold Format.sub; rw [hr]; rfl
theorem val_zero : Val single 0 0 := ⟨false, 0, ⟨0, -149, by decide +kernel, by decide, by simp⟩, rfl⟩
theorem read_abs {f : Format} {x : Nat} : f.read (x % f.signWeight) = match f.read x with | .number _ m e => .number false m e | .infinity _ => .infinity false | .nan _ t => .nan false t := by
  have hp : 0 < f.signWeight := Nat.two_pow_pos _
  have h1 : x % f.signWeight % f.signWeight = x % f.signWeight := Nat.mod_mod _ _
  have h2 : x % f.signWeight / f.signWeight = 0 := Nat.div_eq_of_lt (Nat.mod_lt _ hp)
  unfold Format.read
  simp only [h1, h2]
  split
  · rfl
  · split
    · rfl
    · split <;> rfl
theorem abs_val {f : Format} {x : Nat} {V : Int} (h : Val f x V) : Val f (x % f.signWeight) V.natAbs := by
  obtain ⟨s, m, e, h1, h2, rfl⟩ := h.read
  have h3 : f.read (x % f.signWeight) = .number false m e := by rw [read_abs, h1]
  have := Val.of_read h3 h2
  rw [signed_eq] at this ⊢
  rw [if_neg (by simp)] at this
  cases s
  · rw [if_neg (by simp), Int.natAbs_natCast]; exact this
  · rw [if_pos rfl, Int.natAbs_neg, Int.natAbs_natCast]; exact this
theorem wide_lt {x y : Nat} (h : floatToFloatBits .f32 x .f64 = some y) : y < 2 ^ 64 := by
  have hw : ∀ d, double.write d < 2 ^ 64 := fun d => double.write_lt d
  unfold floatToFloatBits at h
  rw [if_neg (by decide)] at h
  split at h
  · cases h
  · cases h; exact hw _
  · split at h
    · cases h
    · cases h; exact hw _
@[irreducible] def maxM : Nat := 2045
theorem maxM_eq : maxM = 2045 := by unfold maxM; rfl
theorem read_max : double.read 9218868437227405311 = .number false 9007199254740991 971 := by decide +kernel
theorem max_val : Val double 9218868437227405311 ((9007199254740991 * 2 ^ maxM : Nat) : Int) := by
  refine ⟨false, _, ⟨_, _, read_max, by decide, ?_⟩, rfl⟩
  have : ((971 : Int) - double.leastPlace).toNat = maxM := by rw [maxM_eq]; decide
  rw [this]
theorem not_inf {y : Nat} {V : Int} (h : Val double y (V * (2 ^ k1 : Nat))) (hr : ∃ (n : Int) (j : Nat), V = n * (2 ^ j : Nat) ∧ n.natAbs < 2 ^ 24 ∧ j + 3 ≤ 256) : (double.order (y % double.signWeight) 9218868437227405311 == some .gt) = false := by
  rw [order_gt_iff (abs_val h) max_val]
  obtain ⟨n, j, rfl, hn, hj⟩ := hr
  have e : n * (2 ^ j : Nat) * (2 ^ k1 : Nat) = n * (2 ^ (j + k1) : Nat) := by rw [Int.mul_assoc, pw rfl]
  rw [e, natAbs_mul_pow]
  have h1 : n.natAbs * 2 ^ (j + k1) < 2 ^ maxM := pow_bound hn (by rw [k1_eq, maxM_eq]; omega)
  have h2 : 2 ^ maxM ≤ 9007199254740991 * 2 ^ maxM := Nat.le_mul_of_pos_left _ (by decide)
  have h3 : n.natAbs * 2 ^ (j + k1) < 9007199254740991 * 2 ^ maxM := Nat.lt_of_lt_of_le h1 h2
  rw [decide_eq_false_iff_not, Int.ofNat_lt]
  exact Nat.not_lt.2 (Nat.le_of_lt h3)
theorem is_inf {y : Nat} {s : Bool} (h : double.read y = .infinity s) : (double.order (y % double.signWeight) 9218868437227405311 == some .gt) = true := by
  have h1 : double.read (y % double.signWeight) = .infinity false := by rw [read_abs, h]
  rw [order_inf_fin h1 max_val]; rfl
end Go.Fl
