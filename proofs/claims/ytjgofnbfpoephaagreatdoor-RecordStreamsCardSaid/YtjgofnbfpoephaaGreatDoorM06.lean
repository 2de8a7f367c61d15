/- Texts that were made one by one: Q R S T U. -/
import Derived.Test.YtjgofnbfpoephaaGreatDoorM05
import Derived.Test.YtjgofnbfpoephaaGreatDoorM01
import Derived.Laws.AppendOwnNone
/- Contracts: the error of a sample, by the reference. -/
namespace Go.Proofs.YtjgofnbfpoephaaGreatDoor
set_option linter.all false
open Go.RowKit Go.Fl
set_option linter.unusedVariables false

theorem bound64 (M : Nat) (hM : M < 2 ^ 18) : Val Ieee.double (floatOfInt .f64 (M : Int)) (((M * 2 ^ 145 : Nat) : Int) * (2 ^ k2 : Nat)) := by
  have h := nearest64 (M : Int) (by rw [Int.natAbs_natCast]; exact Nat.lt_trans hM (Nat.pow_lt_pow_right (by decide) (by decide)))
  have e : ((M * 2 ^ 145 : Nat) : Int) * (2 ^ k2 : Nat) = (M : Int) * (2 ^ u64 : Nat) := by
    rw [Int.natCast_mul, Int.mul_assoc, pw (c := u64) (by rw [k2_eq]; rfl)]
  rw [e]; exact h
theorem bound64N (a : Nat) (nf : Nat) (e : Int) (hr : Ieee.double.read nf = .number true (2 ^ 52) e) (he : e + 52 = (a : Int)) : Val Ieee.double nf ((-((2 ^ a * 2 ^ 145 : Nat) : Int)) * (2 ^ k2 : Nat)) := by
  have l : Ieee.double.leastPlace = -1074 := by decide
  refine ⟨true, _, ⟨_, _, hr, by omega, rfl⟩, ?_⟩
  rw [if_pos rfl, Int.neg_mul]
  congr 1
  rw [← Int.natCast_mul]
  congr 1
  rw [← Nat.pow_add, ← Nat.pow_add, ← Nat.pow_add]
  congr 1
  rw [k2_eq]; omega

theorem lt64 {x y : Nat} {V U : Int} (h : Val Ieee.double x (V * (2 ^ k2 : Nat))) (k : Val Ieee.double y (U * (2 ^ k2 : Nat))) : (FloatKind.f64.format.order x y == some .lt) = decide (V < U) := by
  have hp : (0 : Int) < (2 ^ k2 : Nat) := by exact_mod_cast Nat.two_pow_pos k2
  have := order_lt_iff h k
  refine Eq.trans this ?_
  rw [Bool.eq_iff_iff, decide_eq_true_eq, decide_eq_true_eq]
  exact ⟨fun h => Int.lt_of_mul_lt_mul_right h (Int.le_of_lt hp), fun h => Int.mul_lt_mul_of_pos_right h hp⟩
theorem gt64 {x y : Nat} {V U : Int} (h : Val Ieee.double x (V * (2 ^ k2 : Nat))) (k : Val Ieee.double y (U * (2 ^ k2 : Nat))) : (FloatKind.f64.format.order x y == some .gt) = decide (U < V) := by
  have hp : (0 : Int) < (2 ^ k2 : Nat) := by exact_mod_cast Nat.two_pow_pos k2
  have := order_gt_iff h k
  refine Eq.trans this ?_
  rw [Bool.eq_iff_iff, decide_eq_true_eq, decide_eq_true_eq]
  exact ⟨fun h => Int.lt_of_mul_lt_mul_right h (Int.le_of_lt hp), fun h => Int.mul_lt_mul_of_pos_right h hp⟩
theorem ne64 {x y : Nat} {V U : Int} (h : Val Ieee.double x (V * (2 ^ k2 : Nat))) (k : Val Ieee.double y (U * (2 ^ k2 : Nat))) : (FloatKind.f64.format.order x y != some .eq) = !decide (V = U) := by
  have hp : (2 ^ k2 : Nat) ≠ 0 := Nat.ne_of_gt (Nat.two_pow_pos k2)
  have := order_eq_iff h k
  show (!(Ieee.double.order x y == some .eq)) = _
  rw [this]
  congr 1
  rw [Bool.eq_iff_iff, decide_eq_true_eq, decide_eq_true_eq]
  exact ⟨fun h => Int.eq_of_mul_eq_mul_right (by exact_mod_cast hp) h, fun h => by rw [h]⟩

set_option maxRecDepth 100000 in
set_option maxHeartbeats 1000000 in
theorem checkPart_any (x M nf : Nat) (w : World) (hM : M < 2 ^ 18) (hs : Ieee.double.sub 0 (floatOfInt .f64 (M : Int)) = some nf) (hN : Val Ieee.double nf ((-((M * 2 ^ 145 : Nat) : Int)) * (2 ^ k2 : Nat))) :
    Calls Tryz.prog 96 #[.float .f32 x, .int .i64 (M : Int)] w fun e w' => e = .returned (.int .i64 (partI x M)) ∧ ∃ n, w' = w.drewN n := by
  cases hV : V32 x with
  | none =>
    have hp : Hid (partI x M = 1) := by unfold Hid; rw [partI, hV]; rfl
    have h0 := sub_self_not hV
    obtain ⟨r, hr, h1⟩ : ∃ r, (∃ s t, Ieee.single.read r = .nan s t) ∧ (binOp .sub 37 (.float .f32 x) (.float .f32 x)).run Tryz.prog w = .ok (.float .f32 r) w.drew := by
      refine ⟨(Question.nanBits .f32 x x).cut (w.tape w.drawn (Question.nanBits .f32 x x)), nan32_cut _ _ _, ?_⟩
      have h2 : FloatKind.f32.format.sub x x = none := h0
      simp [binOp, Op.floatArith, h2, Question.forced]
    obtain ⟨s, t, hr⟩ := hr
    have h3 : (FloatKind.f32.format.order r 0 != some .eq) = true := by
      show (Ieee.single.order r 0 != some .eq) = true
      rw [order_nan hr]; rfl
    clear hV h0 hr hs hN hM
    go_enter Tryz.func96, Tryz.ntmps96
    go_wp2
    go_ret
    exact ⟨ret_int hp.out.symm, 1, rfl⟩
  | some V =>
    have hv := V32_some hV
    have h1 := fun w => run_float_arith (P := Tryz.prog) w .sub 37 .f32 x x 0 (sub_self_fin hv)
    have h2 : (FloatKind.f32.format.order 0 0 != some .eq) = false := by decide +kernel
    obtain ⟨y, hy, hy2, hy3⟩ := wide hv
    have h3 := conv_fin hy
    obtain ⟨r, hr, hr2⟩ := mul16w hy2 hy3
    have h4 := fun w => run_float_arith (P := Tryz.prog) w .mul 238 .f64 4625196817309499392 y r (by show Ieee.double.mul c16 y = some r; exact hr)
    have h5 := fun w => run_float_arith (P := Tryz.prog) w .sub 238 .f64 0 (floatOfInt .f64 (M : Int)) nf hs
    have l1 := lt64 hr2 hN
    have g1 := gt64 hr2 (bound64 M hM)
    by_cases hin : V.natAbs ≤ M * 2 ^ 145
    · have g2 : decide (((M * 2 ^ 145 : Nat) : Int) < V) = false := by simp only [decide_eq_false_iff_not]; omega
      have l2 : decide (V < (-((M * 2 ^ 145 : Nat) : Int))) = false := by simp only [decide_eq_false_iff_not]; omega
      rw [g2] at g1; rw [l2] at l1
      have hc := cutI_bd hin
      have hc2 : (cutI V).natAbs < 2 ^ 20 := Nat.lt_of_le_of_lt hc (Nat.lt_of_lt_of_le hM (Nat.pow_le_pow_right (by decide) (by decide)))
      have hc3 : (cutI V).natAbs < 2 ^ 60 := Nat.lt_trans hc2 (Nat.pow_lt_pow_right (by decide) (by decide))
      have h6 := fun w => run_convert_float_int (P := Tryz.prog) w 238 3 .f64 .i64 r (cutI V) (by kernel_rfl) (by kernel_rfl) (toInt64 hr2 hc3)
      have hval : Val Ieee.double (floatOfInt .f64 (cutI V)) ((cutI V * (2 ^ 145 : Nat)) * (2 ^ k2 : Nat)) := by
        have h := nearest64 (cutI V) (Nat.lt_trans hc2 (Nat.pow_lt_pow_right (by decide) (by decide)))
        have e : (cutI V * (2 ^ 145 : Nat)) * (2 ^ k2 : Nat) = cutI V * (2 ^ u64 : Nat) := by
          rw [Int.mul_assoc, pw (c := u64) (by rw [k2_eq]; rfl)]
        rw [e]; exact h
      have hne := ne64 hval hr2
      cases hcut : decide (cutI V * (2 ^ 145 : Nat) = V)
      · rw [hcut, Bool.not_false] at hne
        have hp : Hid (partI x M = 3) := by unfold Hid; rw [partI, if_neg (by rw [hV]; simp), stepB, hV]; simp only [hcut, Bool.and_false]; rfl
        clear hV hv hin g2 l2 hc hc2 hc3 hval hcut hr2 hy2 hy3 hy hr hs hN hM
        go_enter Tryz.func96, Tryz.ntmps96
        go_wp2
        go_ret
        exact ⟨ret_int hp.out.symm, 0, rfl⟩
      · rw [hcut, Bool.not_true] at hne
        have hp : Hid (partI x M = 0) := by unfold Hid; rw [partI, if_neg (by rw [hV]; simp), stepB, hV]; simp only [hcut, hin, decide_true, Bool.and_true]; rfl
        clear hV hv hin g2 l2 hc hc2 hc3 hval hcut hr2 hy2 hy3 hy hr hs hN hM
        go_enter Tryz.func96, Tryz.ntmps96
        go_wp2
        go_ret
        exact ⟨ret_int hp.out.symm, 0, rfl⟩
    · have hp : Hid (partI x M = 3) := by unfold Hid; rw [partI, if_neg (by rw [hV]; simp), stepB, hV]; simp only [hin, decide_false, Bool.false_and]; rfl
      by_cases hlow : V < (-((M * 2 ^ 145 : Nat) : Int))
      · rw [decide_eq_true hlow] at l1
        clear hV hv hin hlow g1 hr2 hy2 hy3 hy hr hs hN hM
        go_enter Tryz.func96, Tryz.ntmps96
        go_wp2
        go_ret
        exact ⟨ret_int hp.out.symm, 0, rfl⟩
      · have g2 : decide (((M * 2 ^ 145 : Nat) : Int) < V) = true := by simp only [decide_eq_true_eq]; omega
        rw [decide_eq_false hlow] at l1
        rw [g2] at g1
        clear hV hv hin hlow g2 hr2 hy2 hy3 hy hr hs hN hM
        go_enter Tryz.func96, Tryz.ntmps96
        go_wp2
        go_ret
        exact ⟨ret_int hp.out.symm, 0, rfl⟩

theorem checkPart_sample (x : Nat) (w : World) : Calls Tryz.prog 96 #[.float .f32 x, .int .i64 16384] w fun e w' => e = .returned (.int .i64 (partI x 16384)) ∧ ∃ n, w' = w.drewN n :=
  checkPart_any x 16384 13893604850437980160 w (by decide) (by decide +kernel) (bound64N 14 _ (-38) (by decide +kernel) (by decide))
theorem checkPart_panel (x : Nat) (w : World) : Calls Tryz.prog 96 #[.float .f32 x, .int .i64 65536] w fun e w' => e = .returned (.int .i64 (partI x 65536)) ∧ ∃ n, w' = w.drewN n :=
  checkPart_any x 65536 13902612049692721152 w (by decide) (by decide +kernel) (bound64N 16 _ (-36) (by decide +kernel) (by decide))
set_option maxHeartbeats 400000 in
theorem checkSampleR_any (x : Nat) (w : World) : Calls Tryz.prog 25 #[.float .f32 x] w fun e w' => e = .returned (.int .i64 (sampI x)) ∧ ∃ n, w' = w.drewN n := by
  go_enter Tryz.func25, Tryz.ntmps25
  go_wp2_with (go_at_call 96; refine (checkPart_sample _ _).mono ?_; rintro e w' ⟨rfl, n, rfl⟩)
  go_ret
  exact ⟨ret_int (sampI_eq x).symm, _, rfl⟩
end Go.Proofs.YtjgofnbfpoephaaGreatDoor

/- Contracts: the errors of samples. -/
namespace Go.Proofs.YtjgofnbfpoephaaGreatDoor
set_option linter.all false
open Go.RowKit Go.Fl
set_option linter.unusedVariables false

theorem Rd.below {w w' : World} {A : Option Addr} {xs : List Value} (h : Rd w A xs) (hb : Below w.heap.size w w') : Rd w' A xs := by
  intro j v hv
  obtain ⟨b, off, h1, h2⟩ := h j v hv
  exact ⟨b, off, h1, (hb.cell (World.block_lt_of_cell? w _ h2)).trans h2⟩
theorem Rd.row {w : World} {g : Nat} {t : TypeId} {vs : List Value} (h : Row w g t vs) : Rd w (some ⟨g, 0, none⟩) vs := fun j v hv => ⟨g, 0, rfl, by rw [Nat.zero_add, h.cell]; exact hv⟩
theorem Rd.own {w : World} {B : Nat} {e : TypeId} {g n cap : Nat} {vs : List Value} (h : w.ownsRow B e 1 (.slice (some ⟨g, 0, none⟩) n cap) n vs) : Rd w (some ⟨g, 0, none⟩) vs := by
  intro j v hv
  have hj : j < n := by have := (List.getElem?_eq_some_iff.1 hv).1; have := h.1; omega
  exact ⟨g, 0, rfl, by rw [Nat.zero_add, h.cellAt j (by omega)]; exact hv⟩
theorem Rd.take {w : World} {A : Option Addr} {xs : List Value} (h : Rd w A xs) (k : Nat) : Rd w A (xs.take k) := by
  intro j v hv
  rw [List.getElem?_take] at hv
  split at hv
  · exact h j v hv
  · cases hv

def flts (xs : List Nat) : List Value := xs.map (Value.float .f32)
theorem Rd.flt {w : World} {A : Option Addr} {xs : List Nat} (h : Rd w A (flts xs)) {j : Nat} (hj : j < xs.length) : ∃ b off, A = some ⟨b, off, none⟩ ∧ w.cell? ⟨b, off + j, none⟩ = some (.float .f32 xs[j]) := by
  obtain ⟨b, off, h1, h2⟩ := Rd.at h (j := j) (by simpa [flts] using hj)
  exact ⟨b, off, h1, by rw [h2]; simp [flts]⟩

theorem part_set (f : List Int) (n k : Nat) (hk : k < f.length) (hn : n = f.length) : (ints (f.take k) ++ List.replicate (n - k) (Value.int .i64 0)).set k (.int .i64 f[k]) = ints (f.take (k + 1)) ++ List.replicate (n - (k + 1)) (.int .i64 0) := by
  subst hn
  have hl : (ints (f.take k)).length = k := by simp [ints]; omega
  have he : f.length - k = (f.length - (k + 1)) + 1 := by omega
  rw [he, List.replicate_succ, List.set_append_right _ _ (by omega), hl, Nat.sub_self, List.take_succ_eq_append_getElem hk]
  simp only [ints, List.map_append, List.append_assoc, List.map_cons, List.map_nil, List.cons_append, List.nil_append, List.set_cons_zero]

theorem mid_get (ys : List Value) (n k : Nat) (z : Value) (hy : ys.length = k) (hk : k < n) : (ys ++ List.replicate (n - k) z)[k]? = some z := by
  rw [List.getElem?_append_right (by omega), hy, Nat.sub_self, List.getElem?_replicate, if_pos (by omega)]

theorem info27 : (Tryz.prog.info? 27).map (fun i => (i.zero, i.size, i.bytes)) = some (some (.int .i64 0), 1, 8) := by kernel_rfl

set_option maxRecDepth 100000 in
set_option maxHeartbeats 1000000 in
theorem mappedSamp_any (A : Option Addr) (n c : Nat) (xs : List Nat) (w : World) (hA : Rd w A (flts xs)) (hn : n = xs.length) (hm : xs.length ≤ 4096) :
    Calls Tryz.prog 171 #[.slice A n c, .func (.func 24) #[] #[]] w fun e w' => ∃ g, e = .returned (.slice (some ⟨g, 0, none⟩) n n) ∧ Row w' g 27 (ints (xs.map sampI)) ∧ w.heap.size ≤ g ∧ Below w.heap.size w w' := by
  subst hn
  have hmk := fun W : World => make1 (P := Tryz.prog) 236 27 (.int .i64 0) 8 Tryz.underlying236 info27 rfl xs.length (by omega) (by omega) W
  go_enter Tryz.func171, Tryz.ntmps171
  go_wp2
  go_loopw [13] (fun i wr => ∃ k : Nat, k ≤ xs.length ∧ i = .int .i64 k ∧ Row wr w.heap.size 27 (ints ((xs.map sampI).take k) ++ List.replicate (xs.length - k) (.int .i64 0)) ∧ Below w.heap.size w wr) (fun i _ => xs.length - (intOf i).toNat)
  case atStart => exact ⟨0, Nat.zero_le _, rfl, by have := Row.new w 27 (List.replicate xs.length (.int .i64 0)); simpa [ints] using this, (Below.refl _ _).alloc (Nat.le_refl _) _⟩
  case round =>
    obtain ⟨k, hk, rfl, hrow, hb⟩ := hrel
    by_cases hlt : k < xs.length
    · obtain ⟨b, off, rfl, hc⟩ := Rd.flt (hA.below hb) hlt
      have hset := Lib.hid (part_set (xs.map sampI) xs.length k (by simpa using hlt) (by simp))
      have hfk := Lib.hid (show (xs.map sampI)[k]'(by simpa using hlt) = sampI xs[k] by simp)
      have Hrow := Lib.hid hrow
      have Hb := Lib.hid hb
      clear hrow hb
      go_wp2_with fail
      refine (checkSample_any _ _).mono ?_
      rintro e w1 ⟨rfl, hb1⟩
      have Hrow1 := Lib.hid (Hrow.out.old hb1)
      have hc1 : w1.cell? ⟨w.heap.size, k, none⟩ = some (.int .i64 0) := by
        rw [Hrow1.out.cell]
        exact mid_get _ _ _ _ (by simp [ints]; omega) hlt
      have hf1 := Hrow1.out.free k
      have Hb1 := Lib.hid (Hb.out.trans (hb1.mono Hb.out.size))
      clear hb1
      go_wp2
      go_roundw
      case rel => exact ⟨k + 1, by omega, by go_num, by rw [← hset.out, hfk.out]; exact Hrow1.out.set k _, Hb1.out.setCell (by simp) _⟩
      case measure => simp [intOf]; omega
    · obtain rfl : k = xs.length := by omega
      go_wp2
      go_ret
      exact ⟨_, rfl, by rw [Nat.sub_self, List.replicate_zero, List.append_nil, List.take_of_length_le (by simp)] at hrow; exact hrow, Nat.le_refl _, hb⟩

def sampsI (xs : List Nat) : Int := if 4096 < xs.length then 5 else firstI (xs.map sampI)
set_option maxHeartbeats 400000 in
theorem checkListSamp_any (A : Option Addr) (n c : Nat) (xs : List Nat) (w : World) (hA : Rd w A (flts xs)) (hn : n = xs.length) :
    Calls Tryz.prog 97 #[.slice A n c, .int .i64 4096, .func (.func 24) #[] #[]] w fun e w' => e = .returned (.int .i64 (sampsI xs)) ∧ Below w.heap.size w w' := by
  subst hn
  by_cases hl : 4096 < xs.length
  · go_enter Tryz.func97, Tryz.ntmps97
    go_wp2
    go_ret
    exact ⟨ret_int (by rw [sampsI, if_pos hl]), Below.refl _ _⟩
  · have hm : xs.length ≤ 4096 := by omega
    go_enter Tryz.func97, Tryz.ntmps97
    go_wp2_with fail
    refine (mappedSamp_any _ _ _ xs _ hA rfl hm).mono ?_
    rintro e w1 ⟨g, rfl, hrow, hg, hb⟩
    go_wp2_with fail
    refine (firstV_any _ _ _ (xs.map sampI) _ (Rd.row hrow) (by simp) (by simp; omega)).mono ?_
    rintro e w2 ⟨rfl, rfl⟩
    go_wp2
    go_ret
    exact ⟨ret_int (by rw [sampsI, if_neg hl]), hb⟩

set_option maxRecDepth 100000 in
set_option maxHeartbeats 400000 in
theorem checkSamples_any (A : Option Addr) (n c : Nat) (xs : List Nat) (w : World) (hA : Rd w A (flts xs)) (hn : n = xs.length) :
    Calls Tryz.prog 26 #[.slice A n c] w fun e w' => e = .returned (.int .i64 (sampsI xs)) ∧ Below w.heap.size w w' := by
  subst hn
  go_enter Tryz.func26, Tryz.ntmps26
  go_wp2_with fail
  refine (checkListSamp_any _ _ _ xs _ hA rfl).mono ?_
  rintro e w1 ⟨rfl, hb⟩
  go_wp2
  go_ret
  exact ⟨rfl, hb⟩

set_option maxHeartbeats 400000 in
theorem checkAll_any (A : Option Addr) (n c : Nat) (xs : List Nat) (w : World) (hA : Rd w A (flts xs)) (hn : n = xs.length) (hm : xs.length ≤ 9223372036854775807) :
    Calls Tryz.prog 98 #[.slice A n c] w fun e w' => e = .returned (.int .i64 (firstI (xs.map sampI))) ∧ ∃ q, w' = w.drewN q := by
  subst hn
  go_enter Tryz.func98, Tryz.ntmps98
  go_wp2
  go_loopw [3] (fun i wr => ∃ k : Nat, k ≤ xs.length ∧ i = .int .i64 k ∧ Hid (firstI ((xs.map sampI).drop k) = firstI (xs.map sampI)) ∧ ∃ q, wr = w.drewN q) (fun i _ => xs.length - (intOf i).toNat)
  case atStart => exact ⟨0, Nat.zero_le _, rfl, rfl, 0, rfl⟩
  case round =>
    obtain ⟨k, hk, rfl, H, q, rfl⟩ := hrel
    by_cases hlt : k < xs.length
    · obtain ⟨b, off, rfl, hc⟩ := Rd.flt hA hlt
      have hd := Lib.hid (firstI_drop (zs := xs.map sampI) (k := k) (by simpa using hlt))
      have hfk := Lib.hid (show (xs.map sampI)[k]'(by simpa using hlt) = sampI xs[k] by simp)
      by_cases hz : sampI xs[k] = 0
      · have Hz := Lib.hid hz; clear hz
        go_wp2_with fail
        refine (checkSampleR_any _ _).mono ?_
        rintro e w1 ⟨rfl, q1, rfl⟩
        rw [Hz.out]
        go_wp2
        go_roundw
        case rel => exact ⟨k + 1, by omega, by go_num, by show _ = _; rw [← H.out, hd.out, if_pos (hfk.out.trans Hz.out)], _, rfl⟩
        case measure => simp [intOf]; omega
      · have hz' : (sampI xs[k] != 0) = true := by simpa using hz
        have Hz := Lib.hid hz; clear hz
        go_wp2_with fail
        refine (checkSampleR_any _ _).mono ?_
        rintro e w1 ⟨rfl, q1, rfl⟩
        go_wp2
        go_ret
        exact ⟨ret_int (by rw [← H.out, hd.out, if_neg (by rw [hfk.out]; exact Hz.out), hfk.out]), _, rfl⟩
    · go_wp2
      go_ret
      exact ⟨ret_int (by rw [← H.out, List.drop_of_length_le (by simp; omega)]; rfl), q, rfl⟩
end Go.Proofs.YtjgofnbfpoephaaGreatDoor

/- Contracts: the errors of samples, by the reference; copies of samples; short lists. -/
namespace Go.Proofs.YtjgofnbfpoephaaGreatDoor
set_option linter.all false
open Go.RowKit Go.Fl
set_option linter.unusedVariables false

theorem Rd.alloc {w : World} {A : Option Addr} {xs : List Value} (h : Rd w A xs) (o : Obj) : Rd (w.alloc o) A xs := h.below ((Below.refl _ _).alloc (Nat.le_refl _) o)
theorem slice38 (a : Option Addr) (n c : Nat) (h : Int) (h0 : 0 ≤ h) (hc : h ≤ c) (w : World) : (Instr.slice 38 (.slice a n c) none (some (.int .i64 h)) none).run Tryz.prog w = .ok (.slice a h.toNat c) w :=
  slice_to 38 (by kernel_rfl) 1 (fun _ => by kernel_rfl) a n c h h0 hc w
theorem sampsR_eq (xs : List Nat) : firstI [whenI (decide (4096 < xs.length)) 5, whenI (decide (xs.length ≤ 4096)) (firstI ((xs.take (min xs.length 4096)).map sampI))] = sampsI xs := by
  unfold sampsI
  by_cases h : 4096 < xs.length
  · simp [h, firstI, whenI]
  · have h1 : xs.length ≤ 4096 := by omega
    rw [Nat.min_eq_left h1, List.take_length]
    simp only [h, h1, decide_false, decide_true, whenI, firstI, if_true, Bool.false_eq_true, if_false]
    split <;> simp_all

set_option maxRecDepth 100000 in
set_option maxHeartbeats 1000000 in
theorem checkSamplesR_any (A : Option Addr) (n c : Nat) (xs : List Nat) (w : World) (hA : Rd w A (flts xs)) (hn : n = xs.length) (hc : n ≤ c) (hm : xs.length ≤ 9223372036854775807) :
    Calls Tryz.prog 28 #[.slice A n c] w fun e w' => e = .returned (.int .i64 (sampsI xs)) ∧ Below w.heap.size w w' := by
  subst hn
  have i1 : (xs.length : Int) ≤ (c : Int) := by omega
  by_cases h : 4096 < xs.length
  · have hR : Rd w A (flts (xs.take 4096)) := by have := hA.take 4096; simpa [flts] using this
    have hL : 4096 = (xs.take 4096).length := by simp; omega
    have hE := Lib.hid (sampsR_eq xs)
    have d1 : decide ((4096 : Int) < (xs.length : Int)) = true := by simp; omega
    have d2 : decide ((xs.length : Int) ≤ 4096) = false := by simp; omega
    have d0 : Hid (4096 < xs.length) := h
    have hsl := fun W => slice38 A xs.length c 4096 (by decide) (by omega) W
    have hmin : (if (4096 : Int) < (xs.length : Int) then (4096 : Int) else xs.length) = 4096 := if_pos (by omega)
    have HL := Lib.hid hL
    clear hL h
    go_enter Tryz.func28, Tryz.ntmps28
    go_wp2
    go_region_held3 (fun w' => Rd w' A (flts (xs.take 4096))) (first | exact hR | assumption | exact (Rd.drewN hR _).alloc _ | exact hR.alloc _)
      (first | (go_at_call 38; refine (when_any _ _ _).mono ?_; rintro e w' ⟨rfl, rfl⟩) | (go_at_call 98; refine (checkAll_any _ _ _ (xs.take 4096) _ ?_ HL.out ?_).mono ?_; assumption; (rw [← HL.out]; decide); rintro e w' ⟨rfl, q, rfl⟩) | (go_at_call 46; refine (first_any _ _ _ [whenI true 5, whenI false (firstI (List.take 4096 (List.map sampI xs)))] _ ?_ rfl ?_).mono ?_; (first | exact Rd.new _ _ _ _ (by simp) | exact Rd.drewN (Rd.new _ _ _ _ (by simp)) _); (simp); rintro e w' ⟨rfl, rfl⟩))
    all_goals (go_wp2; go_ret)
    all_goals exact ⟨ret_int (by rw [← hE.out, decide_eq_true d0.out]; have : ¬ xs.length ≤ 4096 := (by have := d0.out; omega); rw [decide_eq_false this]; rfl), by repeat (first | exact Below.refl _ _ | refine below_drewN ?_ _ | refine Below.drew ?_ | refine Below.alloc ?_ (by simp) _)⟩
  · have hR : Rd w A (flts xs) := hA
    have hE := Lib.hid (sampsR_eq xs)
    have d1 : decide ((4096 : Int) < (xs.length : Int)) = false := by simp; omega
    have d2 : decide ((xs.length : Int) ≤ 4096) = true := by simp; omega
    have d0 : Hid (xs.length ≤ 4096) := by unfold Hid; omega
    have hsl := fun W => slice38 A xs.length c xs.length (by omega) (by omega) W
    have hmin : (if (4096 : Int) < (xs.length : Int) then (4096 : Int) else xs.length) = xs.length := if_neg (by omega)
    clear h
    go_enter Tryz.func28, Tryz.ntmps28
    go_wp2
    go_region_held3 (fun w' => Rd w' A (flts (xs))) (first | exact hR | assumption | exact (Rd.drewN hR _).alloc _ | exact hR.alloc _)
      (first | (go_at_call 38; refine (when_any _ _ _).mono ?_; rintro e w' ⟨rfl, rfl⟩) | (go_at_call 98; refine (checkAll_any _ _ _ (xs) _ ?_ rfl ?_).mono ?_; assumption; exact hm; rintro e w' ⟨rfl, q, rfl⟩) | (go_at_call 46; refine (first_any _ _ _ [whenI false 5, whenI true (firstI (List.map sampI xs))] _ ?_ rfl ?_).mono ?_; (first | exact Rd.new _ _ _ _ (by simp) | exact Rd.drewN (Rd.new _ _ _ _ (by simp)) _); (simp); rintro e w' ⟨rfl, rfl⟩))
    all_goals (go_wp2; go_ret)
    all_goals exact ⟨ret_int (by rw [← hE.out, decide_eq_true d0.out]; have : ¬ 4096 < xs.length := (by have := d0.out; omega); rw [decide_eq_false this, Nat.min_eq_left d0.out, List.take_length]), by repeat (first | exact Below.refl _ _ | refine below_drewN ?_ _ | refine Below.drew ?_ | refine Below.alloc ?_ (by simp) _)⟩
end Go.Proofs.YtjgofnbfpoephaaGreatDoor

/- append from whatever source: nil, empty or not; copies of lists. -/
namespace Go.Proofs.YtjgofnbfpoephaaGreatDoor
set_option linter.all false
open Go.RowKit Go.Fl
set_option linter.unusedVariables false

theorem oneCells (xs : List Value) (h : ∀ u ∈ xs, u.oneCell' = true) : ∀ u ∈ xs, u.oneCell' = true := h

theorem wpList_app {P : Program} {w : World} {ops : Array Oper} {rest : List Oper} {o : Oper} {a : Act} {Q : Exit → Act → World → Prop} (hgd : o.guard = none) (s x : Operand) (t : TypeId)
    (ho : o.op = .call { callee := .builtin .append, args := #[s, x], argTypes := #[t, t] })
    (base : Nat) (e : TypeId) (z : Value) (size bytes : Nat) (ht : P.underlying t = some (.slice e)) (hinfo : (P.info? e).map (fun i => (i.zero, i.size, i.bytes)) = some (some z, size, bytes)) (hzs : z.cells.size = size) (hsz : 0 < size)
    (v : Value) (n : Nat) (xs : List Value) (hs : a.eval s = v) (hown : w.ownsRow base e size v n xs)
    (A : Option Addr) (m c : Nat) (news : List Value) (hx : a.eval x = .slice A m c) (hc : A = none → c = 0) (hr : Rd w A news) (hl : news.length = m * size) (h1 : ∀ u ∈ news, u.oneCell' = true)
    (h63 : n + m ≤ maxLen) (hbytes : (n + m) * bytes ≤ 140737488355328) (hbase : base ≤ w.heap.size)
    (h : ∀ v' w', w'.ownsRow base e size v' (n + m) (xs ++ news) → w.grownBy w' v.ownBlock → wpList P ops Q rest (a.put o.dst v') w') : wpList P ops Q (o :: rest) a w := by
  obtain ⟨i, hi, hz0, hz1, hz2⟩ := info_parts hinfo
  cases hA : A with
  | none =>
    have hn : news = [] := by
      cases news with
      | nil => rfl
      | cons u us =>
        obtain ⟨b, off, hh, _⟩ := hr 0 u rfl
        rw [hA] at hh; cases hh
    subst hn
    have hm : m = 0 := by
      have h0 : 0 = m * size := hl
      rcases Nat.mul_eq_zero.1 h0.symm with h | h
      · exact h
      · omega
    subst hm
    rw [hA, hc hA] at hx
    refine wpList_append_own_none hgd s x t ho base e i size ht hi v n xs hs hown hx (h v w (by simpa using hown) (World.grownBy.refl w _))
  | some ad =>
    have hcells : ∀ j u, news[j]? = some u → w.cell? (ad.add j) = some u := by
      intro j u hu
      obtain ⟨b, off, hh, hcell⟩ := hr j u hu
      rw [hA] at hh
      cases hh
      by_cases hj : j = 0
      · subst hj; simpa [Addr.add] using hcell
      · simpa [Addr.add, hj] using hcell
    rw [hA] at hx
    exact wpList_append_own w hgd s x t ho base e i z size bytes ht hi hz0 hz1 hz2 hzs hsz v n xs hs hown ad m c news hx hl hcells h1 h63 hbytes hbase fun v' w' h2 h3 _ => h v' w' h2 h3

theorem ownsRow.empty (w : World) (e : TypeId) (size : Nat) : (w.alloc (.cells #[] e)).ownsRow w.heap.size e size (.slice (some ⟨w.heap.size, 0, none⟩) 0 0) 0 [] :=
  World.ownsRow_made w #[] 0 (Nat.le_refl _) (by unfold maxLen; decide) (by simp)

theorem info37 : (Tryz.prog.info? 37).map (fun i => (i.zero, i.size, i.bytes)) = some (some (.float .f32 0), 1, 4) := by kernel_rfl
theorem info5 : (Tryz.prog.info? 5).map (fun i => (i.zero, i.size, i.bytes)) = some (some (.int .u8 0), 1, 1) := by kernel_rfl

set_option maxHeartbeats 400000 in
theorem floats_any (A : Option Addr) (n c : Nat) (xs : List Nat) (w : World) (hA : Rd w A (flts xs)) (hn : n = xs.length) (hc : A = none → c = 0) (hm : xs.length ≤ 4294967296) :
    Calls Tryz.prog 27 #[.slice A n c] w fun e w' => ∃ v, e = .returned v ∧ w'.ownsRow w.heap.size 37 1 v xs.length (flts xs) ∧ Below w.heap.size w w' := by
  subst hn
  have hA2 := Lib.hid (hA.below ((Below.refl _ _).alloc (Nat.le_refl _) (.cells #[] 37)))
  go_enter Tryz.func27, Tryz.ntmps27
  go_wp2_with (at_builtin; refine wpList_app rfl _ _ 38 rfl w.heap.size 37 (.float .f32 0) 1 4 Tryz.underlying38 info37 rfl (by decide) _ 0 [] rfl (ownsRow.empty w 37 1) A xs.length c (flts xs) rfl hc hA2.out (by simp [flts]) ?c1 ?c2 ?c3 ?c4 ?_)
  case c1 => simp [flts, Value.oneCell']
  case c2 => unfold maxLen; omega
  case c3 => omega
  case c4 => simp
  intro v' w1 hown hg
  have Hown : Hid (w1.ownsRow w.heap.size 37 1 v' xs.length (flts xs)) := by unfold Hid; simpa using hown
  have Hb := Lib.hid (((Below.refl w.heap.size w).alloc (Nat.le_refl _) (.cells #[] 37)).grown hg (by simp) (fun k hk => by simp [Value.ownBlock] at hk; omega))
  clear hown hg
  go_wp2
  go_ret
  exact ⟨_, rfl, Hown.out, Hb.out⟩

/-- two lists of floats, element by element equal (no NaN is equal to anything) -/
def sameF : List Nat → List Nat → Bool
  | [], [] => true
  | x :: xs, y :: ys => (FloatKind.f32.format.order x y == some .eq) && sameF xs ys
  | _, _ => false
theorem sameF_length {xs ys : List Nat} (h : xs.length ≠ ys.length) : sameF xs ys = false := by
  induction xs generalizing ys with
  | nil => cases ys with
    | nil => exact absurd rfl h
    | cons => rfl
  | cons x xs ih => cases ys with
    | nil => rfl
    | cons y ys => rw [sameF, ih (by simpa using h), Bool.and_false]
theorem sameF_drop {xs ys : List Nat} {k : Nat} (hx : k < xs.length) (hy : k < ys.length) : sameF (xs.drop k) (ys.drop k) = ((FloatKind.f32.format.order xs[k] ys[k] == some .eq) && sameF (xs.drop (k + 1)) (ys.drop (k + 1))) := by
  rw [List.drop_eq_getElem_cons hx, List.drop_eq_getElem_cons hy, sameF]
def byts (xs : List UInt8) : List Value := xs.map fun b => .int .u8 (b.toNat : Int)
set_option maxHeartbeats 400000 in
theorem bytes_any (A : Option Addr) (n c : Nat) (xs : List UInt8) (w : World) (hA : Rd w A (byts xs)) (hn : n = xs.length) (hc : A = none → c = 0) (hm : xs.length ≤ 4294967296) :
    Calls Tryz.prog 32 #[.slice A n c] w fun e w' => ∃ v, e = .returned v ∧ w'.ownsRow w.heap.size 5 1 v xs.length (byts xs) ∧ Below w.heap.size w w' := by
  subst hn
  have hA2 := Lib.hid (hA.below ((Below.refl _ _).alloc (Nat.le_refl _) (.cells #[] 5)))
  go_enter Tryz.func32, Tryz.ntmps32
  go_wp2_with (at_builtin; refine wpList_app rfl _ _ 59 rfl w.heap.size 5 (.int .u8 0) 1 1 Tryz.underlying59 info5 rfl (by decide) _ 0 [] rfl (ownsRow.empty w 5 1) A xs.length c (byts xs) rfl hc hA2.out (by simp [byts]) ?c1 ?c2 ?c3 ?c4 ?_)
  case c1 => simp [byts, Value.oneCell']
  case c2 => unfold maxLen; omega
  case c3 => omega
  case c4 => simp
  intro v' w1 hown hg
  have Hown : Hid (w1.ownsRow w.heap.size 5 1 v' xs.length (byts xs)) := by unfold Hid; simpa using hown
  have Hb := Lib.hid (((Below.refl w.heap.size w).alloc (Nat.le_refl _) (.cells #[] 5)).grown hg (by simp) (fun k hk => by simp [Value.ownBlock] at hk; omega))
  clear hown hg
  go_wp2
  go_ret
  exact ⟨_, rfl, Hown.out, Hb.out⟩

set_option maxHeartbeats 400000 in
theorem sameSamples_any (A B : Option Addr) (n m c d : Nat) (xs ys : List Nat) (w : World) (hA : Rd w A (flts xs)) (hB : Rd w B (flts ys)) (hn : n = xs.length) (hm : m = ys.length) (hx : xs.length ≤ 9223372036854775807) :
    Calls Tryz.prog 50 #[.slice A n c, .slice B m d] w fun e w' => e = .returned (.bool (sameF xs ys)) ∧ ∃ q, w' = w.drewN q := by
  subst hn; subst hm
  by_cases hl : xs.length = ys.length
  · have hl1 : ((xs.length : Int) != (ys.length : Int)) = false := by rw [bne_eq_false_iff_eq]; omega
    have HL := Lib.hid hl; clear hl
    go_enter Tryz.func50, Tryz.ntmps50
    go_wp2
    go_loopw [5] (fun i wr => ∃ k : Nat, k ≤ xs.length ∧ i = .int .i64 k ∧ Hid (sameF (xs.drop k) (ys.drop k) = sameF xs ys) ∧ ∃ q, wr = w.drewN q) (fun i _ => xs.length - (intOf i).toNat)
    case atStart => exact ⟨0, Nat.zero_le _, rfl, rfl, 0, rfl⟩
    case round =>
      obtain ⟨k, hk, rfl, H, q, rfl⟩ := hrel
      by_cases hlt : k < xs.length
      · have hlt2 : k < ys.length := by rw [← HL.out]; exact hlt
        obtain ⟨b, off, rfl, hc⟩ := Rd.flt hA hlt
        obtain ⟨b', off', rfl, hc'⟩ := Rd.flt hB hlt2
        have i1 : (k : Int) < (xs.length : Int) := by omega
        have i2 : (k : Int) < (ys.length : Int) := by omega
        have HS := Lib.hid (sameF_drop hlt hlt2)
        cases ho : (FloatKind.f32.format.order xs[k] ys[k] == some .eq)
        · have ho2 : (FloatKind.f32.format.order xs[k] ys[k] != some .eq) = true := by rw [bne, ho]; rfl
          have Ho := Lib.hid ho; clear ho
          go_wp2
          go_quiet (fail)
          go_wp2
          go_ret
          exact ⟨ret_bool (by rw [← H.out, HS.out, Ho.out]; rfl), q + _, by rw [World.drewN_drewN]⟩
        · have ho2 : (FloatKind.f32.format.order xs[k] ys[k] != some .eq) = false := by rw [bne, ho]; rfl
          have Ho := Lib.hid ho; clear ho
          go_wp2
          go_quiet (fail)
          go_wp2
          go_roundw
          case rel => exact ⟨k + 1, by omega, by go_num, by show _ = _; rw [← H.out, HS.out, Ho.out]; rfl, _, rfl⟩
          case measure => simp [intOf]; omega
      · go_wp2
        go_ret
        exact ⟨ret_bool (by rw [← H.out, List.drop_of_length_le (by omega), List.drop_of_length_le (by rw [← HL.out]; omega)]; rfl), q, rfl⟩
  · have hl1 : ((xs.length : Int) != (ys.length : Int)) = true := by rw [bne_iff_ne]; omega
    have HL := Lib.hid hl; clear hl
    go_enter Tryz.func50, Tryz.ntmps50
    go_wp2
    go_ret
    exact ⟨ret_bool (sameF_length HL.out).symm, 0, rfl⟩
end Go.Proofs.YtjgofnbfpoephaaGreatDoor

/- Contracts: seals. -/
namespace Go.Proofs.YtjgofnbfpoephaaGreatDoor
set_option linter.all false
open Go.RowKit Go.Fl
set_option linter.unusedVariables false

def stepX (j : Nat) (x b : Int) : Int := ((10 * j + 7) * x + b + 3 * j + 5) % 256
def sealB (j : Nat) (x : Int) (bs : List UInt8) : Int := bs.foldl (fun x b => stepX j x b.toNat) x
def sealGo (bs : List UInt8) : Nat → List Int → List Int
  | _, [] => []
  | j, x :: xs => sealB j x bs :: sealGo bs (j + 1) xs
def sealL (key : List Int) (bs : List UInt8) : List Int := sealGo bs 0 key
def u8s (xs : List Int) : List Value := xs.map (Value.int .u8)
def keyV (xs : List Int) : Value := .agg (u8s xs).toArray
def isByte (x : Int) : Prop := 0 ≤ x ∧ x ≤ 255

theorem index_key (k0 k1 k2 k3 k4 k5 k6 k7 : Int) (j : Nat) (hj : j < 8) (w : World) :
    (Instr.index 47 (.agg #[.int .u8 k0, .int .u8 k1, .int .u8 k2, .int .u8 k3, .int .u8 k4, .int .u8 k5, .int .u8 k6, .int .u8 k7]) (.int .i64 (j : Int))).run Tryz.prog w = .ok (.int .u8 ([k0, k1, k2, k3, k4, k5, k6, k7].getD j 0)) w := by
  rcases (show j = 0 ∨ j = 1 ∨ j = 2 ∨ j = 3 ∨ j = 4 ∨ j = 5 ∨ j = 6 ∨ j = 7 by omega) with rfl | rfl | rfl | rfl | rfl | rfl | rfl | rfl
  all_goals kernel_rfl

theorem sealGo_length (bs : List UInt8) (key : List Int) : ∀ j, (sealGo bs j key).length = key.length := by
  induction key with
  | nil => intro j; rfl
  | cons x xs ih => intro j; simp [sealGo, ih]
theorem sealGo_get (bs : List UInt8) (key : List Int) : ∀ (j i : Nat) (h : i < key.length), (sealGo bs j key)[i]'(by rw [sealGo_length]; exact h) = sealB (j + i) key[i] bs := by
  induction key with
  | nil => intro j i h; simp at h
  | cons x xs ih =>
    intro j i h
    cases i with
    | zero => simp [sealGo]
    | succ i =>
      have := ih (j + 1) i (by simpa using h)
      simp only [sealGo, List.getElem_cons_succ]
      rw [this]; congr 1; omega
/-- the key, of which j bytes are sealed -/
def mixL (key : List Int) (bs : List UInt8) (j : Nat) : List Int := (sealL key bs).take j ++ key.drop j
theorem mixL_length (key : List Int) (bs : List UInt8) (j : Nat) (hj : j ≤ key.length) : (mixL key bs j).length = key.length := by
  simp [mixL, sealL, sealGo_length]; omega
theorem mixL_set (key : List Int) (bs : List UInt8) (j : Nat) (hj : j < key.length) : (u8s (mixL key bs j)).set j (.int .u8 (sealB j key[j] bs)) = u8s (mixL key bs (j + 1)) := by
  have hl : ((sealL key bs).take j).length = j := by simp [sealL, sealGo_length]; omega
  have hs : j < (sealL key bs).length := by simp [sealL, sealGo_length]; exact hj
  have hg : (sealL key bs)[j] = sealB j key[j] bs := by
    have := sealGo_get bs key 0 j hj
    simpa [sealL] using this
  have e : u8s (mixL key bs j) = u8s ((sealL key bs).take j) ++ u8s (key.drop j) := by simp [u8s, mixL]
  rw [e, List.drop_eq_getElem_cons hj, mixL, List.take_succ_eq_append_getElem hs, hg]
  rw [List.set_append_right _ _ (by simp [u8s]; omega)]
  have : j - (u8s ((sealL key bs).take j)).length = 0 := by simp [u8s]; omega
  rw [this]
  simp only [u8s, List.map_cons, List.set_cons_zero, List.map_append, List.append_assoc, List.cons_append, List.nil_append]
theorem sealB_snoc (j : Nat) (x : Int) (bs : List UInt8) (k : Nat) (hk : k < bs.length) : sealB j x (bs.take (k + 1)) = stepX j (sealB j x (bs.take k)) bs[k].toNat := by
  rw [List.take_succ_eq_append_getElem hk, sealB, List.foldl_append]; rfl
theorem stepX_bd (j : Nat) (x b : Int) : 0 ≤ stepX j x b ∧ stepX j x b ≤ 255 := by
  unfold stepX; omega
theorem Rd.byte {w : World} {A : Option Addr} {xs : List UInt8} (h : Rd w A (byts xs)) {j : Nat} (hj : j < xs.length) : ∃ b off, A = some ⟨b, off, none⟩ ∧ w.cell? ⟨b, off + j, none⟩ = some (.int .u8 (xs[j].toNat : Int)) := by
  obtain ⟨b, off, h1, h2⟩ := Rd.at h (j := j) (by simpa [byts] using hj)
  exact ⟨b, off, h1, by rw [h2]; simp [byts]⟩

theorem stepX_wrap (j : Nat) (x b : Int) : (((10 * (j : Int) + 7) * x + b) % 256 + (3 * (j : Int) + 5)) % 256 = stepX j x b := by
  unfold stepX; omega
theorem info47 : (Tryz.prog.info? 47).map (·.size) = some 8 := by kernel_rfl

set_option maxRecDepth 100000 in
set_option maxHeartbeats 1000000 in
theorem sealed_any (k0 k1 k2 k3 k4 k5 k6 k7 : Int) (A : Option Addr) (n c : Nat) (bs : List UInt8) (w : World) (hA : Rd w A (byts bs)) (hn : n = bs.length) (hm : bs.length ≤ 9223372036854775807) (hkeys : ∀ j (h : j < 8), isByte ([k0, k1, k2, k3, k4, k5, k6, k7][j])) :
    Calls Tryz.prog 101 #[.agg #[.int .u8 k0, .int .u8 k1, .int .u8 k2, .int .u8 k3, .int .u8 k4, .int .u8 k5, .int .u8 k6, .int .u8 k7], .slice A n c] w fun e w' => e = .returned (keyV (sealL [k0, k1, k2, k3, k4, k5, k6, k7] bs)) ∧ Below w.heap.size w w' := by
  subst hn
  have hix := fun (j : Nat) (hj : j < 8) W => index_key k0 k1 k2 k3 k4 k5 k6 k7 j hj W
  have Hix := Lib.hid hix
  have Hkeys := Lib.hid hkeys
  clear hix hkeys
  go_enter Tryz.func101, Tryz.ntmps101
  go_wp2
  go_loopw [12] (fun i wr => ∃ j : Nat, j ≤ 8 ∧ i = .int .i64 j ∧ Row wr w.heap.size 47 (u8s (mixL [k0, k1, k2, k3, k4, k5, k6, k7] bs j)) ∧ Row wr (w.heap.size + 1) 47 (u8s [0, 0, 0, 0, 0, 0, 0, 0]) ∧ Below w.heap.size w wr) (fun i _ => 8 - (intOf i).toNat)
  case atStart => exact ⟨0, Nat.zero_le _, rfl, (Row.new w 47 (u8s [k0, k1, k2, k3, k4, k5, k6, k7])).alloc _, by have := Row.new (w.alloc (.cells (u8s [k0, k1, k2, k3, k4, k5, k6, k7]).toArray 47)) 47 (u8s [0, 0, 0, 0, 0, 0, 0, 0]); rw [World.size_alloc] at this; exact this, by repeat (first | exact Below.refl _ _ | refine below_drewN ?_ _ | refine Below.drew ?_ | refine Below.alloc ?_ (by simp) _)⟩
  case round =>
    obtain ⟨j, hj, rfl, hrow, hres, hb⟩ := hrel
    by_cases hlt : j < 8
    · obtain ⟨kj, hkj⟩ : ∃ kj, [k0, k1, k2, k3, k4, k5, k6, k7].getD j 0 = kj := ⟨_, rfl⟩
      have hi := fun W => Hix.out j hlt W
      rw [hkj] at hi
      have hset := Lib.hid (mixL_set [k0, k1, k2, k3, k4, k5, k6, k7] bs j hlt)
      have HK : Hid ([k0, k1, k2, k3, k4, k5, k6, k7][j] = kj) := by unfold Hid; rw [← hkj]; simp [hlt]
      have hkb := Lib.hid (Hkeys.out j hlt)
      have hA2 := Lib.hid (hA.below hb)
      obtain ⟨v0, hc0⟩ : ∃ v0, wr.cell? ⟨w.heap.size, j, none⟩ = some v0 := ⟨_, hrow.cellAt (by have := mixL_length [k0, k1, k2, k3, k4, k5, k6, k7] bs j (by simpa using hj); simp [u8s, this]; omega)⟩
      have hf0 := hrow.free j
      have Hrow := Lib.hid hrow
      have Hres := Lib.hid hres
      have Hb := Lib.hid hb
      clear hrow hres hb hkj
      go_wp2
      go_loop [26, 6] (fun i x => ∃ (k : Nat) (y : Int), k ≤ bs.length ∧ i = .int .i64 k ∧ x = .int .u8 y ∧ 0 ≤ y ∧ y ≤ 255 ∧ Hid (y = sealB j kj (bs.take k))) (fun i _ => bs.length - (intOf i).toNat)
      case atStart => exact ⟨0, kj, Nat.zero_le _, rfl, rfl, by rw [← HK.out]; exact hkb.out.1, by rw [← HK.out]; exact hkb.out.2, rfl⟩
      case round =>
        obtain ⟨k, y, hk, rfl, rfl, y0, y1, H⟩ := hrel
        by_cases hkl : k < bs.length
        · obtain ⟨b, off, rfl, hc⟩ := Rd.byte hA2.out hkl
          have hsn := Lib.hid (sealB_snoc j kj bs k hkl)
          have hst := Lib.hid (stepX_wrap j y bs[k].toNat)
          have hbd := Lib.hid (stepX_bd j y bs[k].toNat)
          go_wp2
          go_round
          case rel => exact ⟨k + 1, stepX j y bs[k].toNat, by omega, by go_num, by rw [hst.out], hbd.out.1, hbd.out.2, by show _ = _; rw [hsn.out, ← H.out]⟩
          case measure => simp [intOf]; omega
        · have he : Hid (y = sealB j kj bs) := by have := H.out; rw [List.take_of_length_le (by omega)] at this; exact this
          go_wp2
          go_roundw
          case rel => exact ⟨j + 1, by omega, by go_num, by rw [← hset.out, HK.out, ← he.out]; exact Hrow.out.set j _, Hres.out.far (by simp) _, Hb.out.setCell (by simp) _⟩
          case measure => simp [intOf]; omega
    · obtain rfl : j = 8 := by omega
      have hr8 : Row wr w.heap.size 47 (u8s (sealL [k0, k1, k2, k3, k4, k5, k6, k7] bs)) := hrow
      obtain ⟨l, hl⟩ : ∃ l, l = sealL [k0, k1, k2, k3, k4, k5, k6, k7] bs := ⟨_, rfl⟩
      have hlen : l.length = 8 := by rw [hl]; simp [sealL, sealGo_length]
      rw [← hl] at hr8
      have He := Lib.hid hl
      have Hr := Lib.hid hr8
      have Hres := Lib.hid hres
      have Hlen := Lib.hid hlen
      clear hrow hr8 hl hlen hres
      go_wp2_with (first | (refine wpList_load_row rfl 47 _ rfl w.heap.size rfl 47 (u8s l).toArray (0, 0) _ Hr.out Tryz.underlying47 rfl ?_ ?_; (rw [info47]; simp [u8s, Hlen.out])) | (refine wpList_store_row rfl 47 _ _ rfl (w.heap.size + 1) (u8s l).toArray rfl rfl 47 _ Hres.out ?_ ?_ ?_ ?_; (rw [info47]; simp [u8s, Hlen.out]); (simp [u8s, Hlen.out]); (simp [u8s, Value.oneCell'])))
      refine bodyPost_ret (v := .agg (u8s l).toArray) (results_cell_row rfl _ _ (w.heap.size + 1) 47 (u8s l).toArray (0, 0) _ rfl (Hres.out.setRow (u8s l)) Tryz.underlying47 rfl ?_) rfl ⟨by rw [← He.out]; rfl, Below.setRow hb (by simp) _⟩
      rw [info47]; simp [u8s, Hlen.out]
end Go.Proofs.YtjgofnbfpoephaaGreatDoor
