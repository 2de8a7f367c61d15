import Derived.Test.YtlflfieknibgmaaGreatDoorM02
import Derived.StillTailTactics
import Derived.Deep.RegionHeld3
import Derived.Test.YtlflfieknibgmaaGreatDoorM04
namespace Go.Proofs.YtlflfieknibgmaaGreatDoor
set_option linter.all false
open Go.RowKit
-- the program's When, CheckRange, First
theorem failed_t (n : Int) (w : World) : Calls Tryz.prog 45 #[.bool true, .int .i64 n] w fun e w' => e = .returned (.int .i64 n) ∧ w = w' := by
  go_enter Tryz.func45, Tryz.ntmps45
  go_wp2
  go_ret
  exact ⟨rfl, rfl⟩
theorem failed_f (n : Int) (w : World) : Calls Tryz.prog 45 #[.bool false, .int .i64 n] w fun e w' => e = .returned (.int .i64 0) ∧ w = w' := by
  go_enter Tryz.func45, Tryz.ntmps45
  go_wp2
  go_ret
  exact ⟨rfl, rfl⟩
theorem failed_any (b : Bool) (n : Int) (w : World) : Calls Tryz.prog 45 #[.bool b, .int .i64 n] w fun e w' => e = .returned (.int .i64 (whenI b n)) ∧ w = w' := by
  cases b
  · exact failed_f n w
  · exact failed_t n w
set_option maxHeartbeats 400000 in
theorem between_any (n low high : Int) (w : World) : Calls Tryz.prog 34 #[.int .i64 n, .int .i64 low, .int .i64 high] w fun e w' => e = .returned (.int .i64 (whenI (rangeB n low high) 3)) ∧ w = w' := by
  go_enter Tryz.func34, Tryz.ntmps34
  go_wp2_with (go_at_call 45; refine (failed_any _ _ _).mono ?_; rintro e w' ⟨rfl, rfl⟩)
  all_goals go_ret
  all_goals exact ⟨ret_int (by simp [rangeB, *]), rfl⟩
set_option maxHeartbeats 400000 in
theorem firstV_any (A : Option Addr) (n c : Nat) (zs : List Int) (w : World) (h : Rd w A (ints zs)) (hn : n = zs.length) (hm : zs.length ≤ 9223372036854775807) :
    Calls Tryz.prog 32 #[.slice A n c] w fun e w' => e = .returned (.int .i64 (firstI zs)) ∧ w = w' := by
  subst hn
  go_enter Tryz.func32, Tryz.ntmps32
  go_wp2
  go_loop [7] (fun i => ∃ k : Nat, k ≤ zs.length ∧ i = .int .i64 k ∧ Hid (firstI (zs.drop k) = firstI zs)) (fun i => zs.length - (intOf i).toNat)
  case atStart => exact ⟨0, Nat.zero_le _, rfl, rfl⟩
  case round =>
    obtain ⟨k, hk, rfl, H⟩ := hrel
    by_cases hlt : k < zs.length
    · obtain ⟨b, off, rfl, hc⟩ := Rd.int h hlt
      have hd := Lib.hid (firstI_drop hlt)
      by_cases hz : zs[k] = 0
      · rw [hz] at hc
        go_wp2
        go_round
        case rel => exact ⟨k + 1, by omega, by go_num, by show _ = _; rw [← H.out, hd.out, if_pos hz]⟩
        case measure => simp [intOf]; omega
      · have hz' : (zs[k] != 0) = true := by simpa using hz
        have Hz := Lib.hid hz; clear hz
        go_wp2
        go_ret
        exact ⟨ret_int (by rw [← H.out, hd.out, if_neg Hz.out]), rfl⟩
    · go_wp2
      go_ret
      exact ⟨ret_int (by rw [← H.out, List.drop_of_length_le (by omega)]; rfl), rfl⟩
-- letters and digits
def capB (c : Int) : Bool := decide (65 ≤ c) && decide (c ≤ 90)
set_option maxHeartbeats 400000 in
theorem isCapital_any (c : Int) (w : World) : Calls Tryz.prog 98 #[.int .u8 c] w fun e w' => e = .returned (.bool (capB c)) ∧ w = w' := by
  go_enter Tryz.func98, Tryz.ntmps98
  go_wp2
  all_goals go_ret
  all_goals exact ⟨by simp [capB, *] <;> omega, rfl⟩
def gcdI (a b : Int) : Int := Int.gcd a b
theorem gcdI_step (a b : Int) : gcdI a b = gcdI b (a.tmod b) := by
  unfold gcdI
  congr 1
  show Nat.gcd a.natAbs b.natAbs = Nat.gcd b.natAbs (a.tmod b).natAbs
  rw [Int.natAbs_tmod, Nat.gcd_comm a.natAbs, Nat.gcd_rec, Nat.gcd_comm]
theorem gcdI_zero (a : Int) : gcdI a 0 = max a (-a) := by
  unfold gcdI; rw [Int.gcd_zero_right]; omega
def Bd (a : Int) : Prop := -9223372036854775807 ≤ a ∧ a ≤ 9223372036854775807
theorem tmod_lt {a b : Int} (h : b ≠ 0) : (a.tmod b).natAbs < b.natAbs := by
  rw [Int.natAbs_tmod]; exact Nat.mod_lt _ (by omega)
theorem tmod_bd {a b : Int} (hb : Bd b) (h : b ≠ 0) : Bd (a.tmod b) := by
  have := tmod_lt (a := a) h; unfold Bd at *; omega
set_option maxHeartbeats 400000 in
theorem absolute_any (a : Int) (w : World) (ha : Bd a) : Calls Tryz.prog 166 #[.int .i64 a] w fun e w' => e = .returned (.int .i64 (max a (-a))) ∧ w' = w := by
  unfold Bd at ha
  go_enter Tryz.func166, Tryz.ntmps166
  go_wp2
  all_goals go_ret
  all_goals exact ⟨ret_int (by omega), rfl⟩
set_option maxHeartbeats 400000 in
theorem divisor_any (a b : Int) (w : World) (ha : Bd a) (hb : Bd b) : Calls Tryz.prog 138 #[.int .i64 a, .int .i64 b] w fun e w' => e = .returned (.int .i64 (gcdI a b)) ∧ ∃ n, w' = w.drewN n := by
  go_enter Tryz.func138, Tryz.ntmps138
  go_wp2
  go_loopw [0, 1] (fun x y wr => ∃ (p q : Int), x = .int .i64 p ∧ y = .int .i64 q ∧ Hid (Bd p) ∧ Hid (Bd q) ∧ Hid (gcdI p q = gcdI a b) ∧ ∃ n, wr = w.drewN n) (fun _ y _ => (intOf y).natAbs)
  case atStart => exact ⟨a, b, rfl, rfl, ha, hb, rfl, 0, rfl⟩
  case round =>
    obtain ⟨p, q, rfl, rfl, hp, hq, H, n, rfl⟩ := hrel
    by_cases hz : q = 0
    · subst hz
      go_wp2_with (go_at_call 166; refine (absolute_any _ _ hp.out).mono ?_; rintro e w1 ⟨rfl, rfl⟩)
      go_ret
      exact ⟨ret_int (by rw [← H.out, gcdI_zero]), n, rfl⟩
    · have hz' : (q != 0) = true := by simpa using hz
      have hz2 : (q == 0) = false := by simpa using hz
      have hlt := Lib.hid (tmod_lt (a := p) hz)
      have hbd := Lib.hid (tmod_bd (a := p) hq.out hz)
      have hst := Lib.hid (gcdI_step p q)
      have hb0 := hp.out
      have hb1 := hq.out
      unfold Bd at hb0 hb1
      go_wp2
      go_quiet (fail)
      go_wp2
      go_roundw
      case rel => exact ⟨q, p.tmod q, rfl, rfl, hq, hbd, by show _ = _; rw [← H.out, hst.out], n + nq, by rw [World.drewN_drewN]⟩
      case measure => exact hlt.out
theorem Rd.new (w : World) (cs : Array Value) (t : TypeId) (b : Nat) (hb : b = w.heap.size) : Rd (w.alloc (.cells cs t)) (some ⟨b, 0, none⟩) cs.toList := by
  subst hb
  intro j v hv
  refine ⟨_, _, rfl, ?_⟩
  rw [Nat.zero_add, World.cell?_alloc_at _ _ _ _ rfl]
  simpa using hv
theorem Rd.drew {w : World} {A : Option Addr} {xs : List Value} (h : Rd w A xs) : Rd w.drew A xs := h
theorem Rd.drewN {w : World} {A : Option Addr} {xs : List Value} (h : Rd w A xs) (n : Nat) : Rd (w.drewN n) A xs := h
end Go.Proofs.YtlflfieknibgmaaGreatDoor
namespace Go.Proofs.YtlflfieknibgmaaGreatDoor
set_option linter.all false
open Go.RowKit Go.Fl
theorem quo16 {n : Int} (hn : n.natAbs < 2 ^ 20) (w : World) : (binOp .quo 43 (.float .f32 (floatOfInt .f32 n)) (.float .f32 1098907648)).run Tryz.prog w = .ok (.float .f32 (fb n)) w :=
  run_float_arith w .quo _ .f32 _ _ _ (fb_spec hn).1
set_option maxHeartbeats 400000 in
theorem sampleOf_any (n : Int) (w : World) (hn : n.natAbs < 2 ^ 20) : Calls Tryz.prog 88 #[.int .i64 n] w fun e w' => e = .returned (.float .f32 (fb n)) ∧ w = w' := by
  have hq := fun w => quo16 hn w
  go_enter Tryz.func88, Tryz.ntmps88
  go_wp2
  go_ret
  exact ⟨rfl, rfl⟩
theorem cut16 {x : Nat} {V : Int} (h : Val Ieee.single x V) (hV : V.natAbs < 2 ^ 200) (hc : (cutI V).natAbs < 2 ^ 60) : ∃ r, (∀ w, (binOp .mul 43 (.float .f32 1098907648) (.float .f32 x)).run Tryz.prog w = .ok (.float .f32 r) w) ∧
    ∀ w, (convert 43 3 (.float .f32 r)).run Tryz.prog w = .ok (.int .i64 (cutI V)) w := by
  obtain ⟨r, h1, h2⟩ := mul16 h hV
  exact ⟨r, fun w => run_float_arith w .mul _ .f32 _ _ _ h1, fun w => run_convert_float_int w _ _ .f32 .i64 _ _ (by kernel_rfl) (by kernel_rfl) (toInt32 h2 hc)⟩
set_option maxHeartbeats 400000 in
theorem unitOf_any (x : Nat) (V : Int) (w : World) (h : Val Ieee.single x V) (hV : V.natAbs < 2 ^ 200) (hc : (cutI V).natAbs < 2 ^ 60) : Calls Tryz.prog 76 #[.float .f32 x] w fun e w' => e = .returned (.int .i64 (cutI V)) ∧ w = w' := by
  obtain ⟨r, h1, h2⟩ := cut16 h hV hc
  clear hV hc
  go_enter Tryz.func76, Tryz.ntmps76
  go_wp2
  go_ret
  exact ⟨rfl, rfl⟩
set_option maxHeartbeats 400000 in
theorem isNaN_any (y : Nat) (w : World) : Calls Tryz.prog 171 #[.float .f64 y] w fun e w' => e = .returned (.bool (Ieee.double.order y y != some .eq)) ∧ w = w' := by
  go_enter Tryz.func171, Tryz.ntmps171
  go_wp2
  go_ret
  exact ⟨by rfl, rfl⟩
theorem bits_run (y : Nat) (w : World) : (callFunc 170 #[.float .f64 y]).run Tryz.prog w = .ok (.value (.int .u64 (y : Int))) w := by kernel_rfl
theorem frombits_run (y : Nat) (w : World) : (callFunc 169 #[.int .u64 (y : Int)]).run Tryz.prog w = .ok (.value (.float .f64 y)) w := by kernel_rfl
theorem clear_sign (y : Nat) (hy : y < 18446744073709551616) : bits .andNot .u64 (y : Int) 9223372036854775808 = ((y % 9223372036854775808 : Nat) : Int) := by
  have h := u64_andNot_nat y 9223372036854775808 hy (by decide)
  rw [show ((9223372036854775808 : Nat) : Int) = 9223372036854775808 from rfl] at h
  rw [h]
  have e : 18446744073709551615 - 9223372036854775808 = 2 ^ 63 - 1 := by decide
  rw [e, Nat.and_two_pow_sub_one_eq_mod]
set_option maxRecDepth 100000 in
set_option maxHeartbeats 400000 in
theorem abs_any (y : Nat) (w : World) (hy : y < 18446744073709551616) : Calls Tryz.prog 141 #[.float .f64 y] w fun e w' => e = .returned (.float .f64 (y % 9223372036854775808)) ∧ w = w' := by
  have h1 := fun w => bits_run y w
  have h2 := fun w => frombits_run (y % 9223372036854775808) w
  have h3 := clear_sign y hy
  obtain ⟨z, hz⟩ : ∃ z, z = y % 9223372036854775808 := ⟨_, rfl⟩
  rw [← hz] at h2 h3 ⊢
  clear hy hz
  go_enter Tryz.func141, Tryz.ntmps141
  go_wp2
  go_ret
  exact ⟨rfl, rfl⟩
set_option maxRecDepth 100000 in
set_option maxHeartbeats 400000 in
theorem isInf_any (y : Nat) (w : World) (hy : y < 18446744073709551616) : Calls Tryz.prog 140 #[.float .f64 y, .int .i64 0] w fun e w' => e = .returned (.bool (Ieee.double.order (y % 9223372036854775808) 9218868437227405311 == some .gt)) ∧ w = w' := by
  have h1 := Lib.hid hy
  clear hy
  go_enter Tryz.func140, Tryz.ntmps140
  go_wp2_with (go_at_call 141; refine (abs_any y _ h1.out).mono ?_; rintro e w' ⟨rfl, rfl⟩)
  go_ret
  exact ⟨rfl, rfl⟩
theorem conv_fin {x y : Nat} (h : floatToFloatBits .f32 x .f64 = some y) (w : World) : (convert 43 126 (.float .f32 x)).run Tryz.prog w = .ok (.float .f64 y) w :=
  run_convert_float_float w _ _ .f32 .f64 _ _ (by kernel_rfl) (by kernel_rfl) h
theorem conv_inf {x : Nat} {s : Bool} (h : Ieee.single.read x = .infinity s) (w : World) : (convert 43 126 (.float .f32 x)).run Tryz.prog w = .ok (.float .f64 (Ieee.double.write (.infinity s))) w := by
  refine conv_fin ?_ w
  unfold floatToFloatBits
  rw [if_neg (by decide)]
  have hd : FloatKind.f32.decode x = .infinity s := h
  rw [hd]; rfl
theorem conv_nan {x : Nat} {s : Bool} {t : Nat} (h : Ieee.single.read x = .nan s t) (w : World) : ∃ y, (convert 43 126 (.float .f32 x)).run Tryz.prog w = .ok (.float .f64 y) w.drew ∧ ∃ s t, Ieee.double.read y = .nan s t := by
  have u1 := Tryz.underlying43
  have u2 := Tryz.underlying126
  have hd : FloatKind.f32.decode x = .nan s t := h
  refine ⟨(Question.nanConv .f64 x).cut (w.tape w.drawn (Question.nanConv .f64 x)), ?_, nan64_cut _ _⟩
  simp [convert, run_underlying u1, run_underlying u2, Conv.floatToFloat, hd, Question.forced]
def finB (x : Nat) : Bool := (V32 x).isSome
set_option maxRecDepth 100000 in
set_option maxHeartbeats 400000 in
theorem isFinite_any (x : Nat) (w : World) : Calls Tryz.prog 143 #[.float .f32 x] w fun e w' => e = .returned (.bool (finB x)) ∧ ∃ n, w' = w.drewN n := by
  cases hV : V32 x with
  | some V =>
    have hv := V32_some hV
    obtain ⟨y, h1, h2, h3⟩ := wide hv
    have hc := conv_fin h1
    have hlt := Lib.hid (wide_lt h1)
    have e1 : (Ieee.double.order y y != some .eq) = false := by have := order_eq_iff h2 h2; simp [bne, this]
    have e2 : Hid ((Ieee.double.order (y % 9223372036854775808) 9218868437227405311 == some .gt) = false) := not_inf h2 h3
    have HV := Lib.hid hV
    have E1 := Lib.hid e1
    clear hV hv h1 h2 h3 e1
    go_enter Tryz.func143, Tryz.ntmps143
    go_wp2_with (first | (go_at_call 171; refine (isNaN_any y _).mono ?_; rintro e w' ⟨rfl, rfl⟩; rw [E1.out]) | (go_at_call 140; refine (isInf_any y _ hlt.out).mono ?_; rintro e w' ⟨rfl, rfl⟩; rw [e2.out]))
    go_ret
    exact ⟨by rw [finB, HV.out]; rfl, 0, rfl⟩
  | none =>
    have HV := Lib.hid hV
    rcases V32_none hV with ⟨s, hr⟩ | ⟨s, t, hr⟩
    · have hc := conv_inf hr
      obtain ⟨y, hy⟩ : ∃ y, y = Ieee.double.write (.infinity s) := ⟨_, rfl⟩
      have hri : Ieee.double.read y = .infinity s := by rw [hy]; exact read_inf _ _ (by decide)
      have hlt : Hid (y < 2 ^ 64) := by rw [hy]; exact Ieee.Format.write_lt Ieee.double _
      rw [← hy] at hc
      have E1 : Hid ((Ieee.double.order y y != some .eq) = false) := by unfold Hid; rw [order_inf_inf hri]; rfl
      have e2 : Hid ((Ieee.double.order (y % 9223372036854775808) 9218868437227405311 == some .gt) = true) := is_inf hri
      clear hV hr hy hri
      go_enter Tryz.func143, Tryz.ntmps143
      go_wp2_with (first | (go_at_call 171; refine (isNaN_any y _).mono ?_; rintro e w' ⟨rfl, rfl⟩; rw [E1.out]) | (go_at_call 140; refine (isInf_any y _ hlt.out).mono ?_; rintro e w' ⟨rfl, rfl⟩; rw [e2.out]))
      go_ret
      exact ⟨by rw [finB, HV.out]; rfl, 0, rfl⟩
    · obtain ⟨y, hc, s', t', hn⟩ := conv_nan hr w
      have E1 : Hid ((Ieee.double.order y y != some .eq) = true) := by unfold Hid; rw [order_nan hn]; rfl
      clear hV hr hn
      go_enter Tryz.func143, Tryz.ntmps143
      go_wp2_with (first | (go_at_call 171; refine (isNaN_any y _).mono ?_; rintro e w' ⟨rfl, rfl⟩; rw [E1.out]))
      go_ret
      exact ⟨by rw [finB, HV.out]; rfl, 1, rfl⟩
theorem ret_bool {a b : Bool} (h : a = b) : Ending.returned (.bool a) = .returned (.bool b) := by rw [h]
def stepB (x : Nat) (M : Nat) : Bool := match V32 x with | some V => decide (V.natAbs ≤ M * 2 ^ 145) && decide (cutI V * (2 ^ 145 : Nat) = V) | none => false
theorem geq_of {x y : Nat} {V U : Int} (h : Val Ieee.single x V) (k : Val Ieee.single y U) : (FloatKind.f32.format.order x y == some .gt || FloatKind.f32.format.order x y == some .eq) = decide (U ≤ V) := by
  show (Ieee.single.order x y == some .gt || Ieee.single.order x y == some .eq) = _
  rw [order_gt_iff h k, order_eq_iff h k, Bool.eq_iff_iff]; simp; omega
theorem leq_of {x y : Nat} {V U : Int} (h : Val Ieee.single x V) (k : Val Ieee.single y U) : (FloatKind.f32.format.order x y == some .lt || FloatKind.f32.format.order x y == some .eq) = decide (V ≤ U) := by
  show (Ieee.single.order x y == some .lt || Ieee.single.order x y == some .eq) = _
  rw [order_lt_iff h k, order_eq_iff h k, Bool.eq_iff_iff]; simp; omega
theorem eql_of {x y : Nat} {V U : Int} (h : Val Ieee.single x V) (k : Val Ieee.single y U) : (FloatKind.f32.format.order x y == some .eq) = decide (V = U) := order_eq_iff h k
set_option maxRecDepth 100000 in
set_option maxHeartbeats 400000 in
theorem isStepped_any (x mb nb M : Nat) (w : World) (hneg0 : Op.negFloat .f32 mb = nb) (hm : Val Ieee.single mb ((M * 2 ^ 145 : Nat) : Int)) (hn : Val Ieee.single nb (-((M * 2 ^ 145 : Nat) : Int))) (hM : M < 2 ^ 18) :
    Calls Tryz.prog 144 #[.float .f32 x, .float .f32 mb] w fun e w' => e = .returned (.bool (stepB x M)) ∧ w = w' := by
  have hneg : ∀ w, (Op.unary .neg (.float .f32 mb)).run Tryz.prog w = .ok (.float .f32 nb) w := fun w => by rw [← hneg0]; rfl
  clear hneg0
  cases hV : V32 x with
  | some V =>
    have hv := V32_some hV
    have g1 := geq_of hv hn
    have l1 := leq_of hv hm
    by_cases hin : V.natAbs ≤ M * 2 ^ 145
    · have g2 : decide (-((M * 2 ^ 145 : Nat) : Int) ≤ V) = true := by simp only [decide_eq_true_eq]; omega
      have l2 : decide (V ≤ ((M * 2 ^ 145 : Nat) : Int)) = true := by simp only [decide_eq_true_eq]; omega
      rw [g2] at g1; rw [l2] at l1
      have hc := cutI_bd hin
      have hc2 : (cutI V).natAbs < 2 ^ 20 := Nat.lt_of_le_of_lt hc (Nat.lt_of_lt_of_le hM (Nat.pow_le_pow_right (by decide) (by decide)))
      have hVb : V.natAbs < 2 ^ 200 := Nat.lt_of_le_of_lt hin (pow_bound hM (by decide))
      have he : Hid ((FloatKind.f32.format.order (fb (cutI V)) x == some .eq) = decide (cutI V * (2 ^ 145 : Nat) = V)) := eql_of (fb_spec hc2).2 hv
      have hc3 : (cutI V).natAbs < 2 ^ 60 := Nat.lt_trans hc2 (Nat.pow_lt_pow_right (by decide) (by decide))
      have Hu := Lib.hid (fun w => unitOf_any x V w hv hVb hc3)
      have Hs := Lib.hid (fun w => sampleOf_any (cutI V) w hc2)
      have HV := Lib.hid hV
      have HI := Lib.hid hin
      clear hV hv hin g2 l2 hc hc2 hVb hc3 hm hn hM
      go_enter Tryz.func144, Tryz.ntmps144
      go_wp2_with (first | (go_at_call 76; refine (Hu.out _).mono ?_; rintro e w' ⟨rfl, rfl⟩) | (go_at_call 88; refine (Hs.out _).mono ?_; rintro e w' ⟨rfl, rfl⟩))
      go_ret
      exact ⟨ret_bool (by rw [he.out, stepB, HV.out]; simp [HI.out]), rfl⟩
    · have hs : stepB x M = false := by rw [stepB, hV]; simp [hin]
      have HS := Lib.hid hs
      by_cases hlow : V < -((M * 2 ^ 145 : Nat) : Int)
      · have g2 : decide (-((M * 2 ^ 145 : Nat) : Int) ≤ V) = false := by simp only [decide_eq_false_iff_not]; omega
        rw [g2] at g1
        clear hV hv hin g2 hlow l1 hm hn hM hs
        go_enter Tryz.func144, Tryz.ntmps144
        go_wp2
        go_ret
        exact ⟨ret_bool HS.out.symm, rfl⟩
      · have g2 : decide (-((M * 2 ^ 145 : Nat) : Int) ≤ V) = true := by simp only [decide_eq_true_eq]; omega
        have l2 : decide (V ≤ ((M * 2 ^ 145 : Nat) : Int)) = false := by simp only [decide_eq_false_iff_not]; omega
        rw [g2] at g1; rw [l2] at l1
        clear hV hv hin g2 hlow l2 hm hn hM hs
        go_enter Tryz.func144, Tryz.ntmps144
        go_wp2
        go_ret
        exact ⟨ret_bool HS.out.symm, rfl⟩
  | none =>
    have hs : stepB x M = false := by rw [stepB, hV]
    have HS := Lib.hid hs
    rcases V32_none hV with ⟨s, hr⟩ | ⟨s, t, hr⟩
    · have o1 := order_inf_fin hr hn
      have o2 := order_inf_fin hr hm
      cases s
      · have g1 : (FloatKind.f32.format.order x nb == some .gt || FloatKind.f32.format.order x nb == some .eq) = true := by
          show (Ieee.single.order x nb == some .gt || Ieee.single.order x nb == some .eq) = _
          rw [o1]; rfl
        have l1 : (FloatKind.f32.format.order x mb == some .lt || FloatKind.f32.format.order x mb == some .eq) = false := by
          show (Ieee.single.order x mb == some .lt || Ieee.single.order x mb == some .eq) = _
          rw [o2]; rfl
        clear hV hr o1 o2 hm hn hM hs
        go_enter Tryz.func144, Tryz.ntmps144
        go_wp2
        go_ret
        exact ⟨ret_bool HS.out.symm, rfl⟩
      · have g1 : (FloatKind.f32.format.order x nb == some .gt || FloatKind.f32.format.order x nb == some .eq) = false := by
          show (Ieee.single.order x nb == some .gt || Ieee.single.order x nb == some .eq) = _
          rw [o1]; rfl
        clear hV hr o1 o2 hm hn hM hs
        go_enter Tryz.func144, Tryz.ntmps144
        go_wp2
        go_ret
        exact ⟨ret_bool HS.out.symm, rfl⟩
    · have g1 : (FloatKind.f32.format.order x nb == some .gt || FloatKind.f32.format.order x nb == some .eq) = false := by
        show (Ieee.single.order x nb == some .gt || Ieee.single.order x nb == some .eq) = _
        rw [order_nan hr]; rfl
      clear hV hr hm hn hM hs
      go_enter Tryz.func144, Tryz.ntmps144
      go_wp2
      go_ret
      exact ⟨ret_bool HS.out.symm, rfl⟩
def gradeB (x : Nat) : Bool := stepB x 16384
theorem sample_bound : Val Ieee.single 1149239296 ((16384 * 2 ^ 145 : Nat) : Int) := ⟨false, _, ⟨_, _, (show Ieee.single.read 1149239296 = .number false 8388608 (-13) by decide +kernel), by decide, by decide +kernel⟩, rfl⟩
theorem sample_boundN : Val Ieee.single 3296722944 (-((16384 * 2 ^ 145 : Nat) : Int)) := ⟨true, _, ⟨_, _, (show Ieee.single.read 3296722944 = .number true 8388608 (-13) by decide +kernel), by decide, by decide +kernel⟩, rfl⟩
theorem isStepped_sample (x : Nat) (w : World) : Calls Tryz.prog 144 #[.float .f32 x, .float .f32 1149239296] w fun e w' => e = .returned (.bool (gradeB x)) ∧ w = w' :=
  isStepped_any x 1149239296 3296722944 16384 w (by decide +kernel) sample_bound sample_boundN (by decide)
def sampI (x : Nat) : Int := firstI [whenI (!finB x) 1, whenI (!gradeB x) 3]
set_option maxHeartbeats 400000 in
theorem checkSample_any (x : Nat) (w : World) : Calls Tryz.prog 115 #[.float .f32 x] w fun e w' => e = .returned (.int .i64 (sampI x)) ∧ Below w.heap.size w w' := by
  go_enter Tryz.func115, Tryz.ntmps115
  go_wp2_with (first | (go_at_call 143; refine (isFinite_any _ _).mono ?_; rintro e w' ⟨rfl, n, rfl⟩) | (go_at_call 144; refine (isStepped_sample _ _).mono ?_; rintro e w' ⟨rfl, rfl⟩) | (go_at_call 45; refine (failed_any _ _ _).mono ?_; rintro e w' ⟨rfl, rfl⟩) | (go_at_call 32; refine (firstV_any _ _ _ [whenI (!finB x) 1, whenI (!gradeB x) 3] _ ?_ rfl ?_).mono ?_; (first | exact Rd.new _ _ _ _ (by simp) | exact Rd.drewN (Rd.new _ _ _ _ (by simp)) _); (simp); (rintro e w' ⟨rfl, rfl⟩)))
  go_ret
  exact ⟨rfl, by repeat (first | exact Below.refl _ _ | refine below_drewN ?_ _ | refine Below.drew ?_ | refine Below.alloc ?_ (by simp) _)⟩
def partI (x M : Nat) : Int := if V32 x = none then 1 else whenI (!stepB x M) 3
theorem sampI_eq (x : Nat) : sampI x = partI x 16384 := by
  unfold sampI partI finB gradeB stepB
  cases hV : V32 x with
  | none => simp [firstI, whenI]
  | some V => simp [firstI, whenI]
theorem bound64 (M : Nat) (hM : M < 2 ^ 18) : Val Ieee.double (floatOfInt .f64 (M : Int)) (((M * 2 ^ 145 : Nat) : Int) * (2 ^ k2 : Nat)) := by
  have h := nearest64 (M : Int) (by rw [Int.natAbs_natCast]; exact Nat.lt_trans hM (Nat.pow_lt_pow_right (by decide) (by decide)))
  have e : ((M * 2 ^ 145 : Nat) : Int) * (2 ^ k2 : Nat) = (M : Int) * (2 ^ u64 : Nat) := by
    rw [Int.natCast_mul, Int.mul_assoc, pw (c := u64) (by rw [k2_eq]; rfl)]
  rw [e]; exact h
theorem bound64N (a : Nat) (nf : Nat) (e : Int) (hr : Ieee.double.read nf = .number true (2 ^ 52) e) (he : e + 52 = (a : Int)) : Val Ieee.double nf ((-((2 ^ a * 2 ^ 145 : Nat) : Int)) * (2 ^ k2 : Nat)) := by
  have l : Ieee.double.leastPlace = -1074 := by decide
  refine ⟨true, _, ⟨_, _, hr, by omega, rfl⟩, ?_⟩
  rw [if_pos rfl, Int.neg_mul]
  congr 1
  rw [← Int.natCast_mul]
  congr 1
  rw [← Nat.pow_add, ← Nat.pow_add, ← Nat.pow_add]
  congr 1
  rw [k2_eq]; omega
theorem ltQ64 {x y : Nat} {V U : Int} (h : Val Ieee.double x (V * (2 ^ k2 : Nat))) (k : Val Ieee.double y (U * (2 ^ k2 : Nat))) : (FloatKind.f64.format.order x y == some .lt) = decide (V < U) := by
  have hp : (0 : Int) < (2 ^ k2 : Nat) := by exact_mod_cast Nat.two_pow_pos k2
  have := order_lt_iff h k
  refine Eq.trans this ?_
  rw [Bool.eq_iff_iff, decide_eq_true_eq, decide_eq_true_eq]
  exact ⟨fun h => Int.lt_of_mul_lt_mul_right h (Int.le_of_lt hp), fun h => Int.mul_lt_mul_of_pos_right h hp⟩
theorem gt64 {x y : Nat} {V U : Int} (h : Val Ieee.double x (V * (2 ^ k2 : Nat))) (k : Val Ieee.double y (U * (2 ^ k2 : Nat))) : (FloatKind.f64.format.order x y == some .gt) = decide (U < V) := by
  have hp : (0 : Int) < (2 ^ k2 : Nat) := by exact_mod_cast Nat.two_pow_pos k2
  have := order_gt_iff h k
  refine Eq.trans this ?_
  rw [Bool.eq_iff_iff, decide_eq_true_eq, decide_eq_true_eq]
  exact ⟨fun h => Int.lt_of_mul_lt_mul_right h (Int.le_of_lt hp), fun h => Int.mul_lt_mul_of_pos_right h hp⟩
theorem ne64 {x y : Nat} {V U : Int} (h : Val Ieee.double x (V * (2 ^ k2 : Nat))) (k : Val Ieee.double y (U * (2 ^ k2 : Nat))) : (FloatKind.f64.format.order x y != some .eq) = !decide (V = U) := by
  have hp : (2 ^ k2 : Nat) ≠ 0 := Nat.ne_of_gt (Nat.two_pow_pos k2)
  have := order_eq_iff h k
  show (!(Ieee.double.order x y == some .eq)) = _
  rw [this]
  congr 1
  rw [Bool.eq_iff_iff, decide_eq_true_eq, decide_eq_true_eq]
  exact ⟨fun h => Int.eq_of_mul_eq_mul_right (by exact_mod_cast hp) h, fun h => by rw [h]⟩
set_option maxRecDepth 100000 in
set_option maxHeartbeats 1000000 in
theorem checkPart_any (x M nf : Nat) (w : World) (hM : M < 2 ^ 18) (hs : Ieee.double.sub 0 (floatOfInt .f64 (M : Int)) = some nf) (hN : Val Ieee.double nf ((-((M * 2 ^ 145 : Nat) : Int)) * (2 ^ k2 : Nat))) :
    Calls Tryz.prog 145 #[.float .f32 x, .int .i64 (M : Int)] w fun e w' => e = .returned (.int .i64 (partI x M)) ∧ ∃ n, w' = w.drewN n := by
  cases hV : V32 x with
  | none =>
    have hp : Hid (partI x M = 1) := by unfold Hid; rw [partI, hV]; rfl
    have h0 := sub_self_not hV
    obtain ⟨r, hr, h1⟩ : ∃ r, (∃ s t, Ieee.single.read r = .nan s t) ∧ (binOp .sub 43 (.float .f32 x) (.float .f32 x)).run Tryz.prog w = .ok (.float .f32 r) w.drew := by
      refine ⟨(Question.nanBits .f32 x x).cut (w.tape w.drawn (Question.nanBits .f32 x x)), nan32_cut _ _ _, ?_⟩
      have h2 : FloatKind.f32.format.sub x x = none := h0
      simp [binOp, Op.floatArith, h2, Question.forced]
    obtain ⟨s, t, hr⟩ := hr
    have h3 : (FloatKind.f32.format.order r 0 != some .eq) = true := by
      show (Ieee.single.order r 0 != some .eq) = true
      rw [order_nan hr]; rfl
    clear hV h0 hr hs hN hM
    go_enter Tryz.func145, Tryz.ntmps145
    go_wp2
    go_ret
    exact ⟨ret_int hp.out.symm, 1, rfl⟩
  | some V =>
    have hv := V32_some hV
    have h1 := fun w => run_float_arith (P := Tryz.prog) w .sub 43 .f32 x x 0 (sub_self_fin hv)
    have h2 : (FloatKind.f32.format.order 0 0 != some .eq) = false := by decide +kernel
    obtain ⟨y, hy, hy2, hy3⟩ := wide hv
    have h3 := conv_fin hy
    obtain ⟨r, hr, hr2⟩ := mul16w hy2 hy3
    have h4 := fun w => run_float_arith (P := Tryz.prog) w .mul 126 .f64 4625196817309499392 y r (by show Ieee.double.mul c16 y = some r; exact hr)
    have h5 := fun w => run_float_arith (P := Tryz.prog) w .sub 126 .f64 0 (floatOfInt .f64 (M : Int)) nf hs
    have l1 := ltQ64 hr2 hN
    have g1 := gt64 hr2 (bound64 M hM)
    by_cases hin : V.natAbs ≤ M * 2 ^ 145
    · have g2 : decide (((M * 2 ^ 145 : Nat) : Int) < V) = false := by simp only [decide_eq_false_iff_not]; omega
      have l2 : decide (V < (-((M * 2 ^ 145 : Nat) : Int))) = false := by simp only [decide_eq_false_iff_not]; omega
      rw [g2] at g1; rw [l2] at l1
      have hc := cutI_bd hin
      have hc2 : (cutI V).natAbs < 2 ^ 20 := Nat.lt_of_le_of_lt hc (Nat.lt_of_lt_of_le hM (Nat.pow_le_pow_right (by decide) (by decide)))
      have hc3 : (cutI V).natAbs < 2 ^ 60 := Nat.lt_trans hc2 (Nat.pow_lt_pow_right (by decide) (by decide))
      have h6 := fun w => run_convert_float_int (P := Tryz.prog) w 126 3 .f64 .i64 r (cutI V) (by kernel_rfl) (by kernel_rfl) (toInt64 hr2 hc3)
      have hval : Val Ieee.double (floatOfInt .f64 (cutI V)) ((cutI V * (2 ^ 145 : Nat)) * (2 ^ k2 : Nat)) := by
        have h := nearest64 (cutI V) (Nat.lt_trans hc2 (Nat.pow_lt_pow_right (by decide) (by decide)))
        have e : (cutI V * (2 ^ 145 : Nat)) * (2 ^ k2 : Nat) = cutI V * (2 ^ u64 : Nat) := by
          rw [Int.mul_assoc, pw (c := u64) (by rw [k2_eq]; rfl)]
        rw [e]; exact h
      have hne := ne64 hval hr2
      cases hcut : decide (cutI V * (2 ^ 145 : Nat) = V)
      · rw [hcut, Bool.not_false] at hne
        have hp : Hid (partI x M = 3) := by unfold Hid; rw [partI, if_neg (by rw [hV]; simp), stepB, hV]; simp only [hcut, Bool.and_false]; rfl
        clear hV hv hin g2 l2 hc hc2 hc3 hval hcut hr2 hy2 hy3 hy hr hs hN hM
        go_enter Tryz.func145, Tryz.ntmps145
        go_wp2
        go_ret
        exact ⟨ret_int hp.out.symm, 0, rfl⟩
      · rw [hcut, Bool.not_true] at hne
        have hp : Hid (partI x M = 0) := by unfold Hid; rw [partI, if_neg (by rw [hV]; simp), stepB, hV]; simp only [hcut, hin, decide_true, Bool.and_true]; rfl
        clear hV hv hin g2 l2 hc hc2 hc3 hval hcut hr2 hy2 hy3 hy hr hs hN hM
        go_enter Tryz.func145, Tryz.ntmps145
        go_wp2
        go_ret
        exact ⟨ret_int hp.out.symm, 0, rfl⟩
    · have hp : Hid (partI x M = 3) := by unfold Hid; rw [partI, if_neg (by rw [hV]; simp), stepB, hV]; simp only [hin, decide_false, Bool.false_and]; rfl
      by_cases hlow : V < (-((M * 2 ^ 145 : Nat) : Int))
      · rw [decide_eq_true hlow] at l1
        clear hV hv hin hlow g1 hr2 hy2 hy3 hy hr hs hN hM
        go_enter Tryz.func145, Tryz.ntmps145
        go_wp2
        go_ret
        exact ⟨ret_int hp.out.symm, 0, rfl⟩
      · have g2 : decide (((M * 2 ^ 145 : Nat) : Int) < V) = true := by simp only [decide_eq_true_eq]; omega
        rw [decide_eq_false hlow] at l1
        rw [g2] at g1
        clear hV hv hin hlow g2 hr2 hy2 hy3 hy hr hs hN hM
        go_enter Tryz.func145, Tryz.ntmps145
        go_wp2
        go_ret
        exact ⟨ret_int hp.out.symm, 0, rfl⟩
theorem checkPart_sample (x : Nat) (w : World) : Calls Tryz.prog 145 #[.float .f32 x, .int .i64 16384] w fun e w' => e = .returned (.int .i64 (partI x 16384)) ∧ ∃ n, w' = w.drewN n :=
  checkPart_any x 16384 13893604850437980160 w (by decide) (by decide +kernel) (bound64N 14 _ (-38) (by decide +kernel) (by decide))
set_option maxHeartbeats 400000 in
theorem checkSampleR_any (x : Nat) (w : World) : Calls Tryz.prog 117 #[.float .f32 x] w fun e w' => e = .returned (.int .i64 (sampI x)) ∧ ∃ n, w' = w.drewN n := by
  go_enter Tryz.func117, Tryz.ntmps117
  go_wp2_with (go_at_call 145; refine (checkPart_sample _ _).mono ?_; rintro e w' ⟨rfl, n, rfl⟩)
  go_ret
  exact ⟨ret_int (sampI_eq x).symm, _, rfl⟩
end Go.Proofs.YtlflfieknibgmaaGreatDoor
namespace Go.Proofs.YtlflfieknibgmaaGreatDoor
set_option linter.all false
open Go.RowKit
def u8I (c : UInt8) : Int := c.toNat
theorem take_all_succ (s : ByteArray) (k : Nat) (h : k < s.size) (p : UInt8 → Bool) : (s.data.toList.take (k + 1)).all p = ((s.data.toList.take k).all p && p s[k]) := by
  rw [List.take_succ_eq_append_getElem (by simpa using h), List.all_append]
  simp; rfl
theorem all_false_of (s : ByteArray) (k : Nat) (h : k < s.size) (p : UInt8 → Bool) (hp : p s[k] = false) : s.data.toList.all p = false := by
  rw [List.all_eq_false]
  exact ⟨s[k], by simp [ByteArray.getElem_eq_getElem_data], by simp [hp]⟩
theorem isEmpty_eq (s : ByteArray) (h : 0 < s.size) : s.data.toList.isEmpty = false := by
  obtain ⟨⟨l⟩⟩ := s
  cases l with
  | nil => simp [ByteArray.size] at h
  | cons a l => rfl

end Go.Proofs.YtlflfieknibgmaaGreatDoor
