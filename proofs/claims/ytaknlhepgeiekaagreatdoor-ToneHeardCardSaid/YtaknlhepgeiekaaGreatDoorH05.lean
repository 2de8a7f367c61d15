import Derived.Test.YtaknlhepgeiekaaGreatDoorH04
import Derived.StillTailTactics
import Derived.Deep.RegionHeld3
import Derived.Test.YtaknlhepgeiekaaGreatDoorH06
namespace Go.Proofs.YtaknlhepgeiekaaGreatDoor
set_option linter.all false
open Go.RowKit
-- the program's When, CheckRange, First
theorem failed_t (n : Int) (w : World) : Calls Tryz.prog 69 #[.bool true, .int .i64 n] w fun e w' => e = .returned (.int .i64 n) ∧ w = w' := by
 go_enter Tryz.func69, Tryz.ntmps69
 go_wp2
 go_ret
 exact ⟨rfl, rfl⟩
theorem failed_f (n : Int) (w : World) : Calls Tryz.prog 69 #[.bool false, .int .i64 n] w fun e w' => e = .returned (.int .i64 0) ∧ w = w' := by
 go_enter Tryz.func69, Tryz.ntmps69
 go_wp2
 go_ret
 exact ⟨rfl, rfl⟩
theorem failed_any (b : Bool) (n : Int) (w : World) : Calls Tryz.prog 69 #[.bool b, .int .i64 n] w fun e w' => e = .returned (.int .i64 (whenI b n)) ∧ w = w' := by
 cases b
 · exact failed_f n w
 · exact failed_t n w
set_option maxHeartbeats 400000 in
theorem between_any (n low high : Int) (w : World) : Calls Tryz.prog 86 #[.int .i64 n, .int .i64 low, .int .i64 high] w fun e w' => e = .returned (.int .i64 (whenI (rangeB n low high) 3)) ∧ w = w' := by
 go_enter Tryz.func86, Tryz.ntmps86
 go_wp2_with (go_at_call 69; refine (failed_any _ _ _).mono ?_; rintro e w' ⟨rfl, rfl⟩)
 all_goals go_ret
 all_goals exact ⟨ret_int (by simp [rangeB, *]), rfl⟩
set_option maxHeartbeats 400000 in
theorem firstV_any (A : Option Addr) (n c : Nat) (zs : List Int) (w : World) (h : Rd w A (ints zs)) (hn : n = zs.length) (hm : zs.length ≤ 9223372036854775807) :
 Calls Tryz.prog 64 #[.slice A n c] w fun e w' => e = .returned (.int .i64 (firstI zs)) ∧ w = w' := by
 subst hn
 go_enter Tryz.func64, Tryz.ntmps64
 go_wp2
 go_loop [7] (fun i => ∃ k : Nat, k ≤ zs.length ∧ i = .int .i64 k ∧ Hid (firstI (zs.drop k) = firstI zs)) (fun i => zs.length - (intOf i).toNat)
 case atStart => exact ⟨0, Nat.zero_le _, rfl, rfl⟩
 case round =>
  obtain ⟨k, hk, rfl, H⟩ := hrel
  by_cases hlt : k < zs.length
  · obtain ⟨b, off, rfl, hc⟩ := Rd.int h hlt
    have hd := Lib.hid (firstI_drop hlt)
    by_cases hz : zs[k] = 0
    · rw [hz] at hc
      go_wp2
      go_round
      case rel => exact ⟨k + 1, by omega, by go_num, by show _ = _; rw [← H.out, hd.out, if_pos hz]⟩
      case measure => simp [intOf]; omega
    · have hz' : (zs[k] != 0) = true := by simpa using hz
      have Hz := Lib.hid hz; clear hz
      go_wp2
      go_ret
      exact ⟨ret_int (by rw [← H.out, hd.out, if_neg Hz.out]), rfl⟩
  · go_wp2
    go_ret
    exact ⟨ret_int (by rw [← H.out, List.drop_of_length_le (by omega)]; rfl), rfl⟩
-- letters and digits
def gcdI (a b : Int) : Int := Int.gcd a b
theorem gcdI_step (a b : Int) : gcdI a b = gcdI b (a.tmod b) := by
 unfold gcdI
 congr 1
 show Nat.gcd a.natAbs b.natAbs = Nat.gcd b.natAbs (a.tmod b).natAbs
 rw [Int.natAbs_tmod, Nat.gcd_comm a.natAbs, Nat.gcd_rec, Nat.gcd_comm]
theorem gcdI_zero (a : Int) : gcdI a 0 = max a (-a) := by
 unfold gcdI; rw [Int.gcd_zero_right]; omega
def Bd (a : Int) : Prop := -9223372036854775807 ≤ a ∧ a ≤ 9223372036854775807
theorem tmod_lt {a b : Int} (h : b ≠ 0) : (a.tmod b).natAbs < b.natAbs := by
 rw [Int.natAbs_tmod]; exact Nat.mod_lt _ (by omega)
theorem tmod_bd {a b : Int} (hb : Bd b) (h : b ≠ 0) : Bd (a.tmod b) := by
 have := tmod_lt (a := a) h; unfold Bd at *; omega
set_option maxHeartbeats 400000 in
theorem absolute_any (a : Int) (w : World) (ha : Bd a) : Calls Tryz.prog 91 #[.int .i64 a] w fun e w' => e = .returned (.int .i64 (max a (-a))) ∧ w' = w := by
 unfold Bd at ha
 go_enter Tryz.func91, Tryz.ntmps91
 go_wp2
 all_goals go_ret
 all_goals exact ⟨ret_int (by omega), rfl⟩
set_option maxHeartbeats 400000 in
theorem divisor_any (a b : Int) (w : World) (ha : Bd a) (hb : Bd b) : Calls Tryz.prog 151 #[.int .i64 a, .int .i64 b] w fun e w' => e = .returned (.int .i64 (gcdI a b)) ∧ ∃ n, w' = w.drewN n := by
 go_enter Tryz.func151, Tryz.ntmps151
 go_wp2
 go_loopw [0, 1] (fun x y wr => ∃ (p q : Int), x = .int .i64 p ∧ y = .int .i64 q ∧ Hid (Bd p) ∧ Hid (Bd q) ∧ Hid (gcdI p q = gcdI a b) ∧ ∃ n, wr = w.drewN n) (fun _ y _ => (intOf y).natAbs)
 case atStart => exact ⟨a, b, rfl, rfl, ha, hb, rfl, 0, rfl⟩
 case round =>
  obtain ⟨p, q, rfl, rfl, hp, hq, H, n, rfl⟩ := hrel
  by_cases hz : q = 0
  · subst hz
    go_wp2_with (go_at_call 91; refine (absolute_any _ _ hp.out).mono ?_; rintro e w1 ⟨rfl, rfl⟩)
    go_ret
    exact ⟨ret_int (by rw [← H.out, gcdI_zero]), n, rfl⟩
  · have hz' : (q != 0) = true := by simpa using hz
    have hz2 : (q == 0) = false := by simpa using hz
    have hlt := Lib.hid (tmod_lt (a := p) hz)
    have hbd := Lib.hid (tmod_bd (a := p) hq.out hz)
    have hst := Lib.hid (gcdI_step p q)
    have hb0 := hp.out
    have hb1 := hq.out
    unfold Bd at hb0 hb1
    go_wp2
    go_quiet (fail)
    go_wp2
    go_roundw
    case rel => exact ⟨q, p.tmod q, rfl, rfl, hq, hbd, by show _ = _; rw [← H.out, hst.out], n + nq, by rw [World.drewN_drewN]⟩
    case measure => exact hlt.out
theorem Rd.new (w : World) (cs : Array Value) (t : TypeId) (b : Nat) (hb : b = w.heap.size) : Rd (w.alloc (.cells cs t)) (some ⟨b, 0, none⟩) cs.toList := by
 subst hb
 intro j v hv
 refine ⟨_, _, rfl, ?_⟩
 rw [Nat.zero_add, World.cell?_alloc_at _ _ _ _ rfl]
 simpa using hv
theorem Rd.drew {w : World} {A : Option Addr} {xs : List Value} (h : Rd w A xs) : Rd w.drew A xs := h
theorem Rd.drewN {w : World} {A : Option Addr} {xs : List Value} (h : Rd w A xs) (n : Nat) : Rd (w.drewN n) A xs := h
end Go.Proofs.YtaknlhepgeiekaaGreatDoor
namespace Go.Proofs.YtaknlhepgeiekaaGreatDoor
set_option linter.all false
open Go.RowKit Go.Fl

set_option maxRecDepth 100000
set_option maxHeartbeats 400000
theorem bits_run (y : Nat) (w : World) : (callFunc 167 #[.float .f64 y]).run Tryz.prog w = .ok (.value (.int .u64 (y : Int))) w := by kernel_rfl
theorem frombits_run (y : Nat) (w : World) : (callFunc 166 #[.int .u64 (y : Int)]).run Tryz.prog w = .ok (.value (.float .f64 y)) w := by kernel_rfl
theorem clear_sign (y : Nat) (hy : y < 18446744073709551616) : bits .andNot .u64 (y : Int) 9223372036854775808 = ((y % 9223372036854775808 : Nat) : Int) := by
 have h := u64_andNot_nat y 9223372036854775808 hy (by decide)
 rw [show ((9223372036854775808 : Nat) : Int) = 9223372036854775808 from rfl] at h
 rw [h]
 have e : 18446744073709551615 - 9223372036854775808 = 2 ^ 63 - 1 := by decide
 rw [e, Nat.and_two_pow_sub_one_eq_mod]
theorem abs_any (y : Nat) (w : World) (hy : y < 18446744073709551616) : Calls Tryz.prog 139 #[.float .f64 y] w fun e w' => e = .returned (.float .f64 (y % 9223372036854775808)) ∧ w = w' := by
 have h1 := fun w => bits_run y w
 have h2 := fun w => frombits_run (y % 9223372036854775808) w
 have h3 := clear_sign y hy
 obtain ⟨z, hz⟩ : ∃ z, z = y % 9223372036854775808 := ⟨_, rfl⟩
 rw [← hz] at h2 h3 ⊢
 clear hy hz
 go_enter Tryz.func139, Tryz.ntmps139
 go_wp2
 go_ret
 exact ⟨rfl, rfl⟩
theorem isInf_any (y : Nat) (w : World) (hy : y < 18446744073709551616) : Calls Tryz.prog 138 #[.float .f64 y, .int .i64 0] w fun e w' => e = .returned (.bool (Ieee.double.order (y % 9223372036854775808) 9218868437227405311 == some .gt)) ∧ w = w' := by
 have h1 := Lib.hid hy
 clear hy
 go_enter Tryz.func138, Tryz.ntmps138
 go_wp2_with (go_at_call 139; refine (abs_any y _ h1.out).mono ?_; rintro e w' ⟨rfl, rfl⟩)
 go_ret
 exact ⟨rfl, rfl⟩
theorem conv_fin {x y : Nat} (h : floatToFloatBits .f32 x .f64 = some y) (w : World) : (convert 38 111 (.float .f32 x)).run Tryz.prog w = .ok (.float .f64 y) w :=
 run_convert_float_float w _ _ .f32 .f64 _ _ (by kernel_rfl) (by kernel_rfl) h
theorem ret_bool {a b : Bool} (h : a = b) : Ending.returned (.bool a) = .returned (.bool b) := by rw [h]

end Go.Proofs.YtaknlhepgeiekaaGreatDoor
namespace Go.Proofs.YtaknlhepgeiekaaGreatDoor
set_option linter.all false
open Go.RowKit
theorem take_all_succ (s : ByteArray) (k : Nat) (h : k < s.size) (p : UInt8 → Bool) : (s.data.toList.take (k + 1)).all p = ((s.data.toList.take k).all p && p s[k]) := by
 rw [List.take_succ_eq_append_getElem (by simpa using h), List.all_append]
 simp; rfl
theorem all_false_of (s : ByteArray) (k : Nat) (h : k < s.size) (p : UInt8 → Bool) (hp : p s[k] = false) : s.data.toList.all p = false := by
 rw [List.all_eq_false]
 exact ⟨s[k], by simp [ByteArray.getElem_eq_getElem_data], by simp [hp]⟩
theorem head_eq (s : ByteArray) (h : 0 < s.size) : s.data.toList.headD 0 = s[0] := by
 obtain ⟨⟨l⟩⟩ := s
 cases l with
 | nil => simp [ByteArray.size] at h
 | cons a l => rfl
theorem isEmpty_eq (s : ByteArray) (h : 0 < s.size) : s.data.toList.isEmpty = false := by
 obtain ⟨⟨l⟩⟩ := s
 cases l with
 | nil => simp [ByteArray.size] at h
 | cons a l => rfl

theorem take_eq_succ {α : Type} {xs ys : List α} {k : Nat} (h : xs.take k = ys.take k) (hx : k < xs.length) (hy : k < ys.length) (he : xs[k] = ys[k]) : xs.take (k + 1) = ys.take (k + 1) := by
 rw [List.take_succ_eq_append_getElem hx, List.take_succ_eq_append_getElem hy, h, he]
theorem ne_of_get {α : Type} {xs ys : List α} {k : Nat} (hx : k < xs.length) (hy : k < ys.length) (he : xs[k] ≠ ys[k]) : xs ≠ ys := fun h => he (by subst h; rfl)
set_option maxHeartbeats 400000 in
theorem sameInts_any (A B : Option Addr) (n m c d : Nat) (xs ys : List Int) (w : World) (hA : Rd w A (ints xs)) (hB : Rd w B (ints ys)) (hn : n = xs.length) (hm : m = ys.length) (hx : xs.length ≤ 9223372036854775807) (hy : ys.length ≤ 9223372036854775807) :
 Calls Tryz.prog 35 #[.slice A n c, .slice B m d] w fun e w' => e = .returned (.bool (decide (xs = ys))) ∧ ∃ q, w' = w.drewN q := by
 subst hn; subst hm
 by_cases hl : xs.length = ys.length
 · have hl1 : ((xs.length : Int) != (ys.length : Int)) = false := by rw [bne_eq_false_iff_eq]; omega
   have HL := Lib.hid hl; clear hl
   go_enter Tryz.func35, Tryz.ntmps35
   go_wp2
   go_loopw [5] (fun i wr => ∃ k : Nat, k ≤ xs.length ∧ i = .int .i64 k ∧ Hid (xs.take k = ys.take k) ∧ ∃ q, wr = w.drewN q) (fun i _ => xs.length - (intOf i).toNat)
   case atStart => exact ⟨0, Nat.zero_le _, rfl, rfl, 0, rfl⟩
   case round =>
    obtain ⟨k, hk, rfl, H, q, rfl⟩ := hrel
    by_cases hlt : k < xs.length
    · have hlt2 : k < ys.length := by rw [← HL.out]; exact hlt
      obtain ⟨b, off, rfl, hc⟩ := Rd.int hA hlt
      obtain ⟨b', off', rfl, hc'⟩ := Rd.int hB hlt2
      have i1 : (k : Int) < (xs.length : Int) := by omega
      have i2 : (k : Int) < (ys.length : Int) := by omega
      have HS := Lib.hid (fun he => take_eq_succ H.out hlt hlt2 he)
      have HN := Lib.hid (fun he => ne_of_get hlt hlt2 he)
      go_wp2
      go_quiet (fail)
      go_wp2
      · go_ret
        exact ⟨by have := HN.out (by simpa using ‹(xs[k] != ys[k]) = true›); simp [this], q + _, by rw [World.drewN_drewN]⟩
      · go_roundw
        case rel => exact ⟨k + 1, by omega, by go_num, HS.out (by simpa using ‹(xs[k] != ys[k]) = false›), _, rfl⟩
        case measure => simp [intOf]; omega
    · go_wp2
      go_ret
      exact ⟨by have := H.out; rw [List.take_of_length_le (by omega), List.take_of_length_le (by rw [← HL.out]; omega)] at this; simp [this], q, rfl⟩
 · have hl1 : ((xs.length : Int) != (ys.length : Int)) = true := by rw [bne_iff_ne]; omega
   have HL := Lib.hid hl; clear hl
   go_enter Tryz.func35, Tryz.ntmps35
   go_wp2
   go_ret
   exact ⟨by have : xs ≠ ys := fun h => HL.out (by rw [h]); simp [this], 0, rfl⟩

end Go.Proofs.YtaknlhepgeiekaaGreatDoor
