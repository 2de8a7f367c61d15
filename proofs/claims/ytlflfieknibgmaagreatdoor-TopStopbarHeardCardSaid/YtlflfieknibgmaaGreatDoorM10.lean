import Derived.Test.YtlflfieknibgmaaGreatDoorM09
import Derived.Test.YtlflfieknibgmaaGreatDoorM05
import Derived.Test.YtlflfieknibgmaaGreatDoorM03
import Derived.IntWalk
import Derived.Deep.DeepCutAuto
import Derived.Deep.LoopGhost
import Derived.Outline
namespace Go.Proofs.YtlflfieknibgmaaGreatDoor
set_option linter.all false
open Go.RowKit Go.Fl
theorem genT {p : World → Prop} {w : World} (S : World → Prop) (h : S w) (hp : ∀ W, S W → p W) : p w := hp w h
theorem near_lt (n : Int) : floatOfInt .f64 n < 2 ^ 64 := Ieee.double.write_lt (.number (n < 0) n.natAbs 0)
theorem ce_of {a b : Int} (ha : a.natAbs < 2 ^ 53) (hb : b.natAbs < 2 ^ 53) : CE (floatOfInt .f64 a) (floatOfInt .f64 b) a b := ⟨E.near ha, E.near hb, near_lt a, near_lt b⟩
theorem conv_fi {r : Nat} {a : Int} (h : floatToIntVal .f64 r .i64 = some a) (w : World) : (convert 126 3 (.float .f64 r)).run Tryz.prog w = .ok (.int .i64 a) w :=
  run_convert_float_int w 126 3 .f64 .i64 r a (by rw [Tryz.underlying126]; rfl) Tryz.underlying3 h
theorem neg_f (r : Nat) (w : World) : (Op.unary .neg (.float .f64 r)).run Tryz.prog w = .ok (.float .f64 (Op.negFloat .f64 r)) w := rfl
set_option maxRecDepth 100000 in
set_option maxHeartbeats 1000000 in
theorem complex_any (a b : Int) (w : World) : Calls Tryz.prog 48 #[.agg #[.int .i64 a, .int .i64 b]] w fun e w' => e = .returned (.complex .f64 (floatOfInt .f64 a) (floatOfInt .f64 b)) ∧ Below w.heap.size w w' := by
  have HB := Lib.hid ((Below.refl w.heap.size w).alloc (Nat.le_refl _) (.cells #[.int .i64 a, .int .i64 b] 25))
  go_enter Tryz.func48, Tryz.ntmps48
  go_wp2
  go_ret
  exact ⟨rfl, HB.out⟩
set_option maxRecDepth 100000 in
set_option maxHeartbeats 1000000 in
theorem gauss_any (r i : Nat) (a b : Int) (w : World) (h : CE r i a b) (ha : a.natAbs < 2 ^ 60) (hb : b.natAbs < 2 ^ 60) : Calls Tryz.prog 102 #[.complex .f64 r i] w fun e w' => e = .returned (.agg #[.int .i64 a, .int .i64 b]) ∧ Below w.heap.size w w' := by
  have h1 := conv_fi (h.1.int ha)
  have h2 := conv_fi (h.2.1.int hb)
  clear h ha hb
  go_enter Tryz.func102, Tryz.ntmps102
  go_upto_region 1 with fail
  refine genA w.heap.size 25 [.int .i64 0, .int .i64 0] (Row.new w 25 [.int .i64 0, .int .i64 0]) ((Below.refl w.heap.size w).alloc (Nat.le_refl _) _) ?_
  intro W R0 RB
  have HR := Lib.hid R0; have HRB := Lib.hid RB
  clear R0 RB
  go_wp2_with (refine wpList_store_row rfl 25 _ _ rfl w.heap.size #[.int .i64 a, .int .i64 b] rfl rfl 25 _ HR.out ?_ ?_ ?_ ?_; (kernel_rfl); (rfl); (simp [Value.oneCell']))
  refine bodyPost_ret (results_rowA rfl _ _ w.heap.size 25 #[.int .i64 a, .int .i64 b] (0, 0) _ rfl (HR.out.setRow [.int .i64 a, .int .i64 b]) Tryz.underlying25 rfl (by kernel_rfl)) rfl ⟨rfl, Below.setRow HRB.out (Nat.le_refl _) _⟩
set_option maxRecDepth 100000 in
set_option maxHeartbeats 1000000 in
theorem conj_any (r i : Nat) (w : World) : Calls Tryz.prog 184 #[.complex .f64 r i] w fun e w' => e = .returned (.complex .f64 r (Op.negFloat .f64 i)) ∧ w = w' := by
  have hN := neg_f
  go_enter Tryz.func184, Tryz.ntmps184
  go_wp2
  go_ret
  exact ⟨rfl, rfl⟩
theorem negF_lt {x : Nat} (h : x < 2 ^ 64) : Op.negFloat .f64 x < 2 ^ 64 := Nat.xor_lt_two_pow h (by decide)
theorem ce_conj {r i : Nat} {a b : Int} (h : CE r i a b) : CE r (Op.negFloat .f64 i) a (-b) := ⟨h.1, h.2.1.neg h.2.2.2, h.2.2.1, negF_lt h.2.2.2⟩
set_option maxRecDepth 100000 in
set_option maxHeartbeats 1000000 in
theorem alongC_any (r i p q : Nat) (a b c d : Int) (w : World) (h : CE r i a b) (k : CE p q c d) (ha : a.natAbs ≤ 50000000) (hb : b.natAbs ≤ 50000000) (hc : c.natAbs ≤ 50000000) (hd : d.natAbs ≤ 50000000) :
    Calls Tryz.prog 164 #[.complex .f64 r i, .complex .f64 p q] w fun e w' => e = .returned (.int .i64 (a * c + b * d)) ∧ w = w' := by
  have b1 : (a * c).natAbs ≤ 2500000000000000 := by rw [Int.natAbs_mul]; exact Nat.mul_le_mul ha hc
  have b2 : (b * d).natAbs ≤ 2500000000000000 := by rw [Int.natAbs_mul]; exact Nat.mul_le_mul hb hd
  have b3 : (a * d).natAbs ≤ 2500000000000000 := by rw [Int.natAbs_mul]; exact Nat.mul_le_mul ha hd
  have b4 : (b * c).natAbs ≤ 2500000000000000 := by rw [Int.natAbs_mul]; exact Nat.mul_le_mul hb hc
  have m1 : (b * -d).natAbs = (b * d).natAbs := by rw [Int.mul_neg, Int.natAbs_neg]
  have m2 : (a * -d).natAbs = (a * d).natAbs := by rw [Int.mul_neg, Int.natAbs_neg]
  obtain ⟨x, y, hxy, hm⟩ := h.mul (P := Tryz.prog) (ce_conj k) 118 (by omega) (by omega) (by omega) (by omega)
  have e1 : a * c - b * -d = a * c + b * d := by rw [Int.mul_neg]; omega
  rw [e1] at hxy
  have h1 := conv_fi (hxy.1.int (by omega))
  clear hxy m1 m2 b1 b2 b3 b4 e1 h k
  go_enter Tryz.func164, Tryz.ntmps164
  go_wp2_with (go_at_call 184; refine (conj_any _ _ _).mono ?_; rintro e w' ⟨rfl, rfl⟩)
  go_ret
  exact ⟨rfl, rfl⟩
end Go.Proofs.YtlflfieknibgmaaGreatDoor
