import Derived.Test.YtlflfieknibgmaaGreatDoorProg
import Derived.WalkKit
import Derived.WalkSpells
import Derived.WalkLawsBesides
import Derived.Lib.Hide
namespace Go.Proofs.YtlflfieknibgmaaGreatDoor
set_option linter.all false
open Go.RowKit
set_option maxHeartbeats 400000 in
theorem when_t (n : Int) (w : World) : Calls Tryz.prog 94 #[.bool true, .int .i64 n] w fun e w' => e = .returned (.int .i64 n) ∧ w = w' := by
  go_enter Tryz.func94, Tryz.ntmps94
  go_wp2
  go_ret
  exact ⟨rfl, rfl⟩
set_option maxHeartbeats 400000 in
theorem when_f (n : Int) (w : World) : Calls Tryz.prog 94 #[.bool false, .int .i64 n] w fun e w' => e = .returned (.int .i64 0) ∧ w = w' := by
  go_enter Tryz.func94, Tryz.ntmps94
  go_wp2
  go_ret
  exact ⟨rfl, rfl⟩
def whenI (b : Bool) (n : Int) : Int := if b then n else 0
theorem when_any (b : Bool) (n : Int) (w : World) : Calls Tryz.prog 94 #[.bool b, .int .i64 n] w fun e w' => e = .returned (.int .i64 (whenI b n)) ∧ w = w' := by
  cases b
  · exact when_f n w
  · exact when_t n w
def rangeB (n low high : Int) : Bool := decide (n < low) || decide (high < n)
theorem ret_int {k : IntKind} {a b : Int} (h : a = b) : Ending.returned (.int k a) = .returned (.int k b) := by rw [h]
set_option maxHeartbeats 400000 in
theorem checkRange_any (n low high : Int) (w : World) : Calls Tryz.prog 134 #[.int .i64 n, .int .i64 low, .int .i64 high] w fun e w' => e = .returned (.int .i64 (whenI (rangeB n low high) 3)) ∧ w = w' := by
  go_enter Tryz.func134, Tryz.ntmps134
  go_wp2_with (go_at_call 94; refine (when_any _ _ _).mono ?_; rintro e w' ⟨rfl, rfl⟩)
  all_goals trace_state
  all_goals go_ret
  all_goals exact ⟨ret_int (by simp [rangeB, *]), rfl⟩
end Go.Proofs.YtlflfieknibgmaaGreatDoor
