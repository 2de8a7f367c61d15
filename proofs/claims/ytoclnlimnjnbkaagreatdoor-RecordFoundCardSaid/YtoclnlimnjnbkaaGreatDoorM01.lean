import Derived.Test.YtoclnlimnjnbkaaGreatDoorProg
import Derived.WalkKit
import Derived.WalkSpells
import Derived.WalkLawsBesides
import Derived.Lib.Hide
namespace Go.Proofs.YtoclnlimnjnbkaaGreatDoor
set_option linter.all false
open Go.RowKit
def whenI (b : Bool) (n : Int) : Int := if b then n else 0
def rangeB (n low high : Int) : Bool := decide (n < low) || decide (high < n)
theorem ret_int {k : IntKind} {a b : Int} (h : a = b) : Ending.returned (.int k a) = .returned (.int k b) := by rw [h]
end Go.Proofs.YtoclnlimnjnbkaaGreatDoor
