import Derived.Test.YtgbkblbfgknheaaGreatDoorM04
import Derived.Test.YtgbkblbfgknheaaGreatDoorM01
namespace Go.Proofs.YtgbkblbfgknheaaGreatDoor
set_option linter.all false
open Go.RowKit

end Go.Proofs.YtgbkblbfgknheaaGreatDoor
