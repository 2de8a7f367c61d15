import Derived.Test.YtgbkblbfgknheaaGreatDoorM18
import Derived.Test.YtgbkblbfgknheaaGreatDoorM22
namespace Go.Proofs.YtgbkblbfgknheaaGreatDoor
set_option linter.all false
open Go.RowKit Go.Fl

end Go.Proofs.YtgbkblbfgknheaaGreatDoor
