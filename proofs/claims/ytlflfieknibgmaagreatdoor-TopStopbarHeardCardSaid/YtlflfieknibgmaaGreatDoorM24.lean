import Derived.Test.YtlflfieknibgmaaGreatDoorM02
import Derived.Test.YtlflfieknibgmaaGreatDoorM05
namespace Go.Proofs.YtlflfieknibgmaaGreatDoor
set_option linter.all false
open Go.RowKit

end Go.Proofs.YtlflfieknibgmaaGreatDoor
