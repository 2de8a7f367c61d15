import Derived.Test.YtlflfieknibgmaaGreatDoorM18
import Derived.Test.YtlflfieknibgmaaGreatDoorM19
namespace Go.Proofs.YtlflfieknibgmaaGreatDoor
set_option linter.all false
open Go.RowKit Go.Fl
attribute [local go_sem] Oper.semAt_some
end Go.Proofs.YtlflfieknibgmaaGreatDoor
