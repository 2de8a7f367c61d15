import Derived.Laws.EntriesVeiled
import Derived.Shelf.Abstract
import Derived.Test.YtlflfieknibgmaaGreatDoorM19
namespace Go.Proofs.YtlflfieknibgmaaGreatDoor
set_option linter.all false
open Go.RowKit Go.Fl

end Go.Proofs.YtlflfieknibgmaaGreatDoor
