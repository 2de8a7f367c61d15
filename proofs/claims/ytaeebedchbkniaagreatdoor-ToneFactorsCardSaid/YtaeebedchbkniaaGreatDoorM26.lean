import Derived.Test.YtaeebedchbkniaaGreatDoorM25
import Derived.Maps.OwnSet
import Derived.Maps.StringElems
import Derived.StringKeys
import Derived.Lib.Hide
import Derived.Test.YtaeebedchbkniaaGreatDoorM27
namespace Go.Proofs.YtaeebedchbkniaaGreatDoor
set_option linter.all false
open Go.RowKit Go.Maps

end Go.Proofs.YtaeebedchbkniaaGreatDoor
namespace Go.Proofs.YtaeebedchbkniaaGreatDoor
set_option linter.all false
open Go.RowKit Go.Fl


end Go.Proofs.YtaeebedchbkniaaGreatDoor
namespace Go.Proofs.YtaeebedchbkniaaGreatDoor
set_option linter.all false
open Go.RowKit Go.Fl Ieee

end Go.Proofs.YtaeebedchbkniaaGreatDoor
