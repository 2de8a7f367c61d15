import Derived.Test.YtaeebedchbkniaaGreatDoorM04
import Derived.Test.YtaeebedchbkniaaGreatDoorM01
namespace Go.Proofs.YtaeebedchbkniaaGreatDoor
set_option linter.all false
open Go.RowKit

end Go.Proofs.YtaeebedchbkniaaGreatDoor
