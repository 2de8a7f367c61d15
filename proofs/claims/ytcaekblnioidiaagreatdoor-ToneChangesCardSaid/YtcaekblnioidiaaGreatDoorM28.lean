import Derived.Test.YtcaekblnioidiaaGreatDoorM06
import Derived.Test.YtcaekblnioidiaaGreatDoorM01
namespace Go.Proofs.YtcaekblnioidiaaGreatDoor
set_option linter.all false
open Go.RowKit

end Go.Proofs.YtcaekblnioidiaaGreatDoor
