import Derived.Test.YtaknlhepgeiekaaGreatDoorM04
import Derived.Test.YtaknlhepgeiekaaGreatDoorM01
namespace Go.Proofs.YtaknlhepgeiekaaGreatDoor
set_option linter.all false
open Go.RowKit

end Go.Proofs.YtaknlhepgeiekaaGreatDoor
