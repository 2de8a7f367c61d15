import Derived.Test.YtaknlhepgeiekaaGreatDoorH04
import Derived.Test.YtaknlhepgeiekaaGreatDoorH01
namespace Go.Proofs.YtaknlhepgeiekaaGreatDoor
set_option linter.all false
open Go.RowKit

end Go.Proofs.YtaknlhepgeiekaaGreatDoor
