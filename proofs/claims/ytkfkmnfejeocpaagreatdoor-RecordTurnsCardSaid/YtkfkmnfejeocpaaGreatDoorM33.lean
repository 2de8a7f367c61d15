import Derived.Test.YtkfkmnfejeocpaaGreatDoorM32
import Derived.Test.YtkfkmnfejeocpaaGreatDoorM24
import Derived.OpenShut
/- Kit of the cards: a slice of packets that can be read. -/
namespace Go.Proofs.YtkfkmnfejeocpaaGreatDoor
set_option linter.all false
open Go.RowKit Go.ChangeShapes Go.WideShapes Go.ChangeAt Go.Lib
set_option linter.unusedVariables false

end Go.Proofs.YtkfkmnfejeocpaaGreatDoor
