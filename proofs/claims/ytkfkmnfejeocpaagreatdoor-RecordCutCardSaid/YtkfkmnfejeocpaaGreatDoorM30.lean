import Derived.Test.YtkfkmnfejeocpaaGreatDoorM07
import Derived.Test.YtkfkmnfejeocpaaGreatDoorM24
namespace Go.Proofs.YtkfkmnfejeocpaaGreatDoor
set_option linter.all false
open Go.RowKit Go.Fl

end Go.Proofs.YtkfkmnfejeocpaaGreatDoor
