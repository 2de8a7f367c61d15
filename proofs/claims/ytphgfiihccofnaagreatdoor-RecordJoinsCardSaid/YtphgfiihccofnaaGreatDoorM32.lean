import Derived.Test.YtphgfiihccofnaaGreatDoorM17
/- Contracts: a part of a recording that is refused. -/
namespace Go.Proofs.YtphgfiihccofnaaGreatDoor
set_option linter.all false
open Go.RowKit Go.Fl
set_option linter.unusedVariables false
set_option linter.unusedSimpArgs false

end Go.Proofs.YtphgfiihccofnaaGreatDoor
