import Derived.Test.YtaknlhepgeiekaaGreatDoorH12
import Derived.Laws.CopyOwn
namespace Go.Proofs.YtaknlhepgeiekaaGreatDoor
set_option linter.all false
open Go.RowKit Go.Fl
theorem isAgg5 (w : World) : (isAgg 5).run Tryz.prog w = .ok false w := by kernel_rfl

end Go.Proofs.YtaknlhepgeiekaaGreatDoor
