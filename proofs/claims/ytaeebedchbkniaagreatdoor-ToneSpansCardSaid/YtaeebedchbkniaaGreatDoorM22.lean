import Derived.Laws.CopyOwn
import Derived.Test.YtaeebedchbkniaaGreatDoorM26
namespace Go.Proofs.YtaeebedchbkniaaGreatDoor
set_option linter.all false
open Go.RowKit Go.Fl
theorem isAgg5 (w : World) : (isAgg 5).run Tryz.prog w = .ok false w := by kernel_rfl

end Go.Proofs.YtaeebedchbkniaaGreatDoor
