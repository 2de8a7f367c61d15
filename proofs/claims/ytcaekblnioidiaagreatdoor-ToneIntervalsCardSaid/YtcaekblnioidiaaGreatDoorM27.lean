import Derived.Test.YtcaekblnioidiaaGreatDoorM12
import Derived.Laws.IdiomStrings
import Derived.Maps.OwnSet
import Derived.Maps.StringElems
import Derived.StringKeys
import Derived.Lib.Hide
import Derived.Test.YtcaekblnioidiaaGreatDoorM28
namespace Go.Proofs.YtcaekblnioidiaaGreatDoor
set_option linter.all false
open Go.RowKit Go.Fl
def Tz (w : World) : Prop := w.cell? ⟨5, 1, none⟩ = some (.int .u8 1)
theorem Tz.old {w w' : World} (h : Tz w) (hb : Below w.heap.size w w') : Tz w' := (hb.cell (World.block_lt_of_cell? w _ h)).trans h
end Go.Proofs.YtcaekblnioidiaaGreatDoor
namespace Go.Proofs.YtcaekblnioidiaaGreatDoor
set_option linter.all false
open Go.RowKit Go.Maps

end Go.Proofs.YtcaekblnioidiaaGreatDoor
namespace Go.Proofs.YtcaekblnioidiaaGreatDoor
set_option linter.all false
open Go.RowKit Go.Fl


end Go.Proofs.YtcaekblnioidiaaGreatDoor
namespace Go.Proofs.YtcaekblnioidiaaGreatDoor
set_option linter.all false
open Go.RowKit Go.Fl Ieee

end Go.Proofs.YtcaekblnioidiaaGreatDoor
