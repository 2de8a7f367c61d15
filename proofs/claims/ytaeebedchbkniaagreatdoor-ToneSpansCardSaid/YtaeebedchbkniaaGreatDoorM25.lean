import Derived.Test.YtaeebedchbkniaaGreatDoorM12
import Derived.Laws.IdiomStrings
namespace Go.Proofs.YtaeebedchbkniaaGreatDoor
set_option linter.all false
open Go.RowKit Go.Fl
def Tz (w : World) : Prop := w.cell? ⟨5, 1, none⟩ = some (.int .u8 1)
theorem Tz.old {w w' : World} (h : Tz w) (hb : Below w.heap.size w w') : Tz w' := (hb.cell (World.block_lt_of_cell? w _ h)).trans h
end Go.Proofs.YtaeebedchbkniaaGreatDoor
