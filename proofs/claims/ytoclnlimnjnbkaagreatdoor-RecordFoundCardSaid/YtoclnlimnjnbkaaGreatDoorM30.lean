import Derived.Test.YtoclnlimnjnbkaaGreatDoorM21
namespace Go.Proofs.YtoclnlimnjnbkaaGreatDoor
set_option linter.all false
open Go.RowKit Go.Fl
theorem genR {p : World → Prop} {w : World} (S : World → Prop) (h : S w) (hp : ∀ W, S W → p W) : p w := hp w h
end Go.Proofs.YtoclnlimnjnbkaaGreatDoor
