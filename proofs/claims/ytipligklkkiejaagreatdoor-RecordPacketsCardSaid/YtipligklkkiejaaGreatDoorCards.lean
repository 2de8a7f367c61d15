/-
  DERIVED. GIVEN WITH THE SEED: THE CARDS: each row of YtipligklkkiejaaGreatDoorRows.lean that lists a variable, with what it lists TIED to the program's text (the seventh form; the later family's looks); each row that meets fmt, with fmt's text TOLD by the authors' own Lean function (tested against real Go, not proved from fmt's source: count such statements apart). THE CARD IS WHAT COUNTS. Prove the row's statement (the work); the ties are given (YtipligklkkiejaaGreatDoorTie.lean); close each card by the builder's one call (the guide's Derived/Test/ToyasCard.lean, 'card_holds'). Laid BY PROGRAM, IN A SANDBOX (cutbox-door.mjs). By AI agents, Wed Nov 11 2026. No macro, syntax, notation, axiom, sorry.
-/
import Derived.Test.YtipligklkkiejaaGreatDoorRows
import GoSem.ClaimSeven
namespace Go.Proofs.YtipligklkkiejaaGreatDoor
namespace Rows

/-- THE TIED CARD OF 'glideslopelaw01.RecordPackets'. -/
def recordPacketsCard : Claim7 := { stood := { row := recordPacketsRow, standIns := [], harness := (true, "b351b8d0b4b0aef47c61a4cbbc7ef4f50f5d171c0c53e26260847d92f086b157"), looks := false }, kinds := [], alts := [], laidByText := true, laidKinds := [.data, .data, .data, .data, .data, .pinned], laidTests := true, laidLooks := .later }
def RecordPacketsCardSaid : Prop := Claim7.holds Tryz.pinned (.plain (OpenSpec.ofChange recordPacketsSpec)) recordPacketsCard

/-- THE TIED CARD OF 'glideslopelaw01.RecordReceives'. -/
def recordReceivesCard : Claim7 := { stood := { row := recordReceivesRow, standIns := [], harness := (true, "b351b8d0b4b0aef47c61a4cbbc7ef4f50f5d171c0c53e26260847d92f086b157"), looks := false }, kinds := [], alts := [], laidByText := true, laidKinds := [.data, .data, .data, .data, .data, .pinned], laidTests := true, laidLooks := .later }
def RecordReceivesCardSaid : Prop := Claim7.holds Tryz.pinned (.plain (OpenSpec.ofChange recordReceivesSpec)) recordReceivesCard

/-- THE TIED CARD OF 'glideslopelaw01.RecordAssembles'. -/
def recordAssemblesCard : Claim7 := { stood := { row := recordAssemblesRow, standIns := [], harness := (true, "b351b8d0b4b0aef47c61a4cbbc7ef4f50f5d171c0c53e26260847d92f086b157"), looks := false }, kinds := [], alts := [], laidByText := true, laidKinds := [.data, .data, .data, .data, .data, .pinned], laidTests := true, laidLooks := .later }
def RecordAssemblesCardSaid : Prop := Claim7.holds Tryz.pinned (.plain (OpenSpec.ofChange recordAssemblesSpec)) recordAssemblesCard

/-- THE SECOND FORM's CARD OF 'glideslopelaw01.RecordPackets'. -/
def recordPacketsUptoCard : Claim7 := { stood := { row := recordPacketsUptoRow, standIns := [], harness := (true, "b351b8d0b4b0aef47c61a4cbbc7ef4f50f5d171c0c53e26260847d92f086b157"), looks := false }, kinds := [], alts := [], laidByText := true, laidKinds := [.data, .data, .data, .data, .data, .pinned], laidTests := true, laidLooks := .later }
def RecordPacketsUptoCardSaid : Prop := Claim7.holds Tryz.pinned (.plain (OpenSpec.upto recordPacketsSpec)) recordPacketsUptoCard

/-- THE SECOND FORM's CARD OF 'glideslopelaw01.RecordReceives'. -/
def recordReceivesUptoCard : Claim7 := { stood := { row := recordReceivesUptoRow, standIns := [], harness := (true, "b351b8d0b4b0aef47c61a4cbbc7ef4f50f5d171c0c53e26260847d92f086b157"), looks := false }, kinds := [], alts := [], laidByText := true, laidKinds := [.data, .data, .data, .data, .data, .pinned], laidTests := true, laidLooks := .later }
def RecordReceivesUptoCardSaid : Prop := Claim7.holds Tryz.pinned (.plain (OpenSpec.upto recordReceivesSpec)) recordReceivesUptoCard

/-- THE SECOND FORM's CARD OF 'glideslopelaw01.RecordAssembles'. -/
def recordAssemblesUptoCard : Claim7 := { stood := { row := recordAssemblesUptoRow, standIns := [], harness := (true, "b351b8d0b4b0aef47c61a4cbbc7ef4f50f5d171c0c53e26260847d92f086b157"), looks := false }, kinds := [], alts := [], laidByText := true, laidKinds := [.data, .data, .data, .data, .data, .pinned], laidTests := true, laidLooks := .later }
def RecordAssemblesUptoCardSaid : Prop := Claim7.holds Tryz.pinned (.plain (OpenSpec.upto recordAssemblesSpec)) recordAssemblesUptoCard
end Rows
end Go.Proofs.YtipligklkkiejaaGreatDoor
