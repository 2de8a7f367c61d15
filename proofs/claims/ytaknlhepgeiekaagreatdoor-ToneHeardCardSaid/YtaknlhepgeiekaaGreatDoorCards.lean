/-
  DERIVED. GIVEN WITH THE SEED: THE CARDS: each row of YtaknlhepgeiekaaGreatDoorRows.lean that lists a variable, with what it lists TIED to the program's text (the seventh form; the later family's looks); each row that meets fmt, with fmt's text TOLD by the authors' own Lean function (tested against real Go, not proved from fmt's source: count such statements apart). THE CARD IS WHAT COUNTS. Prove the row's statement (the work); the ties are given (YtaknlhepgeiekaaGreatDoorTie.lean); close each card by the builder's one call (the guide's Derived/Test/ToyasCard.lean, 'card_holds'). Laid BY PROGRAM, IN A SANDBOX (cutbox-door.mjs). By AI agents, Wed Nov 11 2026. No macro, syntax, notation, axiom, sorry.
-/
import Derived.Test.YtaknlhepgeiekaaGreatDoorRows
import GoSem.ClaimSeven
namespace Go.Proofs.YtaknlhepgeiekaaGreatDoor
namespace Rows

/-- THE TIED CARD OF 'glideslopelaw02.ToneHeard'. -/
def toneHeardCard : Claim7 := { stood := { row := toneHeardRow, standIns := [], harness := (true, "ed7af65758b83c427e086c80a07c61f3c4a5c105230460e1583e8c50e8eec564"), looks := false }, kinds := [], alts := [], laidByText := true, laidKinds := [.data, .data, .data, .data, .data, .pinned], laidTests := true, laidLooks := .later }
def ToneHeardCardSaid : Prop := Claim7.holds Tryz.pinned (.plain (OpenSpec.ofChange toneHeardSpec)) toneHeardCard

/-- THE TIED CARD OF 'glideslopelaw02.ToneAgrees'. -/
def toneAgreesCard : Claim7 := { stood := { row := toneAgreesRow, standIns := [], harness := (true, "ed7af65758b83c427e086c80a07c61f3c4a5c105230460e1583e8c50e8eec564"), looks := false }, kinds := [], alts := [], laidByText := true, laidKinds := [.data, .data, .data, .data, .data, .pinned], laidTests := true, laidLooks := .later }
def ToneAgreesCardSaid : Prop := Claim7.holds Tryz.pinned (.plain (OpenSpec.ofChange toneAgreesSpec)) toneAgreesCard

/-- THE SECOND FORM's CARD OF 'glideslopelaw02.ToneHeard'. -/
def toneHeardUptoCard : Claim7 := { stood := { row := toneHeardUptoRow, standIns := [], harness := (true, "ed7af65758b83c427e086c80a07c61f3c4a5c105230460e1583e8c50e8eec564"), looks := false }, kinds := [], alts := [], laidByText := true, laidKinds := [.data, .data, .data, .data, .data, .pinned], laidTests := true, laidLooks := .later }
def ToneHeardUptoCardSaid : Prop := Claim7.holds Tryz.pinned (.plain (OpenSpec.upto toneHeardSpec)) toneHeardUptoCard

/-- THE SECOND FORM's CARD OF 'glideslopelaw02.ToneAgrees'. -/
def toneAgreesUptoCard : Claim7 := { stood := { row := toneAgreesUptoRow, standIns := [], harness := (true, "ed7af65758b83c427e086c80a07c61f3c4a5c105230460e1583e8c50e8eec564"), looks := false }, kinds := [], alts := [], laidByText := true, laidKinds := [.data, .data, .data, .data, .data, .pinned], laidTests := true, laidLooks := .later }
def ToneAgreesUptoCardSaid : Prop := Claim7.holds Tryz.pinned (.plain (OpenSpec.upto toneAgreesSpec)) toneAgreesUptoCard
end Rows
end Go.Proofs.YtaknlhepgeiekaaGreatDoor
