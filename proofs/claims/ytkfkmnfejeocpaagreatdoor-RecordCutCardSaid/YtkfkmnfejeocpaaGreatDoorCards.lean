/-
  DERIVED. GIVEN WITH THE SEED: THE CARDS: each row of YtkfkmnfejeocpaaGreatDoorRows.lean that lists a variable, with what it lists TIED to the program's text (the seventh form; the later family's looks); each row that meets fmt, with fmt's text TOLD by the authors' own Lean function (tested against real Go, not proved from fmt's source: count such statements apart). THE CARD IS WHAT COUNTS. Prove the row's statement (the work); the ties are given (YtkfkmnfejeocpaaGreatDoorTie.lean); close each card by the builder's one call (the guide's Derived/Test/ToyasCard.lean, 'card_holds'). Laid BY PROGRAM, IN A SANDBOX (cutbox-door.mjs). By AI agents, Wed Nov 11 2026. No macro, syntax, notation, axiom, sorry.
-/
import Derived.Test.YtkfkmnfejeocpaaGreatDoorRows
import GoSem.ClaimSeven
namespace Go.Proofs.YtkfkmnfejeocpaaGreatDoor
namespace Rows

/-- THE TIED CARD OF 'glideslopelaw01.RecordTurns'. -/
def recordTurnsCard : Claim7 := { stood := { row := recordTurnsRow, standIns := [], harness := (true, "de5ed02c883bd4f9f4698a9c8725fe08f55e59387c358ca099eba7c87f7e0642"), looks := false }, kinds := [], alts := [], laidByText := true, laidKinds := [.data, .data, .data, .data, .data, .pinned], laidTests := true, laidLooks := .later }
def RecordTurnsCardSaid : Prop := Claim7.holds Tryz.pinned (.plain (OpenSpec.ofChange recordTurnsSpec)) recordTurnsCard

/-- THE TIED CARD OF 'glideslopelaw01.RecordFound'. -/
def recordFoundCard : Claim7 := { stood := { row := recordFoundRow, standIns := [], harness := (true, "de5ed02c883bd4f9f4698a9c8725fe08f55e59387c358ca099eba7c87f7e0642"), looks := false }, kinds := [], alts := [], laidByText := true, laidKinds := [.data, .data, .data, .data, .data, .pinned], laidTests := true, laidLooks := .later }
def RecordFoundCardSaid : Prop := Claim7.holds Tryz.pinned (.plain (OpenSpec.ofChange recordFoundSpec)) recordFoundCard

/-- THE TIED CARD OF 'glideslopelaw01.RecordCut'. -/
def recordCutCard : Claim7 := { stood := { row := recordCutRow, standIns := [], harness := (true, "de5ed02c883bd4f9f4698a9c8725fe08f55e59387c358ca099eba7c87f7e0642"), looks := false }, kinds := [], alts := [], laidByText := true, laidKinds := [.data, .data, .data, .data, .data, .pinned], laidTests := true, laidLooks := .later }
def RecordCutCardSaid : Prop := Claim7.holds Tryz.pinned (.plain (OpenSpec.ofChange recordCutSpec)) recordCutCard

/-- THE TIED CARD OF 'glideslopelaw01.RecordHeard'. -/
def recordHeardCard : Claim7 := { stood := { row := recordHeardRow, standIns := [], harness := (true, "de5ed02c883bd4f9f4698a9c8725fe08f55e59387c358ca099eba7c87f7e0642"), looks := false }, kinds := [], alts := [], laidByText := true, laidKinds := [.data, .data, .data, .data, .data, .pinned], laidTests := true, laidLooks := .later }
def RecordHeardCardSaid : Prop := Claim7.holds Tryz.pinned (.plain (OpenSpec.ofChange recordHeardSpec)) recordHeardCard

/-- THE TIED CARD OF 'glideslopelaw01.RecordBack'. -/
def recordBackCard : Claim7 := { stood := { row := recordBackRow, standIns := [], harness := (true, "de5ed02c883bd4f9f4698a9c8725fe08f55e59387c358ca099eba7c87f7e0642"), looks := false }, kinds := [], alts := [], laidByText := true, laidKinds := [.data, .data, .data, .data, .data, .pinned], laidTests := true, laidLooks := .later }
def RecordBackCardSaid : Prop := Claim7.holds Tryz.pinned (.plain (OpenSpec.ofChange recordBackSpec)) recordBackCard

/-- THE SECOND FORM's CARD OF 'glideslopelaw01.RecordTurns'. -/
def recordTurnsUptoCard : Claim7 := { stood := { row := recordTurnsUptoRow, standIns := [], harness := (true, "de5ed02c883bd4f9f4698a9c8725fe08f55e59387c358ca099eba7c87f7e0642"), looks := false }, kinds := [], alts := [], laidByText := true, laidKinds := [.data, .data, .data, .data, .data, .pinned], laidTests := true, laidLooks := .later }
def RecordTurnsUptoCardSaid : Prop := Claim7.holds Tryz.pinned (.plain (OpenSpec.upto recordTurnsSpec)) recordTurnsUptoCard

/-- THE SECOND FORM's CARD OF 'glideslopelaw01.RecordFound'. -/
def recordFoundUptoCard : Claim7 := { stood := { row := recordFoundUptoRow, standIns := [], harness := (true, "de5ed02c883bd4f9f4698a9c8725fe08f55e59387c358ca099eba7c87f7e0642"), looks := false }, kinds := [], alts := [], laidByText := true, laidKinds := [.data, .data, .data, .data, .data, .pinned], laidTests := true, laidLooks := .later }
def RecordFoundUptoCardSaid : Prop := Claim7.holds Tryz.pinned (.plain (OpenSpec.upto recordFoundSpec)) recordFoundUptoCard

/-- THE SECOND FORM's CARD OF 'glideslopelaw01.RecordCut'. -/
def recordCutUptoCard : Claim7 := { stood := { row := recordCutUptoRow, standIns := [], harness := (true, "de5ed02c883bd4f9f4698a9c8725fe08f55e59387c358ca099eba7c87f7e0642"), looks := false }, kinds := [], alts := [], laidByText := true, laidKinds := [.data, .data, .data, .data, .data, .pinned], laidTests := true, laidLooks := .later }
def RecordCutUptoCardSaid : Prop := Claim7.holds Tryz.pinned (.plain (OpenSpec.upto recordCutSpec)) recordCutUptoCard

/-- THE SECOND FORM's CARD OF 'glideslopelaw01.RecordHeard'. -/
def recordHeardUptoCard : Claim7 := { stood := { row := recordHeardUptoRow, standIns := [], harness := (true, "de5ed02c883bd4f9f4698a9c8725fe08f55e59387c358ca099eba7c87f7e0642"), looks := false }, kinds := [], alts := [], laidByText := true, laidKinds := [.data, .data, .data, .data, .data, .pinned], laidTests := true, laidLooks := .later }
def RecordHeardUptoCardSaid : Prop := Claim7.holds Tryz.pinned (.plain (OpenSpec.upto recordHeardSpec)) recordHeardUptoCard

/-- THE SECOND FORM's CARD OF 'glideslopelaw01.RecordBack'. -/
def recordBackUptoCard : Claim7 := { stood := { row := recordBackUptoRow, standIns := [], harness := (true, "de5ed02c883bd4f9f4698a9c8725fe08f55e59387c358ca099eba7c87f7e0642"), looks := false }, kinds := [], alts := [], laidByText := true, laidKinds := [.data, .data, .data, .data, .data, .pinned], laidTests := true, laidLooks := .later }
def RecordBackUptoCardSaid : Prop := Claim7.holds Tryz.pinned (.plain (OpenSpec.upto recordBackSpec)) recordBackUptoCard
end Rows
end Go.Proofs.YtkfkmnfejeocpaaGreatDoor
