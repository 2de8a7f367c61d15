/-
  DERIVED. GIVEN WITH THE SEED: THE CARDS: each row of YtphgfiihccofnaaGreatDoorRows.lean that lists a variable, with what it lists TIED to the program's text (the seventh form; the later family's looks); each row that meets fmt, with fmt's text TOLD by the authors' own Lean function (tested against real Go, not proved from fmt's source: count such statements apart). THE CARD IS WHAT COUNTS. Prove the row's statement (the work); the ties are given (YtphgfiihccofnaaGreatDoorTie.lean); close each card by the builder's one call (the guide's Derived/Test/ToyasCard.lean, 'card_holds'). Laid BY PROGRAM, IN A SANDBOX (cutbox-door.mjs). By AI agents, Wed Nov 11 2026. No macro, syntax, notation, axiom, sorry.
-/
import Derived.Test.YtphgfiihccofnaaGreatDoorRows
import GoSem.ClaimSeven
namespace Go.Proofs.YtphgfiihccofnaaGreatDoor
namespace Rows

/-- THE TIED CARD OF 'glideslopelaw01.RecordRecordings'. -/
def recordRecordingsCard : Claim7 := { stood := { row := recordRecordingsRow, standIns := [], harness := (true, "ba243545656b31c8484bab1e9c3f661585f45f35f6fbf314e6968510f4e5bf2f"), looks := false }, kinds := [], alts := [], laidByText := true, laidKinds := [.data, .data, .data, .data, .data, .pinned], laidTests := true, laidLooks := .later }
def RecordRecordingsCardSaid : Prop := Claim7.holds Tryz.pinned (.plain (OpenSpec.ofChange recordRecordingsSpec)) recordRecordingsCard

/-- THE TIED CARD OF 'glideslopelaw01.RecordJoins'. -/
def recordJoinsCard : Claim7 := { stood := { row := recordJoinsRow, standIns := [], harness := (true, "ba243545656b31c8484bab1e9c3f661585f45f35f6fbf314e6968510f4e5bf2f"), looks := false }, kinds := [], alts := [], laidByText := true, laidKinds := [.data, .data, .data, .data, .data, .pinned], laidTests := true, laidLooks := .later }
def RecordJoinsCardSaid : Prop := Claim7.holds Tryz.pinned (.plain (OpenSpec.ofChange recordJoinsSpec)) recordJoinsCard

/-- THE TIED CARD OF 'glideslopelaw01.RecordAligns'. -/
def recordAlignsCard : Claim7 := { stood := { row := recordAlignsRow, standIns := [], harness := (true, "ba243545656b31c8484bab1e9c3f661585f45f35f6fbf314e6968510f4e5bf2f"), looks := false }, kinds := [], alts := [], laidByText := true, laidKinds := [.data, .data, .data, .data, .data, .pinned], laidTests := true, laidLooks := .later }
def RecordAlignsCardSaid : Prop := Claim7.holds Tryz.pinned (.plain (OpenSpec.ofChange recordAlignsSpec)) recordAlignsCard

/-- THE TIED CARD OF 'glideslopelaw01.RecordKeys'. -/
def recordKeysCard : Claim7 := { stood := { row := recordKeysRow, standIns := [], harness := (true, "ba243545656b31c8484bab1e9c3f661585f45f35f6fbf314e6968510f4e5bf2f"), looks := false }, kinds := [], alts := [], laidByText := true, laidKinds := [.data, .data, .data, .data, .data, .pinned], laidTests := true, laidLooks := .later }
def RecordKeysCardSaid : Prop := Claim7.holds Tryz.pinned (.plain (OpenSpec.ofChange recordKeysSpec)) recordKeysCard

/-- THE TIED CARD OF 'glideslopelaw01.RecordStrings'. -/
def recordStringsCard : Claim7 := { stood := { row := recordStringsRow, standIns := [], harness := (true, "ba243545656b31c8484bab1e9c3f661585f45f35f6fbf314e6968510f4e5bf2f"), looks := false }, kinds := [], alts := [], laidByText := true, laidKinds := [.data, .data, .data, .data, .data, .pinned], laidTests := true, laidLooks := .later }
def RecordStringsCardSaid : Prop := Claim7.holds Tryz.pinned (.plain (OpenSpec.ofChange recordStringsSpec)) recordStringsCard

/-- THE SECOND FORM's CARD OF 'glideslopelaw01.RecordRecordings'. -/
def recordRecordingsUptoCard : Claim7 := { stood := { row := recordRecordingsUptoRow, standIns := [], harness := (true, "ba243545656b31c8484bab1e9c3f661585f45f35f6fbf314e6968510f4e5bf2f"), looks := false }, kinds := [], alts := [], laidByText := true, laidKinds := [.data, .data, .data, .data, .data, .pinned], laidTests := true, laidLooks := .later }
def RecordRecordingsUptoCardSaid : Prop := Claim7.holds Tryz.pinned (.plain (OpenSpec.upto recordRecordingsSpec)) recordRecordingsUptoCard

/-- THE SECOND FORM's CARD OF 'glideslopelaw01.RecordJoins'. -/
def recordJoinsUptoCard : Claim7 := { stood := { row := recordJoinsUptoRow, standIns := [], harness := (true, "ba243545656b31c8484bab1e9c3f661585f45f35f6fbf314e6968510f4e5bf2f"), looks := false }, kinds := [], alts := [], laidByText := true, laidKinds := [.data, .data, .data, .data, .data, .pinned], laidTests := true, laidLooks := .later }
def RecordJoinsUptoCardSaid : Prop := Claim7.holds Tryz.pinned (.plain (OpenSpec.upto recordJoinsSpec)) recordJoinsUptoCard

/-- THE SECOND FORM's CARD OF 'glideslopelaw01.RecordAligns'. -/
def recordAlignsUptoCard : Claim7 := { stood := { row := recordAlignsUptoRow, standIns := [], harness := (true, "ba243545656b31c8484bab1e9c3f661585f45f35f6fbf314e6968510f4e5bf2f"), looks := false }, kinds := [], alts := [], laidByText := true, laidKinds := [.data, .data, .data, .data, .data, .pinned], laidTests := true, laidLooks := .later }
def RecordAlignsUptoCardSaid : Prop := Claim7.holds Tryz.pinned (.plain (OpenSpec.upto recordAlignsSpec)) recordAlignsUptoCard

/-- THE SECOND FORM's CARD OF 'glideslopelaw01.RecordKeys'. -/
def recordKeysUptoCard : Claim7 := { stood := { row := recordKeysUptoRow, standIns := [], harness := (true, "ba243545656b31c8484bab1e9c3f661585f45f35f6fbf314e6968510f4e5bf2f"), looks := false }, kinds := [], alts := [], laidByText := true, laidKinds := [.data, .data, .data, .data, .data, .pinned], laidTests := true, laidLooks := .later }
def RecordKeysUptoCardSaid : Prop := Claim7.holds Tryz.pinned (.plain (OpenSpec.upto recordKeysSpec)) recordKeysUptoCard

/-- THE SECOND FORM's CARD OF 'glideslopelaw01.RecordStrings'. -/
def recordStringsUptoCard : Claim7 := { stood := { row := recordStringsUptoRow, standIns := [], harness := (true, "ba243545656b31c8484bab1e9c3f661585f45f35f6fbf314e6968510f4e5bf2f"), looks := false }, kinds := [], alts := [], laidByText := true, laidKinds := [.data, .data, .data, .data, .data, .pinned], laidTests := true, laidLooks := .later }
def RecordStringsUptoCardSaid : Prop := Claim7.holds Tryz.pinned (.plain (OpenSpec.upto recordStringsSpec)) recordStringsUptoCard
end Rows
end Go.Proofs.YtphgfiihccofnaaGreatDoor
