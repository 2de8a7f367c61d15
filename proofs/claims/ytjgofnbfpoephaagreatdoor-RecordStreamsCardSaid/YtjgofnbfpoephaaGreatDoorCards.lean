/-
  DERIVED. GIVEN WITH THE SEED: THE CARDS: each row of YtjgofnbfpoephaaGreatDoorRows.lean that lists a variable, with what it lists TIED to the program's text (the seventh form; the later family's looks); each row that meets fmt, with fmt's text TOLD by the authors' own Lean function (tested against real Go, not proved from fmt's source: count such statements apart). THE CARD IS WHAT COUNTS. Prove the row's statement (the work); the ties are given (YtjgofnbfpoephaaGreatDoorTie.lean); close each card by the builder's one call (the guide's Derived/Test/ToyasCard.lean, 'card_holds'). Laid BY PROGRAM, IN A SANDBOX (cutbox-door.mjs). By AI agents, Wed Nov 11 2026. No macro, syntax, notation, axiom, sorry.
-/
import Derived.Test.YtjgofnbfpoephaaGreatDoorRows
import GoSem.ClaimSeven
namespace Go.Proofs.YtjgofnbfpoephaaGreatDoor
namespace Rows

/-- THE TIED CARD OF 'glideslopelaw01.RecordNumbers'. -/
def recordNumbersCard : Claim7 := { stood := { row := recordNumbersRow, standIns := [], harness := (true, "15a0d773a6ebe6758f99c3f62ec37010d4b91962ad477693bf575c4b2b1bdd9a"), looks := false }, kinds := [], alts := [], laidByText := true, laidKinds := [.data, .data, .data, .data, .data, .pinned], laidTests := true, laidLooks := .later }
def RecordNumbersCardSaid : Prop := Claim7.holds Tryz.pinned (.plain (OpenSpec.ofChange recordNumbersSpec)) recordNumbersCard

/-- THE TIED CARD OF 'glideslopelaw01.RecordSamples'. -/
def recordSamplesCard : Claim7 := { stood := { row := recordSamplesRow, standIns := [], harness := (true, "15a0d773a6ebe6758f99c3f62ec37010d4b91962ad477693bf575c4b2b1bdd9a"), looks := false }, kinds := [], alts := [], laidByText := true, laidKinds := [.data, .data, .data, .data, .data, .pinned], laidTests := true, laidLooks := .later }
def RecordSamplesCardSaid : Prop := Claim7.holds Tryz.pinned (.plain (OpenSpec.ofChange recordSamplesSpec)) recordSamplesCard

/-- THE TIED CARD OF 'glideslopelaw01.RecordPackets'. -/
def recordPacketsCard : Claim7 := { stood := { row := recordPacketsRow, standIns := [], harness := (true, "15a0d773a6ebe6758f99c3f62ec37010d4b91962ad477693bf575c4b2b1bdd9a"), looks := false }, kinds := [], alts := [], laidByText := true, laidKinds := [.data, .data, .data, .data, .data, .pinned], laidTests := true, laidLooks := .later }
def RecordPacketsCardSaid : Prop := Claim7.holds Tryz.pinned (.plain (OpenSpec.ofChange recordPacketsSpec)) recordPacketsCard

/-- THE TIED CARD OF 'glideslopelaw01.RecordReceives'. -/
def recordReceivesCard : Claim7 := { stood := { row := recordReceivesRow, standIns := [], harness := (true, "15a0d773a6ebe6758f99c3f62ec37010d4b91962ad477693bf575c4b2b1bdd9a"), looks := false }, kinds := [], alts := [], laidByText := true, laidKinds := [.data, .data, .data, .data, .data, .pinned], laidTests := true, laidLooks := .later }
def RecordReceivesCardSaid : Prop := Claim7.holds Tryz.pinned (.plain (OpenSpec.ofChange recordReceivesSpec)) recordReceivesCard

/-- THE TIED CARD OF 'glideslopelaw01.RecordAssembles'. -/
def recordAssemblesCard : Claim7 := { stood := { row := recordAssemblesRow, standIns := [], harness := (true, "15a0d773a6ebe6758f99c3f62ec37010d4b91962ad477693bf575c4b2b1bdd9a"), looks := false }, kinds := [], alts := [], laidByText := true, laidKinds := [.data, .data, .data, .data, .data, .pinned], laidTests := true, laidLooks := .later }
def RecordAssemblesCardSaid : Prop := Claim7.holds Tryz.pinned (.plain (OpenSpec.ofChange recordAssemblesSpec)) recordAssemblesCard

/-- THE TIED CARD OF 'glideslopelaw01.RecordRecordings'. -/
def recordRecordingsCard : Claim7 := { stood := { row := recordRecordingsRow, standIns := [], harness := (true, "15a0d773a6ebe6758f99c3f62ec37010d4b91962ad477693bf575c4b2b1bdd9a"), looks := false }, kinds := [], alts := [], laidByText := true, laidKinds := [.data, .data, .data, .data, .data, .pinned], laidTests := true, laidLooks := .later }
def RecordRecordingsCardSaid : Prop := Claim7.holds Tryz.pinned (.plain (OpenSpec.ofChange recordRecordingsSpec)) recordRecordingsCard

/-- THE TIED CARD OF 'glideslopelaw01.RecordJoins'. -/
def recordJoinsCard : Claim7 := { stood := { row := recordJoinsRow, standIns := [], harness := (true, "15a0d773a6ebe6758f99c3f62ec37010d4b91962ad477693bf575c4b2b1bdd9a"), looks := false }, kinds := [], alts := [], laidByText := true, laidKinds := [.data, .data, .data, .data, .data, .pinned], laidTests := true, laidLooks := .later }
def RecordJoinsCardSaid : Prop := Claim7.holds Tryz.pinned (.plain (OpenSpec.ofChange recordJoinsSpec)) recordJoinsCard

/-- THE TIED CARD OF 'glideslopelaw01.RecordAligns'. -/
def recordAlignsCard : Claim7 := { stood := { row := recordAlignsRow, standIns := [], harness := (true, "15a0d773a6ebe6758f99c3f62ec37010d4b91962ad477693bf575c4b2b1bdd9a"), looks := false }, kinds := [], alts := [], laidByText := true, laidKinds := [.data, .data, .data, .data, .data, .pinned], laidTests := true, laidLooks := .later }
def RecordAlignsCardSaid : Prop := Claim7.holds Tryz.pinned (.plain (OpenSpec.ofChange recordAlignsSpec)) recordAlignsCard

/-- THE TIED CARD OF 'glideslopelaw01.RecordKeys'. -/
def recordKeysCard : Claim7 := { stood := { row := recordKeysRow, standIns := [], harness := (true, "15a0d773a6ebe6758f99c3f62ec37010d4b91962ad477693bf575c4b2b1bdd9a"), looks := false }, kinds := [], alts := [], laidByText := true, laidKinds := [.data, .data, .data, .data, .data, .pinned], laidTests := true, laidLooks := .later }
def RecordKeysCardSaid : Prop := Claim7.holds Tryz.pinned (.plain (OpenSpec.ofChange recordKeysSpec)) recordKeysCard

/-- THE TIED CARD OF 'glideslopelaw01.RecordStreams'. -/
def recordStreamsCard : Claim7 := { stood := { row := recordStreamsRow, standIns := [], harness := (true, "15a0d773a6ebe6758f99c3f62ec37010d4b91962ad477693bf575c4b2b1bdd9a"), looks := false }, kinds := [], alts := [], laidByText := true, laidKinds := [.data, .data, .data, .data, .data, .pinned], laidTests := true, laidLooks := .later }
def RecordStreamsCardSaid : Prop := Claim7.holds Tryz.pinned (.plain (OpenSpec.ofChange recordStreamsSpec)) recordStreamsCard

/-- THE TIED CARD OF 'glideslopelaw01.RecordStrings'. -/
def recordStringsCard : Claim7 := { stood := { row := recordStringsRow, standIns := [], harness := (true, "15a0d773a6ebe6758f99c3f62ec37010d4b91962ad477693bf575c4b2b1bdd9a"), looks := false }, kinds := [], alts := [], laidByText := true, laidKinds := [.data, .data, .data, .data, .data, .pinned], laidTests := true, laidLooks := .later }
def RecordStringsCardSaid : Prop := Claim7.holds Tryz.pinned (.plain (OpenSpec.ofChange recordStringsSpec)) recordStringsCard

/-- THE SECOND FORM's CARD OF 'glideslopelaw01.RecordNumbers'. -/
def recordNumbersUptoCard : Claim7 := { stood := { row := recordNumbersUptoRow, standIns := [], harness := (true, "15a0d773a6ebe6758f99c3f62ec37010d4b91962ad477693bf575c4b2b1bdd9a"), looks := false }, kinds := [], alts := [], laidByText := true, laidKinds := [.data, .data, .data, .data, .data, .pinned], laidTests := true, laidLooks := .later }
def RecordNumbersUptoCardSaid : Prop := Claim7.holds Tryz.pinned (.plain (OpenSpec.upto recordNumbersSpec)) recordNumbersUptoCard

/-- THE SECOND FORM's CARD OF 'glideslopelaw01.RecordSamples'. -/
def recordSamplesUptoCard : Claim7 := { stood := { row := recordSamplesUptoRow, standIns := [], harness := (true, "15a0d773a6ebe6758f99c3f62ec37010d4b91962ad477693bf575c4b2b1bdd9a"), looks := false }, kinds := [], alts := [], laidByText := true, laidKinds := [.data, .data, .data, .data, .data, .pinned], laidTests := true, laidLooks := .later }
def RecordSamplesUptoCardSaid : Prop := Claim7.holds Tryz.pinned (.plain (OpenSpec.upto recordSamplesSpec)) recordSamplesUptoCard

/-- THE SECOND FORM's CARD OF 'glideslopelaw01.RecordPackets'. -/
def recordPacketsUptoCard : Claim7 := { stood := { row := recordPacketsUptoRow, standIns := [], harness := (true, "15a0d773a6ebe6758f99c3f62ec37010d4b91962ad477693bf575c4b2b1bdd9a"), looks := false }, kinds := [], alts := [], laidByText := true, laidKinds := [.data, .data, .data, .data, .data, .pinned], laidTests := true, laidLooks := .later }
def RecordPacketsUptoCardSaid : Prop := Claim7.holds Tryz.pinned (.plain (OpenSpec.upto recordPacketsSpec)) recordPacketsUptoCard

/-- THE SECOND FORM's CARD OF 'glideslopelaw01.RecordReceives'. -/
def recordReceivesUptoCard : Claim7 := { stood := { row := recordReceivesUptoRow, standIns := [], harness := (true, "15a0d773a6ebe6758f99c3f62ec37010d4b91962ad477693bf575c4b2b1bdd9a"), looks := false }, kinds := [], alts := [], laidByText := true, laidKinds := [.data, .data, .data, .data, .data, .pinned], laidTests := true, laidLooks := .later }
def RecordReceivesUptoCardSaid : Prop := Claim7.holds Tryz.pinned (.plain (OpenSpec.upto recordReceivesSpec)) recordReceivesUptoCard

/-- THE SECOND FORM's CARD OF 'glideslopelaw01.RecordAssembles'. -/
def recordAssemblesUptoCard : Claim7 := { stood := { row := recordAssemblesUptoRow, standIns := [], harness := (true, "15a0d773a6ebe6758f99c3f62ec37010d4b91962ad477693bf575c4b2b1bdd9a"), looks := false }, kinds := [], alts := [], laidByText := true, laidKinds := [.data, .data, .data, .data, .data, .pinned], laidTests := true, laidLooks := .later }
def RecordAssemblesUptoCardSaid : Prop := Claim7.holds Tryz.pinned (.plain (OpenSpec.upto recordAssemblesSpec)) recordAssemblesUptoCard

/-- THE SECOND FORM's CARD OF 'glideslopelaw01.RecordRecordings'. -/
def recordRecordingsUptoCard : Claim7 := { stood := { row := recordRecordingsUptoRow, standIns := [], harness := (true, "15a0d773a6ebe6758f99c3f62ec37010d4b91962ad477693bf575c4b2b1bdd9a"), looks := false }, kinds := [], alts := [], laidByText := true, laidKinds := [.data, .data, .data, .data, .data, .pinned], laidTests := true, laidLooks := .later }
def RecordRecordingsUptoCardSaid : Prop := Claim7.holds Tryz.pinned (.plain (OpenSpec.upto recordRecordingsSpec)) recordRecordingsUptoCard

/-- THE SECOND FORM's CARD OF 'glideslopelaw01.RecordJoins'. -/
def recordJoinsUptoCard : Claim7 := { stood := { row := recordJoinsUptoRow, standIns := [], harness := (true, "15a0d773a6ebe6758f99c3f62ec37010d4b91962ad477693bf575c4b2b1bdd9a"), looks := false }, kinds := [], alts := [], laidByText := true, laidKinds := [.data, .data, .data, .data, .data, .pinned], laidTests := true, laidLooks := .later }
def RecordJoinsUptoCardSaid : Prop := Claim7.holds Tryz.pinned (.plain (OpenSpec.upto recordJoinsSpec)) recordJoinsUptoCard

/-- THE SECOND FORM's CARD OF 'glideslopelaw01.RecordAligns'. -/
def recordAlignsUptoCard : Claim7 := { stood := { row := recordAlignsUptoRow, standIns := [], harness := (true, "15a0d773a6ebe6758f99c3f62ec37010d4b91962ad477693bf575c4b2b1bdd9a"), looks := false }, kinds := [], alts := [], laidByText := true, laidKinds := [.data, .data, .data, .data, .data, .pinned], laidTests := true, laidLooks := .later }
def RecordAlignsUptoCardSaid : Prop := Claim7.holds Tryz.pinned (.plain (OpenSpec.upto recordAlignsSpec)) recordAlignsUptoCard

/-- THE SECOND FORM's CARD OF 'glideslopelaw01.RecordKeys'. -/
def recordKeysUptoCard : Claim7 := { stood := { row := recordKeysUptoRow, standIns := [], harness := (true, "15a0d773a6ebe6758f99c3f62ec37010d4b91962ad477693bf575c4b2b1bdd9a"), looks := false }, kinds := [], alts := [], laidByText := true, laidKinds := [.data, .data, .data, .data, .data, .pinned], laidTests := true, laidLooks := .later }
def RecordKeysUptoCardSaid : Prop := Claim7.holds Tryz.pinned (.plain (OpenSpec.upto recordKeysSpec)) recordKeysUptoCard

/-- THE SECOND FORM's CARD OF 'glideslopelaw01.RecordStreams'. -/
def recordStreamsUptoCard : Claim7 := { stood := { row := recordStreamsUptoRow, standIns := [], harness := (true, "15a0d773a6ebe6758f99c3f62ec37010d4b91962ad477693bf575c4b2b1bdd9a"), looks := false }, kinds := [], alts := [], laidByText := true, laidKinds := [.data, .data, .data, .data, .data, .pinned], laidTests := true, laidLooks := .later }
def RecordStreamsUptoCardSaid : Prop := Claim7.holds Tryz.pinned (.plain (OpenSpec.upto recordStreamsSpec)) recordStreamsUptoCard

/-- THE SECOND FORM's CARD OF 'glideslopelaw01.RecordStrings'. -/
def recordStringsUptoCard : Claim7 := { stood := { row := recordStringsUptoRow, standIns := [], harness := (true, "15a0d773a6ebe6758f99c3f62ec37010d4b91962ad477693bf575c4b2b1bdd9a"), looks := false }, kinds := [], alts := [], laidByText := true, laidKinds := [.data, .data, .data, .data, .data, .pinned], laidTests := true, laidLooks := .later }
def RecordStringsUptoCardSaid : Prop := Claim7.holds Tryz.pinned (.plain (OpenSpec.upto recordStringsSpec)) recordStringsUptoCard
end Rows
end Go.Proofs.YtjgofnbfpoephaaGreatDoor
