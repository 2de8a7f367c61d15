/-
  DERIVED. GIVEN WITH THE SEED: THE CARDS: each row of YtdglifjhkjdogaaGreatDoorRows.lean that lists a variable, with what it lists TIED to the program's text (the seventh form; the later family's looks); each row that meets fmt, with fmt's text TOLD by the authors' own Lean function (tested against real Go, not proved from fmt's source: count such statements apart). THE CARD IS WHAT COUNTS. Prove the row's statement (the work); the ties are given (YtdglifjhkjdogaaGreatDoorTie.lean); close each card by the builder's one call (the guide's Derived/Test/ToyasCard.lean, 'card_holds'). Laid BY PROGRAM, IN A SANDBOX (cutbox-door.mjs). By AI agents, Wed Nov 11 2026. No macro, syntax, notation, axiom, sorry.
-/
import Derived.Test.YtdglifjhkjdogaaGreatDoorRows
import GoSem.ClaimSeven
namespace Go.Proofs.YtdglifjhkjdogaaGreatDoor
namespace Rows

/-- THE TIED CARD OF 'glideslopelaw01.RecordAligns'. -/
def recordAlignsCard : Claim7 := { stood := { row := recordAlignsRow, standIns := [], harness := (true, "862761988436d9559e5e262aed802e43aabb033f5a4975fa88c87ccc759b7e9a"), looks := false }, kinds := [], alts := [], laidByText := true, laidKinds := [.data, .data, .data, .data, .data, .pinned], laidTests := true, laidLooks := .later }
def RecordAlignsCardSaid : Prop := Claim7.holds Tryz.pinned (.plain (OpenSpec.ofChange recordAlignsSpec)) recordAlignsCard

/-- THE TIED CARD OF 'glideslopelaw01.RecordKeys'. -/
def recordKeysCard : Claim7 := { stood := { row := recordKeysRow, standIns := [], harness := (true, "862761988436d9559e5e262aed802e43aabb033f5a4975fa88c87ccc759b7e9a"), looks := false }, kinds := [], alts := [], laidByText := true, laidKinds := [.data, .data, .data, .data, .data, .pinned], laidTests := true, laidLooks := .later }
def RecordKeysCardSaid : Prop := Claim7.holds Tryz.pinned (.plain (OpenSpec.ofChange recordKeysSpec)) recordKeysCard

/-- THE TIED CARD OF 'glideslopelaw01.RecordStrings'. -/
def recordStringsCard : Claim7 := { stood := { row := recordStringsRow, standIns := [], harness := (true, "862761988436d9559e5e262aed802e43aabb033f5a4975fa88c87ccc759b7e9a"), looks := false }, kinds := [], alts := [], laidByText := true, laidKinds := [.data, .data, .data, .data, .data, .pinned], laidTests := true, laidLooks := .later }
def RecordStringsCardSaid : Prop := Claim7.holds Tryz.pinned (.plain (OpenSpec.ofChange recordStringsSpec)) recordStringsCard

/-- THE TIED CARD OF 'glideslopelaw01.RecordTurns'. -/
def recordTurnsCard : Claim7 := { stood := { row := recordTurnsRow, standIns := [], harness := (true, "862761988436d9559e5e262aed802e43aabb033f5a4975fa88c87ccc759b7e9a"), looks := false }, kinds := [], alts := [], laidByText := true, laidKinds := [.data, .data, .data, .data, .data, .pinned], laidTests := true, laidLooks := .later }
def RecordTurnsCardSaid : Prop := Claim7.holds Tryz.pinned (.plain (OpenSpec.ofChange recordTurnsSpec)) recordTurnsCard

/-- THE TIED CARD OF 'glideslopelaw01.RecordCut'. -/
def recordCutCard : Claim7 := { stood := { row := recordCutRow, standIns := [], harness := (true, "862761988436d9559e5e262aed802e43aabb033f5a4975fa88c87ccc759b7e9a"), looks := false }, kinds := [], alts := [], laidByText := true, laidKinds := [.data, .data, .data, .data, .data, .pinned], laidTests := true, laidLooks := .later }
def RecordCutCardSaid : Prop := Claim7.holds Tryz.pinned (.plain (OpenSpec.ofChange recordCutSpec)) recordCutCard

/-- THE SECOND FORM's CARD OF 'glideslopelaw01.RecordAligns'. -/
def recordAlignsUptoCard : Claim7 := { stood := { row := recordAlignsUptoRow, standIns := [], harness := (true, "862761988436d9559e5e262aed802e43aabb033f5a4975fa88c87ccc759b7e9a"), looks := false }, kinds := [], alts := [], laidByText := true, laidKinds := [.data, .data, .data, .data, .data, .pinned], laidTests := true, laidLooks := .later }
def RecordAlignsUptoCardSaid : Prop := Claim7.holds Tryz.pinned (.plain (OpenSpec.upto recordAlignsSpec)) recordAlignsUptoCard

/-- THE SECOND FORM's CARD OF 'glideslopelaw01.RecordKeys'. -/
def recordKeysUptoCard : Claim7 := { stood := { row := recordKeysUptoRow, standIns := [], harness := (true, "862761988436d9559e5e262aed802e43aabb033f5a4975fa88c87ccc759b7e9a"), looks := false }, kinds := [], alts := [], laidByText := true, laidKinds := [.data, .data, .data, .data, .data, .pinned], laidTests := true, laidLooks := .later }
def RecordKeysUptoCardSaid : Prop := Claim7.holds Tryz.pinned (.plain (OpenSpec.upto recordKeysSpec)) recordKeysUptoCard

/-- THE SECOND FORM's CARD OF 'glideslopelaw01.RecordStrings'. -/
def recordStringsUptoCard : Claim7 := { stood := { row := recordStringsUptoRow, standIns := [], harness := (true, "862761988436d9559e5e262aed802e43aabb033f5a4975fa88c87ccc759b7e9a"), looks := false }, kinds := [], alts := [], laidByText := true, laidKinds := [.data, .data, .data, .data, .data, .pinned], laidTests := true, laidLooks := .later }
def RecordStringsUptoCardSaid : Prop := Claim7.holds Tryz.pinned (.plain (OpenSpec.upto recordStringsSpec)) recordStringsUptoCard

/-- THE SECOND FORM's CARD OF 'glideslopelaw01.RecordTurns'. -/
def recordTurnsUptoCard : Claim7 := { stood := { row := recordTurnsUptoRow, standIns := [], harness := (true, "862761988436d9559e5e262aed802e43aabb033f5a4975fa88c87ccc759b7e9a"), looks := false }, kinds := [], alts := [], laidByText := true, laidKinds := [.data, .data, .data, .data, .data, .pinned], laidTests := true, laidLooks := .later }
def RecordTurnsUptoCardSaid : Prop := Claim7.holds Tryz.pinned (.plain (OpenSpec.upto recordTurnsSpec)) recordTurnsUptoCard

/-- THE SECOND FORM's CARD OF 'glideslopelaw01.RecordCut'. -/
def recordCutUptoCard : Claim7 := { stood := { row := recordCutUptoRow, standIns := [], harness := (true, "862761988436d9559e5e262aed802e43aabb033f5a4975fa88c87ccc759b7e9a"), looks := false }, kinds := [], alts := [], laidByText := true, laidKinds := [.data, .data, .data, .data, .data, .pinned], laidTests := true, laidLooks := .later }
def RecordCutUptoCardSaid : Prop := Claim7.holds Tryz.pinned (.plain (OpenSpec.upto recordCutSpec)) recordCutUptoCard
end Rows
end Go.Proofs.YtdglifjhkjdogaaGreatDoor
