/-
  DERIVED. GIVEN WITH THE SEED: THE CARDS: each row of YtjdniebjhilooaaGreatDoorRows.lean that lists a variable, with what it lists TIED to the program's text (the seventh form; the later family's looks); each row that meets fmt, with fmt's text TOLD by the authors' own Lean function (tested against real Go, not proved from fmt's source: count such statements apart). THE CARD IS WHAT COUNTS. Prove the row's statement (the work); the ties are given (YtjdniebjhilooaaGreatDoorTie.lean); close each card by the builder's one call (the guide's Derived/Test/ToyasCard.lean, 'card_holds'). Laid BY PROGRAM, IN A SANDBOX (cutbox-door.mjs). By AI agents, Wed Nov 11 2026. No macro, syntax, notation, axiom, sorry.
-/
import Derived.Test.YtjdniebjhilooaaGreatDoorRows
import GoSem.ClaimSeven
namespace Go.Proofs.YtjdniebjhilooaaGreatDoor
namespace Rows

/-- THE TIED CARD OF 'glideslopelaw01.RecordStrings'. -/
def recordStringsCard : Claim7 := { stood := { row := recordStringsRow, standIns := [], harness := (true, "a25e774cc78a5ac4c357c00a0d1b8c31aa29279e6c53ea2ea6ac5d16bfbed2f7"), looks := false }, kinds := [], alts := [], laidByText := true, laidKinds := [.data, .data, .data, .data, .data, .pinned], laidTests := true, laidLooks := .later }
def RecordStringsCardSaid : Prop := Claim7.holds Tryz.pinned (.plain (OpenSpec.ofChange recordStringsSpec)) recordStringsCard

/-- THE TIED CARD OF 'glideslopelaw01.RecordFound'. -/
def recordFoundCard : Claim7 := { stood := { row := recordFoundRow, standIns := [], harness := (true, "a25e774cc78a5ac4c357c00a0d1b8c31aa29279e6c53ea2ea6ac5d16bfbed2f7"), looks := false }, kinds := [], alts := [], laidByText := true, laidKinds := [.data, .data, .data, .data, .data, .pinned], laidTests := true, laidLooks := .later }
def RecordFoundCardSaid : Prop := Claim7.holds Tryz.pinned (.plain (OpenSpec.ofChange recordFoundSpec)) recordFoundCard

/-- THE TIED CARD OF 'glideslopelaw01.RecordHeard'. -/
def recordHeardCard : Claim7 := { stood := { row := recordHeardRow, standIns := [], harness := (true, "a25e774cc78a5ac4c357c00a0d1b8c31aa29279e6c53ea2ea6ac5d16bfbed2f7"), looks := false }, kinds := [], alts := [], laidByText := true, laidKinds := [.data, .data, .data, .data, .data, .pinned], laidTests := true, laidLooks := .later }
def RecordHeardCardSaid : Prop := Claim7.holds Tryz.pinned (.plain (OpenSpec.ofChange recordHeardSpec)) recordHeardCard

/-- THE TIED CARD OF 'glideslopelaw01.RecordBack'. -/
def recordBackCard : Claim7 := { stood := { row := recordBackRow, standIns := [], harness := (true, "a25e774cc78a5ac4c357c00a0d1b8c31aa29279e6c53ea2ea6ac5d16bfbed2f7"), looks := false }, kinds := [], alts := [], laidByText := true, laidKinds := [.data, .data, .data, .data, .data, .pinned], laidTests := true, laidLooks := .later }
def RecordBackCardSaid : Prop := Claim7.holds Tryz.pinned (.plain (OpenSpec.ofChange recordBackSpec)) recordBackCard

/-- THE SECOND FORM's CARD OF 'glideslopelaw01.RecordStrings'. -/
def recordStringsUptoCard : Claim7 := { stood := { row := recordStringsUptoRow, standIns := [], harness := (true, "a25e774cc78a5ac4c357c00a0d1b8c31aa29279e6c53ea2ea6ac5d16bfbed2f7"), looks := false }, kinds := [], alts := [], laidByText := true, laidKinds := [.data, .data, .data, .data, .data, .pinned], laidTests := true, laidLooks := .later }
def RecordStringsUptoCardSaid : Prop := Claim7.holds Tryz.pinned (.plain (OpenSpec.upto recordStringsSpec)) recordStringsUptoCard

/-- THE SECOND FORM's CARD OF 'glideslopelaw01.RecordFound'. -/
def recordFoundUptoCard : Claim7 := { stood := { row := recordFoundUptoRow, standIns := [], harness := (true, "a25e774cc78a5ac4c357c00a0d1b8c31aa29279e6c53ea2ea6ac5d16bfbed2f7"), looks := false }, kinds := [], alts := [], laidByText := true, laidKinds := [.data, .data, .data, .data, .data, .pinned], laidTests := true, laidLooks := .later }
def RecordFoundUptoCardSaid : Prop := Claim7.holds Tryz.pinned (.plain (OpenSpec.upto recordFoundSpec)) recordFoundUptoCard

/-- THE SECOND FORM's CARD OF 'glideslopelaw01.RecordHeard'. -/
def recordHeardUptoCard : Claim7 := { stood := { row := recordHeardUptoRow, standIns := [], harness := (true, "a25e774cc78a5ac4c357c00a0d1b8c31aa29279e6c53ea2ea6ac5d16bfbed2f7"), looks := false }, kinds := [], alts := [], laidByText := true, laidKinds := [.data, .data, .data, .data, .data, .pinned], laidTests := true, laidLooks := .later }
def RecordHeardUptoCardSaid : Prop := Claim7.holds Tryz.pinned (.plain (OpenSpec.upto recordHeardSpec)) recordHeardUptoCard

/-- THE SECOND FORM's CARD OF 'glideslopelaw01.RecordBack'. -/
def recordBackUptoCard : Claim7 := { stood := { row := recordBackUptoRow, standIns := [], harness := (true, "a25e774cc78a5ac4c357c00a0d1b8c31aa29279e6c53ea2ea6ac5d16bfbed2f7"), looks := false }, kinds := [], alts := [], laidByText := true, laidKinds := [.data, .data, .data, .data, .data, .pinned], laidTests := true, laidLooks := .later }
def RecordBackUptoCardSaid : Prop := Claim7.holds Tryz.pinned (.plain (OpenSpec.upto recordBackSpec)) recordBackUptoCard
end Rows
end Go.Proofs.YtjdniebjhilooaaGreatDoor
