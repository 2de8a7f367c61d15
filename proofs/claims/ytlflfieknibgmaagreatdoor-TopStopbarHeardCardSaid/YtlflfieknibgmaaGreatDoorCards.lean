/-
  DERIVED. GIVEN WITH THE SEED: THE CARDS: each row of YtlflfieknibgmaaGreatDoorRows.lean that lists a variable, with what it lists TIED to the program's text (the seventh form; the later family's looks); each row that meets fmt, with fmt's text TOLD by the authors' own Lean function (tested against real Go, not proved from fmt's source: count such statements apart). THE CARD IS WHAT COUNTS. Prove the row's statement (the work); the ties are given (YtlflfieknibgmaaGreatDoorTie.lean); close each card by the builder's one call (the guide's Derived/Test/ToyasCard.lean, 'card_holds'). Laid BY PROGRAM, IN A SANDBOX (cutbox-door.mjs). By AI agents, Wed Nov 11 2026. No macro, syntax, notation, axiom, sorry.
-/
import Derived.Test.YtlflfieknibgmaaGreatDoorRows
import GoSem.ClaimSeven
namespace Go.Proofs.YtlflfieknibgmaaGreatDoor
namespace Rows

/-- THE TIED CARD OF 'glideslopetop.TopStopbarHeard'. -/
def topStopbarHeardCard : Claim7 := { stood := { row := topStopbarHeardRow, standIns := [], harness := (true, "1eec39ee0376191dcd784bf6a0a9815c124fa533206afc92e9c3109f1a2aa280"), looks := false }, kinds := [], alts := [], laidByText := true, laidKinds := [.data, .data, .data, .data], laidTests := true, laidLooks := .later }
def TopStopbarHeardCardSaid : Prop := Claim7.holds Tryz.pinned (.plain (OpenSpec.ofChange topStopbarHeardSpec)) topStopbarHeardCard

/-- THE TIED CARD OF 'glideslopetop.TopStopbarSampled'. -/
def topStopbarSampledCard : Claim7 := { stood := { row := topStopbarSampledRow, standIns := [], harness := (true, "1eec39ee0376191dcd784bf6a0a9815c124fa533206afc92e9c3109f1a2aa280"), looks := false }, kinds := [], alts := [], laidByText := true, laidKinds := [.data, .data, .data, .data, .pinned], laidTests := true, laidLooks := .later }
def TopStopbarSampledCardSaid : Prop := Claim7.holds Tryz.pinned (.plain (OpenSpec.ofChange topStopbarSampledSpec)) topStopbarSampledCard

/-- THE SECOND FORM's CARD OF 'glideslopetop.TopStopbarHeard'. -/
def topStopbarHeardUptoCard : Claim7 := { stood := { row := topStopbarHeardUptoRow, standIns := [], harness := (true, "1eec39ee0376191dcd784bf6a0a9815c124fa533206afc92e9c3109f1a2aa280"), looks := false }, kinds := [], alts := [], laidByText := true, laidKinds := [.data, .data, .data, .data], laidTests := true, laidLooks := .later }
def TopStopbarHeardUptoCardSaid : Prop := Claim7.holds Tryz.pinned (.plain (OpenSpec.upto topStopbarHeardSpec)) topStopbarHeardUptoCard

/-- THE SECOND FORM's CARD OF 'glideslopetop.TopStopbarSampled'. -/
def topStopbarSampledUptoCard : Claim7 := { stood := { row := topStopbarSampledUptoRow, standIns := [], harness := (true, "1eec39ee0376191dcd784bf6a0a9815c124fa533206afc92e9c3109f1a2aa280"), looks := false }, kinds := [], alts := [], laidByText := true, laidKinds := [.data, .data, .data, .data, .pinned], laidTests := true, laidLooks := .later }
def TopStopbarSampledUptoCardSaid : Prop := Claim7.holds Tryz.pinned (.plain (OpenSpec.upto topStopbarSampledSpec)) topStopbarSampledUptoCard
end Rows
end Go.Proofs.YtlflfieknibgmaaGreatDoor
