/-
  DERIVED. GIVEN WITH THE SEED: THE CARDS: each row of YtcaekblnioidiaaGreatDoorRows.lean that lists a variable, with what it lists TIED to the program's text (the seventh form; the later family's looks); each row that meets fmt, with fmt's text TOLD by the authors' own Lean function (tested against real Go, not proved from fmt's source: count such statements apart). THE CARD IS WHAT COUNTS. Prove the row's statement (the work); the ties are given (YtcaekblnioidiaaGreatDoorTie.lean); close each card by the builder's one call (the guide's Derived/Test/ToyasCard.lean, 'card_holds'). Laid BY PROGRAM, IN A SANDBOX (cutbox-door.mjs). By AI agents, Wed Nov 11 2026. No macro, syntax, notation, axiom, sorry.
-/
import Derived.Test.YtcaekblnioidiaaGreatDoorRows
import GoSem.ClaimSeven
namespace Go.Proofs.YtcaekblnioidiaaGreatDoor
namespace Rows

/-- THE TIED CARD OF 'glideslopelaw02.ToneDepths'. -/
def toneDepthsCard : Claim7 := { stood := { row := toneDepthsRow, standIns := [], harness := (true, "a6722952fad394c58580f2791ed38acc3c28687227eda0adeb268895a7a486f4"), looks := false }, kinds := [], alts := [], laidByText := true, laidKinds := [.data, .data, .data, .data, .data, .pinned], laidTests := true, laidLooks := .later }
def ToneDepthsCardSaid : Prop := Claim7.holds Tryz.pinned (.plain (OpenSpec.ofChange toneDepthsSpec)) toneDepthsCard

/-- THE TIED CARD OF 'glideslopelaw02.ToneChanges'. -/
def toneChangesCard : Claim7 := { stood := { row := toneChangesRow, standIns := [], harness := (true, "a6722952fad394c58580f2791ed38acc3c28687227eda0adeb268895a7a486f4"), looks := false }, kinds := [], alts := [], laidByText := true, laidKinds := [.data, .data, .data, .data, .data, .pinned], laidTests := true, laidLooks := .later }
def ToneChangesCardSaid : Prop := Claim7.holds Tryz.pinned (.plain (OpenSpec.ofChange toneChangesSpec)) toneChangesCard

/-- THE TIED CARD OF 'glideslopelaw02.ToneCaptures'. -/
def toneCapturesCard : Claim7 := { stood := { row := toneCapturesRow, standIns := [], harness := (true, "a6722952fad394c58580f2791ed38acc3c28687227eda0adeb268895a7a486f4"), looks := false }, kinds := [], alts := [], laidByText := true, laidKinds := [.data, .data, .data, .data, .data, .pinned], laidTests := true, laidLooks := .later }
def ToneCapturesCardSaid : Prop := Claim7.holds Tryz.pinned (.plain (OpenSpec.ofChange toneCapturesSpec)) toneCapturesCard

/-- THE TIED CARD OF 'glideslopelaw02.ToneIntervals'. -/
def toneIntervalsCard : Claim7 := { stood := { row := toneIntervalsRow, standIns := [], harness := (true, "a6722952fad394c58580f2791ed38acc3c28687227eda0adeb268895a7a486f4"), looks := false }, kinds := [], alts := [], laidByText := true, laidKinds := [.data, .data, .data, .data, .data, .pinned], laidTests := true, laidLooks := .later }
def ToneIntervalsCardSaid : Prop := Claim7.holds Tryz.pinned (.plain (OpenSpec.ofChange toneIntervalsSpec)) toneIntervalsCard

/-- THE TIED CARD OF 'glideslopelaw02.ToneStrings'. -/
def toneStringsCard : Claim7 := { stood := { row := toneStringsRow, standIns := [], harness := (true, "a6722952fad394c58580f2791ed38acc3c28687227eda0adeb268895a7a486f4"), looks := false }, kinds := [], alts := [], laidByText := true, laidKinds := [.data, .data, .data, .data, .data, .pinned], laidTests := true, laidLooks := .later }
def ToneStringsCardSaid : Prop := Claim7.holds Tryz.pinned (.plain (OpenSpec.ofChange toneStringsSpec)) toneStringsCard

/-- THE TIED CARD OF 'glideslopelaw02.ToneFactors'. -/
def toneFactorsCard : Claim7 := { stood := { row := toneFactorsRow, standIns := [], harness := (true, "a6722952fad394c58580f2791ed38acc3c28687227eda0adeb268895a7a486f4"), looks := false }, kinds := [], alts := [], laidByText := true, laidKinds := [.data, .data, .data, .data, .data, .pinned], laidTests := true, laidLooks := .later }
def ToneFactorsCardSaid : Prop := Claim7.holds Tryz.pinned (.plain (OpenSpec.ofChange toneFactorsSpec)) toneFactorsCard

/-- THE SECOND FORM's CARD OF 'glideslopelaw02.ToneDepths'. -/
def toneDepthsUptoCard : Claim7 := { stood := { row := toneDepthsUptoRow, standIns := [], harness := (true, "a6722952fad394c58580f2791ed38acc3c28687227eda0adeb268895a7a486f4"), looks := false }, kinds := [], alts := [], laidByText := true, laidKinds := [.data, .data, .data, .data, .data, .pinned], laidTests := true, laidLooks := .later }
def ToneDepthsUptoCardSaid : Prop := Claim7.holds Tryz.pinned (.plain (OpenSpec.upto toneDepthsSpec)) toneDepthsUptoCard

/-- THE SECOND FORM's CARD OF 'glideslopelaw02.ToneChanges'. -/
def toneChangesUptoCard : Claim7 := { stood := { row := toneChangesUptoRow, standIns := [], harness := (true, "a6722952fad394c58580f2791ed38acc3c28687227eda0adeb268895a7a486f4"), looks := false }, kinds := [], alts := [], laidByText := true, laidKinds := [.data, .data, .data, .data, .data, .pinned], laidTests := true, laidLooks := .later }
def ToneChangesUptoCardSaid : Prop := Claim7.holds Tryz.pinned (.plain (OpenSpec.upto toneChangesSpec)) toneChangesUptoCard

/-- THE SECOND FORM's CARD OF 'glideslopelaw02.ToneCaptures'. -/
def toneCapturesUptoCard : Claim7 := { stood := { row := toneCapturesUptoRow, standIns := [], harness := (true, "a6722952fad394c58580f2791ed38acc3c28687227eda0adeb268895a7a486f4"), looks := false }, kinds := [], alts := [], laidByText := true, laidKinds := [.data, .data, .data, .data, .data, .pinned], laidTests := true, laidLooks := .later }
def ToneCapturesUptoCardSaid : Prop := Claim7.holds Tryz.pinned (.plain (OpenSpec.upto toneCapturesSpec)) toneCapturesUptoCard

/-- THE SECOND FORM's CARD OF 'glideslopelaw02.ToneIntervals'. -/
def toneIntervalsUptoCard : Claim7 := { stood := { row := toneIntervalsUptoRow, standIns := [], harness := (true, "a6722952fad394c58580f2791ed38acc3c28687227eda0adeb268895a7a486f4"), looks := false }, kinds := [], alts := [], laidByText := true, laidKinds := [.data, .data, .data, .data, .data, .pinned], laidTests := true, laidLooks := .later }
def ToneIntervalsUptoCardSaid : Prop := Claim7.holds Tryz.pinned (.plain (OpenSpec.upto toneIntervalsSpec)) toneIntervalsUptoCard

/-- THE SECOND FORM's CARD OF 'glideslopelaw02.ToneStrings'. -/
def toneStringsUptoCard : Claim7 := { stood := { row := toneStringsUptoRow, standIns := [], harness := (true, "a6722952fad394c58580f2791ed38acc3c28687227eda0adeb268895a7a486f4"), looks := false }, kinds := [], alts := [], laidByText := true, laidKinds := [.data, .data, .data, .data, .data, .pinned], laidTests := true, laidLooks := .later }
def ToneStringsUptoCardSaid : Prop := Claim7.holds Tryz.pinned (.plain (OpenSpec.upto toneStringsSpec)) toneStringsUptoCard

/-- THE SECOND FORM's CARD OF 'glideslopelaw02.ToneFactors'. -/
def toneFactorsUptoCard : Claim7 := { stood := { row := toneFactorsUptoRow, standIns := [], harness := (true, "a6722952fad394c58580f2791ed38acc3c28687227eda0adeb268895a7a486f4"), looks := false }, kinds := [], alts := [], laidByText := true, laidKinds := [.data, .data, .data, .data, .data, .pinned], laidTests := true, laidLooks := .later }
def ToneFactorsUptoCardSaid : Prop := Claim7.holds Tryz.pinned (.plain (OpenSpec.upto toneFactorsSpec)) toneFactorsUptoCard
end Rows
end Go.Proofs.YtcaekblnioidiaaGreatDoor
