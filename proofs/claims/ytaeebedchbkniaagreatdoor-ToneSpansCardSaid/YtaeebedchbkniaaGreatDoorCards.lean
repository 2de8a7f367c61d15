/-
  DERIVED. GIVEN WITH THE SEED: THE CARDS: each row of YtaeebedchbkniaaGreatDoorRows.lean that lists a variable, with what it lists TIED to the program's text (the seventh form; the later family's looks); each row that meets fmt, with fmt's text TOLD by the authors' own Lean function (tested against real Go, not proved from fmt's source: count such statements apart). THE CARD IS WHAT COUNTS. Prove the row's statement (the work); the ties are given (YtaeebedchbkniaaGreatDoorTie.lean); close each card by the builder's one call (the guide's Derived/Test/ToyasCard.lean, 'card_holds'). Laid BY PROGRAM, IN A SANDBOX (cutbox-door.mjs). By AI agents, Wed Nov 11 2026. No macro, syntax, notation, axiom, sorry.
-/
import Derived.Test.YtaeebedchbkniaaGreatDoorRows
import GoSem.ClaimSeven
namespace Go.Proofs.YtaeebedchbkniaaGreatDoor
namespace Rows

/-- THE TIED CARD OF 'glideslopelaw02.ToneReceivers'. -/
def toneReceiversCard : Claim7 := { stood := { row := toneReceiversRow, standIns := [], harness := (true, "245425b92c2d2344313491a6f89e9cda9048cda66730f6f031c368c4645be785"), looks := false }, kinds := [], alts := [], laidByText := true, laidKinds := [.data, .data, .data, .data, .data, .pinned], laidTests := true, laidLooks := .later }
def ToneReceiversCardSaid : Prop := Claim7.holds Tryz.pinned (.plain (OpenSpec.ofChange toneReceiversSpec)) toneReceiversCard

/-- THE TIED CARD OF 'glideslopelaw02.ToneSpans'. -/
def toneSpansCard : Claim7 := { stood := { row := toneSpansRow, standIns := [], harness := (true, "245425b92c2d2344313491a6f89e9cda9048cda66730f6f031c368c4645be785"), looks := false }, kinds := [], alts := [], laidByText := true, laidKinds := [.data, .data, .data, .data, .data, .pinned], laidTests := true, laidLooks := .later }
def ToneSpansCardSaid : Prop := Claim7.holds Tryz.pinned (.plain (OpenSpec.ofChange toneSpansSpec)) toneSpansCard

/-- THE TIED CARD OF 'glideslopelaw02.ToneStrings'. -/
def toneStringsCard : Claim7 := { stood := { row := toneStringsRow, standIns := [], harness := (true, "245425b92c2d2344313491a6f89e9cda9048cda66730f6f031c368c4645be785"), looks := false }, kinds := [], alts := [], laidByText := true, laidKinds := [.data, .data, .data, .data, .data, .pinned], laidTests := true, laidLooks := .later }
def ToneStringsCardSaid : Prop := Claim7.holds Tryz.pinned (.plain (OpenSpec.ofChange toneStringsSpec)) toneStringsCard

/-- THE TIED CARD OF 'glideslopelaw02.ToneFactors'. -/
def toneFactorsCard : Claim7 := { stood := { row := toneFactorsRow, standIns := [], harness := (true, "245425b92c2d2344313491a6f89e9cda9048cda66730f6f031c368c4645be785"), looks := false }, kinds := [], alts := [], laidByText := true, laidKinds := [.data, .data, .data, .data, .data, .pinned], laidTests := true, laidLooks := .later }
def ToneFactorsCardSaid : Prop := Claim7.holds Tryz.pinned (.plain (OpenSpec.ofChange toneFactorsSpec)) toneFactorsCard

/-- THE TIED CARD OF 'glideslopelaw02.ToneWithin'. -/
def toneWithinCard : Claim7 := { stood := { row := toneWithinRow, standIns := [], harness := (true, "245425b92c2d2344313491a6f89e9cda9048cda66730f6f031c368c4645be785"), looks := false }, kinds := [], alts := [], laidByText := true, laidKinds := [.data, .data, .data, .data, .data, .pinned], laidTests := true, laidLooks := .later }
def ToneWithinCardSaid : Prop := Claim7.holds Tryz.pinned (.plain (OpenSpec.ofChange toneWithinSpec)) toneWithinCard

/-- THE TIED CARD OF 'glideslopelaw02.ToneAgrees'. -/
def toneAgreesCard : Claim7 := { stood := { row := toneAgreesRow, standIns := [], harness := (true, "245425b92c2d2344313491a6f89e9cda9048cda66730f6f031c368c4645be785"), looks := false }, kinds := [], alts := [], laidByText := true, laidKinds := [.data, .data, .data, .data, .data, .pinned], laidTests := true, laidLooks := .later }
def ToneAgreesCardSaid : Prop := Claim7.holds Tryz.pinned (.plain (OpenSpec.ofChange toneAgreesSpec)) toneAgreesCard

/-- THE SECOND FORM's CARD OF 'glideslopelaw02.ToneReceivers'. -/
def toneReceiversUptoCard : Claim7 := { stood := { row := toneReceiversUptoRow, standIns := [], harness := (true, "245425b92c2d2344313491a6f89e9cda9048cda66730f6f031c368c4645be785"), looks := false }, kinds := [], alts := [], laidByText := true, laidKinds := [.data, .data, .data, .data, .data, .pinned], laidTests := true, laidLooks := .later }
def ToneReceiversUptoCardSaid : Prop := Claim7.holds Tryz.pinned (.plain (OpenSpec.upto toneReceiversSpec)) toneReceiversUptoCard

/-- THE SECOND FORM's CARD OF 'glideslopelaw02.ToneSpans'. -/
def toneSpansUptoCard : Claim7 := { stood := { row := toneSpansUptoRow, standIns := [], harness := (true, "245425b92c2d2344313491a6f89e9cda9048cda66730f6f031c368c4645be785"), looks := false }, kinds := [], alts := [], laidByText := true, laidKinds := [.data, .data, .data, .data, .data, .pinned], laidTests := true, laidLooks := .later }
def ToneSpansUptoCardSaid : Prop := Claim7.holds Tryz.pinned (.plain (OpenSpec.upto toneSpansSpec)) toneSpansUptoCard

/-- THE SECOND FORM's CARD OF 'glideslopelaw02.ToneStrings'. -/
def toneStringsUptoCard : Claim7 := { stood := { row := toneStringsUptoRow, standIns := [], harness := (true, "245425b92c2d2344313491a6f89e9cda9048cda66730f6f031c368c4645be785"), looks := false }, kinds := [], alts := [], laidByText := true, laidKinds := [.data, .data, .data, .data, .data, .pinned], laidTests := true, laidLooks := .later }
def ToneStringsUptoCardSaid : Prop := Claim7.holds Tryz.pinned (.plain (OpenSpec.upto toneStringsSpec)) toneStringsUptoCard

/-- THE SECOND FORM's CARD OF 'glideslopelaw02.ToneFactors'. -/
def toneFactorsUptoCard : Claim7 := { stood := { row := toneFactorsUptoRow, standIns := [], harness := (true, "245425b92c2d2344313491a6f89e9cda9048cda66730f6f031c368c4645be785"), looks := false }, kinds := [], alts := [], laidByText := true, laidKinds := [.data, .data, .data, .data, .data, .pinned], laidTests := true, laidLooks := .later }
def ToneFactorsUptoCardSaid : Prop := Claim7.holds Tryz.pinned (.plain (OpenSpec.upto toneFactorsSpec)) toneFactorsUptoCard

/-- THE SECOND FORM's CARD OF 'glideslopelaw02.ToneWithin'. -/
def toneWithinUptoCard : Claim7 := { stood := { row := toneWithinUptoRow, standIns := [], harness := (true, "245425b92c2d2344313491a6f89e9cda9048cda66730f6f031c368c4645be785"), looks := false }, kinds := [], alts := [], laidByText := true, laidKinds := [.data, .data, .data, .data, .data, .pinned], laidTests := true, laidLooks := .later }
def ToneWithinUptoCardSaid : Prop := Claim7.holds Tryz.pinned (.plain (OpenSpec.upto toneWithinSpec)) toneWithinUptoCard

/-- THE SECOND FORM's CARD OF 'glideslopelaw02.ToneAgrees'. -/
def toneAgreesUptoCard : Claim7 := { stood := { row := toneAgreesUptoRow, standIns := [], harness := (true, "245425b92c2d2344313491a6f89e9cda9048cda66730f6f031c368c4645be785"), looks := false }, kinds := [], alts := [], laidByText := true, laidKinds := [.data, .data, .data, .data, .data, .pinned], laidTests := true, laidLooks := .later }
def ToneAgreesUptoCardSaid : Prop := Claim7.holds Tryz.pinned (.plain (OpenSpec.upto toneAgreesSpec)) toneAgreesUptoCard
end Rows
end Go.Proofs.YtaeebedchbkniaaGreatDoor
