/-
  DERIVED. GIVEN WITH THE SEED: THE CARDS: each row of YthefgagmjamdkaaDoorRows.lean that lists a variable, with what it lists TIED to the program's text (the seventh form; the later family's looks); each row that meets fmt, with fmt's text TOLD by the authors' own Lean function (tested against real Go, not proved from fmt's source: count such statements apart). THE CARD IS WHAT COUNTS. Prove the row's statement (the work); the ties are given (YthefgagmjamdkaaDoorTie.lean); close each card by the builder's one call (the guide's Derived/Test/ToyasCard.lean, 'card_holds'). Laid BY PROGRAM, IN A SANDBOX (cutbox-door.mjs). By AI agents, Wed Nov 11 2026. No macro, syntax, notation, axiom, sorry.
-/
import Derived.Test.YthefgagmjamdkaaDoorRows
import GoSem.ClaimSeven
namespace Go.Proofs.YthefgagmjamdkaaDoor
namespace Rows

/-- THE TIED CARD OF 'solsticelaw13.OnsetExact'. -/
def onsetExactCard : Claim7 := { stood := { row := onsetExactRow, standIns := [], harness := (true, "085bf67f00f140807c7f619511b2e95f9dab57e7041dc97f94e0ec11207519a1"), looks := false }, kinds := [], alts := [], laidByText := true, laidKinds := [.data], laidTests := true, laidLooks := .later }
def OnsetExactCardSaid : Prop := Claim7.holds Tryd.pinned (.plain (OpenSpec.ofChange onsetExactSpec)) onsetExactCard

/-- THE TIED CARD OF 'solsticelaw13.OnsetRises'. -/
def onsetRisesCard : Claim7 := { stood := { row := onsetRisesRow, standIns := [], harness := (true, "085bf67f00f140807c7f619511b2e95f9dab57e7041dc97f94e0ec11207519a1"), looks := false }, kinds := [], alts := [], laidByText := true, laidKinds := [.data], laidTests := true, laidLooks := .later }
def OnsetRisesCardSaid : Prop := Claim7.holds Tryd.pinned (.plain (OpenSpec.ofChange onsetRisesSpec)) onsetRisesCard

/-- THE TIED CARD OF 'solsticelaw13.OnsetLater'. -/
def onsetLaterCard : Claim7 := { stood := { row := onsetLaterRow, standIns := [], harness := (true, "085bf67f00f140807c7f619511b2e95f9dab57e7041dc97f94e0ec11207519a1"), looks := false }, kinds := [], alts := [], laidByText := true, laidKinds := [.data], laidTests := true, laidLooks := .later }
def OnsetLaterCardSaid : Prop := Claim7.holds Tryd.pinned (.plain (OpenSpec.ofChange onsetLaterSpec)) onsetLaterCard

/-- THE TIED CARD OF 'solsticelaw13.OnsetLetters'. -/
def onsetLettersCard : Claim7 := { stood := { row := onsetLettersRow, standIns := [], harness := (true, "085bf67f00f140807c7f619511b2e95f9dab57e7041dc97f94e0ec11207519a1"), looks := false }, kinds := [], alts := [], laidByText := true, laidKinds := [.data], laidTests := true, laidLooks := .later }
def OnsetLettersCardSaid : Prop := Claim7.holds Tryd.pinned (.plain (OpenSpec.ofChange onsetLettersSpec)) onsetLettersCard

/-- THE SECOND FORM's CARD OF 'solsticelaw13.OnsetExact'. -/
def onsetExactUptoCard : Claim7 := { stood := { row := onsetExactUptoRow, standIns := [], harness := (true, "085bf67f00f140807c7f619511b2e95f9dab57e7041dc97f94e0ec11207519a1"), looks := false }, kinds := [], alts := [], laidByText := true, laidKinds := [.data], laidTests := true, laidLooks := .later }
def OnsetExactUptoCardSaid : Prop := Claim7.holds Tryd.pinned (.plain (OpenSpec.upto onsetExactSpec)) onsetExactUptoCard

/-- THE SECOND FORM's CARD OF 'solsticelaw13.OnsetRises'. -/
def onsetRisesUptoCard : Claim7 := { stood := { row := onsetRisesUptoRow, standIns := [], harness := (true, "085bf67f00f140807c7f619511b2e95f9dab57e7041dc97f94e0ec11207519a1"), looks := false }, kinds := [], alts := [], laidByText := true, laidKinds := [.data], laidTests := true, laidLooks := .later }
def OnsetRisesUptoCardSaid : Prop := Claim7.holds Tryd.pinned (.plain (OpenSpec.upto onsetRisesSpec)) onsetRisesUptoCard

/-- THE SECOND FORM's CARD OF 'solsticelaw13.OnsetLater'. -/
def onsetLaterUptoCard : Claim7 := { stood := { row := onsetLaterUptoRow, standIns := [], harness := (true, "085bf67f00f140807c7f619511b2e95f9dab57e7041dc97f94e0ec11207519a1"), looks := false }, kinds := [], alts := [], laidByText := true, laidKinds := [.data], laidTests := true, laidLooks := .later }
def OnsetLaterUptoCardSaid : Prop := Claim7.holds Tryd.pinned (.plain (OpenSpec.upto onsetLaterSpec)) onsetLaterUptoCard

/-- THE SECOND FORM's CARD OF 'solsticelaw13.OnsetLetters'. -/
def onsetLettersUptoCard : Claim7 := { stood := { row := onsetLettersUptoRow, standIns := [], harness := (true, "085bf67f00f140807c7f619511b2e95f9dab57e7041dc97f94e0ec11207519a1"), looks := false }, kinds := [], alts := [], laidByText := true, laidKinds := [.data], laidTests := true, laidLooks := .later }
def OnsetLettersUptoCardSaid : Prop := Claim7.holds Tryd.pinned (.plain (OpenSpec.upto onsetLettersSpec)) onsetLettersUptoCard
end Rows
end Go.Proofs.YthefgagmjamdkaaDoor
