/-
  DERIVED. GIVEN WITH THE SEED: THE CARDS: each row of YtbdakbjlgljahaaDoorRows.lean that lists a variable, with what it lists TIED to the program's text (the seventh form; the later family's looks); each row that meets fmt, with fmt's text TOLD by the authors' own Lean function (tested against real Go, not proved from fmt's source: count such statements apart). THE CARD IS WHAT COUNTS. Prove the row's statement (the work); the ties are given (YtbdakbjlgljahaaDoorTie.lean); close each card by the builder's one call (the guide's Derived/Test/ToyasCard.lean, 'card_holds'). Laid BY PROGRAM, IN A SANDBOX (cutbox-door.mjs). By AI agents, Wed Nov 11 2026. No macro, syntax, notation, axiom, sorry.
-/
import Derived.Test.YtbdakbjlgljahaaDoorRows
import GoSem.ClaimSeven
namespace Go.Proofs.YtbdakbjlgljahaaDoor
namespace Rows

/-- THE TIED CARD OF 'solsticelaw23.RruleDays'. -/
def rruleDaysCard : Claim7 := { stood := { row := rruleDaysRow, standIns := [], harness := (true, "9f3c226943fa986eae9ac2040aeca12fa71440c950f6427be25222921e1656b9"), looks := false }, kinds := [], alts := [], laidByText := true, laidKinds := [.data], laidTests := true, laidLooks := .later }
def RruleDaysCardSaid : Prop := Claim7.holds Tryd.pinned (.plain (OpenSpec.ofChange rruleDaysSpec)) rruleDaysCard

/-- THE TIED CARD OF 'solsticelaw23.RruleMonths'. -/
def rruleMonthsCard : Claim7 := { stood := { row := rruleMonthsRow, standIns := [], harness := (true, "9f3c226943fa986eae9ac2040aeca12fa71440c950f6427be25222921e1656b9"), looks := false }, kinds := [], alts := [], laidByText := true, laidKinds := [.data], laidTests := true, laidLooks := .later }
def RruleMonthsCardSaid : Prop := Claim7.holds Tryd.pinned (.plain (OpenSpec.ofChange rruleMonthsSpec)) rruleMonthsCard

/-- THE TIED CARD OF 'solsticelaw23.RruleUntil'. -/
def rruleUntilCard : Claim7 := { stood := { row := rruleUntilRow, standIns := [], harness := (true, "9f3c226943fa986eae9ac2040aeca12fa71440c950f6427be25222921e1656b9"), looks := false }, kinds := [], alts := [], laidByText := true, laidKinds := [.data], laidTests := true, laidLooks := .later }
def RruleUntilCardSaid : Prop := Claim7.holds Tryd.pinned (.plain (OpenSpec.ofChange rruleUntilSpec)) rruleUntilCard

/-- THE SECOND FORM's CARD OF 'solsticelaw23.RruleDays'. -/
def rruleDaysUptoCard : Claim7 := { stood := { row := rruleDaysUptoRow, standIns := [], harness := (true, "9f3c226943fa986eae9ac2040aeca12fa71440c950f6427be25222921e1656b9"), looks := false }, kinds := [], alts := [], laidByText := true, laidKinds := [.data], laidTests := true, laidLooks := .later }
def RruleDaysUptoCardSaid : Prop := Claim7.holds Tryd.pinned (.plain (OpenSpec.upto rruleDaysSpec)) rruleDaysUptoCard

/-- THE SECOND FORM's CARD OF 'solsticelaw23.RruleMonths'. -/
def rruleMonthsUptoCard : Claim7 := { stood := { row := rruleMonthsUptoRow, standIns := [], harness := (true, "9f3c226943fa986eae9ac2040aeca12fa71440c950f6427be25222921e1656b9"), looks := false }, kinds := [], alts := [], laidByText := true, laidKinds := [.data], laidTests := true, laidLooks := .later }
def RruleMonthsUptoCardSaid : Prop := Claim7.holds Tryd.pinned (.plain (OpenSpec.upto rruleMonthsSpec)) rruleMonthsUptoCard

/-- THE SECOND FORM's CARD OF 'solsticelaw23.RruleUntil'. -/
def rruleUntilUptoCard : Claim7 := { stood := { row := rruleUntilUptoRow, standIns := [], harness := (true, "9f3c226943fa986eae9ac2040aeca12fa71440c950f6427be25222921e1656b9"), looks := false }, kinds := [], alts := [], laidByText := true, laidKinds := [.data], laidTests := true, laidLooks := .later }
def RruleUntilUptoCardSaid : Prop := Claim7.holds Tryd.pinned (.plain (OpenSpec.upto rruleUntilSpec)) rruleUntilUptoCard
end Rows
end Go.Proofs.YtbdakbjlgljahaaDoor
