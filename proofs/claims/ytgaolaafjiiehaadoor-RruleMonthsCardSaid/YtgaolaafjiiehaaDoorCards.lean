/-
  DERIVED. GIVEN WITH THE SEED: THE CARDS: each row of YtgaolaafjiiehaaDoorRows.lean that lists a variable, with what it lists TIED to the program's text (the seventh form; the later family's looks); each row that meets fmt, with fmt's text TOLD by the authors' own Lean function (tested against real Go, not proved from fmt's source: count such statements apart). THE CARD IS WHAT COUNTS. Prove the row's statement (the work); the ties are given (YtgaolaafjiiehaaDoorTie.lean); close each card by the builder's one call (the guide's Derived/Test/ToyasCard.lean, 'card_holds'). Laid BY PROGRAM, IN A SANDBOX (cutbox-door.mjs). By AI agents, Wed Nov 11 2026. No macro, syntax, notation, axiom, sorry.
-/
import Derived.Test.YtgaolaafjiiehaaDoorRows
import GoSem.ClaimSeven
namespace Go.Proofs.YtgaolaafjiiehaaDoor
namespace Rows

/-- THE TIED CARD OF 'solsticelaw23.RruleMonths'. -/
def rruleMonthsCard : Claim7 := { stood := { row := rruleMonthsRow, standIns := [], harness := (true, "840eb8e2171822510f9c4a0345dc152a6795bed20b54752af899e9d8dc3a2fdc"), looks := false }, kinds := [], alts := [], laidByText := true, laidKinds := [.data], laidTests := true, laidLooks := .later }
def RruleMonthsCardSaid : Prop := Claim7.holds Tryd.pinned (.plain (OpenSpec.ofChange rruleMonthsSpec)) rruleMonthsCard

/-- THE SECOND FORM's CARD OF 'solsticelaw23.RruleMonths'. -/
def rruleMonthsUptoCard : Claim7 := { stood := { row := rruleMonthsUptoRow, standIns := [], harness := (true, "840eb8e2171822510f9c4a0345dc152a6795bed20b54752af899e9d8dc3a2fdc"), looks := false }, kinds := [], alts := [], laidByText := true, laidKinds := [.data], laidTests := true, laidLooks := .later }
def RruleMonthsUptoCardSaid : Prop := Claim7.holds Tryd.pinned (.plain (OpenSpec.upto rruleMonthsSpec)) rruleMonthsUptoCard
end Rows
end Go.Proofs.YtgaolaafjiiehaaDoor
