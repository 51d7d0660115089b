/-
  DERIVED. GIVEN WITH THE SEED: THE CARDS: each row of YtbeefhmnoihmcaaGreatDoorRows.lean that lists a variable, with what it lists TIED to the program's text (the seventh form; the later family's looks); each row that meets fmt, with fmt's text TOLD by the authors' own Lean function (tested against real Go, not proved from fmt's source: count such statements apart). THE CARD IS WHAT COUNTS. Prove the row's statement (the work); the ties are given (YtbeefhmnoihmcaaGreatDoorTie.lean); close each card by the builder's one call (the guide's Derived/Test/ToyasCard.lean, 'card_holds'). Laid BY PROGRAM, IN A SANDBOX (cutbox-door.mjs). By AI agents, Wed Nov 11 2026. No macro, syntax, notation, axiom, sorry.
-/
import Derived.Test.YtbeefhmnoihmcaaGreatDoorRows
import GoSem.ClaimSeven
namespace Go.Proofs.YtbeefhmnoihmcaaGreatDoor
namespace Rows

/-- THE TIED CARD OF 'solsticelaw21.RecurBent'. -/
def recurBentCard : Claim7 := { stood := { row := recurBentRow, standIns := [], harness := (true, "a446035e3045f8d53aade72e9165131089723472f891faea477bc4d1a6b4fc62"), looks := false }, kinds := [], alts := [], laidByText := true, laidKinds := [.data, .data, .data, .data, .data, .data, .data, .pinned], laidTests := true, laidLooks := .later }
def RecurBentCardSaid : Prop := Claim7.holds Tryz.pinned (.plain (OpenSpec.ofChange recurBentSpec)) recurBentCard

/-- THE TIED CARD OF 'solsticelaw21.RecurCase'. -/
def recurCaseCard : Claim7 := { stood := { row := recurCaseRow, standIns := [], harness := (true, "a446035e3045f8d53aade72e9165131089723472f891faea477bc4d1a6b4fc62"), looks := false }, kinds := [], alts := [], laidByText := true, laidKinds := [.data, .data, .data, .data, .data, .data, .data, .pinned], laidTests := true, laidLooks := .later }
def RecurCaseCardSaid : Prop := Claim7.holds Tryz.pinned (.plain (OpenSpec.ofChange recurCaseSpec)) recurCaseCard

/-- THE SECOND FORM's CARD OF 'solsticelaw21.RecurBent'. -/
def recurBentUptoCard : Claim7 := { stood := { row := recurBentUptoRow, standIns := [], harness := (true, "a446035e3045f8d53aade72e9165131089723472f891faea477bc4d1a6b4fc62"), looks := false }, kinds := [], alts := [], laidByText := true, laidKinds := [.data, .data, .data, .data, .data, .data, .data, .pinned], laidTests := true, laidLooks := .later }
def RecurBentUptoCardSaid : Prop := Claim7.holds Tryz.pinned (.plain (OpenSpec.upto recurBentSpec)) recurBentUptoCard

/-- THE SECOND FORM's CARD OF 'solsticelaw21.RecurCase'. -/
def recurCaseUptoCard : Claim7 := { stood := { row := recurCaseUptoRow, standIns := [], harness := (true, "a446035e3045f8d53aade72e9165131089723472f891faea477bc4d1a6b4fc62"), looks := false }, kinds := [], alts := [], laidByText := true, laidKinds := [.data, .data, .data, .data, .data, .data, .data, .pinned], laidTests := true, laidLooks := .later }
def RecurCaseUptoCardSaid : Prop := Claim7.holds Tryz.pinned (.plain (OpenSpec.upto recurCaseSpec)) recurCaseUptoCard
end Rows
end Go.Proofs.YtbeefhmnoihmcaaGreatDoor
