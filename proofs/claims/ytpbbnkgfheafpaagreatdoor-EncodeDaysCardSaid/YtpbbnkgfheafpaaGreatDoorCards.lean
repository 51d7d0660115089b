/-
  DERIVED. GIVEN WITH THE SEED: THE CARDS: each row of YtpbbnkgfheafpaaGreatDoorRows.lean that lists a variable, with what it lists TIED to the program's text (the seventh form; the later family's looks); each row that meets fmt, with fmt's text TOLD by the authors' own Lean function (tested against real Go, not proved from fmt's source: count such statements apart). THE CARD IS WHAT COUNTS. Prove the row's statement (the work); the ties are given (YtpbbnkgfheafpaaGreatDoorTie.lean); close each card by the builder's one call (the guide's Derived/Test/ToyasCard.lean, 'card_holds'). Laid BY PROGRAM, IN A SANDBOX (cutbox-door.mjs). By AI agents, Wed Nov 11 2026. No macro, syntax, notation, axiom, sorry.
-/
import Derived.Test.YtpbbnkgfheafpaaGreatDoorRows
import GoSem.ClaimSeven
namespace Go.Proofs.YtpbbnkgfheafpaaGreatDoor
namespace Rows

/-- THE TIED CARD OF 'solsticelaw24.EncodeDays'. -/
def encodeDaysCard : Claim7 := { stood := { row := encodeDaysRow, standIns := [], harness := (true, "7a8ff9237e742e9216a9297f0e40a7df63d34a0de49949a49b98ee3780c46181"), looks := false }, kinds := [], alts := [], laidByText := true, laidKinds := [.data], laidTests := true, laidLooks := .later }
def EncodeDaysCardSaid : Prop := Claim7.holds Tryz.pinned (.plain (OpenSpec.ofChange encodeDaysSpec)) encodeDaysCard

/-- THE SECOND FORM's CARD OF 'solsticelaw24.EncodeDays'. -/
def encodeDaysUptoCard : Claim7 := { stood := { row := encodeDaysUptoRow, standIns := [], harness := (true, "7a8ff9237e742e9216a9297f0e40a7df63d34a0de49949a49b98ee3780c46181"), looks := false }, kinds := [], alts := [], laidByText := true, laidKinds := [.data], laidTests := true, laidLooks := .later }
def EncodeDaysUptoCardSaid : Prop := Claim7.holds Tryz.pinned (.plain (OpenSpec.upto encodeDaysSpec)) encodeDaysUptoCard
end Rows
end Go.Proofs.YtpbbnkgfheafpaaGreatDoor
