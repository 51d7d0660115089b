/-
  DERIVED. GIVEN WITH THE SEED: THE CARDS: each row of YtgaolaafjiiehaaGreatDoorRows.lean that lists a variable, with what it lists TIED to the program's text (the seventh form; the later family's looks); each row that meets fmt, with fmt's text TOLD by the authors' own Lean function (tested against real Go, not proved from fmt's source: count such statements apart). THE CARD IS WHAT COUNTS. Prove the row's statement (the work); the ties are given (YtgaolaafjiiehaaGreatDoorTie.lean); close each card by the builder's one call (the guide's Derived/Test/ToyasCard.lean, 'card_holds'). Laid BY PROGRAM, IN A SANDBOX (cutbox-door.mjs). By AI agents, Wed Nov 11 2026. No macro, syntax, notation, axiom, sorry.
-/
import Derived.Test.YtgaolaafjiiehaaGreatDoorRows
import GoSem.ClaimSeven
namespace Go.Proofs.YtgaolaafjiiehaaGreatDoor
namespace Rows

/-- THE TIED CARD OF 'solsticelaw23.RrulePicks'. -/
def rrulePicksCard : Claim7 := { stood := { row := rrulePicksRow, standIns := [], harness := (true, "e147eea280a28549cc1b45eb8a5797feeb527a6ea6b9a4718ab236b6c78e5e86"), looks := false }, kinds := [], alts := [], laidByText := true, laidKinds := [.data], laidTests := true, laidLooks := .later }
def RrulePicksCardSaid : Prop := Claim7.holds Tryz.pinned (.plain (OpenSpec.ofChange rrulePicksSpec)) rrulePicksCard

/-- THE SECOND FORM's CARD OF 'solsticelaw23.RrulePicks'. -/
def rrulePicksUptoCard : Claim7 := { stood := { row := rrulePicksUptoRow, standIns := [], harness := (true, "e147eea280a28549cc1b45eb8a5797feeb527a6ea6b9a4718ab236b6c78e5e86"), looks := false }, kinds := [], alts := [], laidByText := true, laidKinds := [.data], laidTests := true, laidLooks := .later }
def RrulePicksUptoCardSaid : Prop := Claim7.holds Tryz.pinned (.plain (OpenSpec.upto rrulePicksSpec)) rrulePicksUptoCard
end Rows
end Go.Proofs.YtgaolaafjiiehaaGreatDoor
