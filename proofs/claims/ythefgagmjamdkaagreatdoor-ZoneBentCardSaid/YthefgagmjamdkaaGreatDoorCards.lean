/-
  DERIVED. GIVEN WITH THE SEED: THE CARDS: each row of YthefgagmjamdkaaGreatDoorRows.lean that lists a variable, with what it lists TIED to the program's text (the seventh form; the later family's looks); each row that meets fmt, with fmt's text TOLD by the authors' own Lean function (tested against real Go, not proved from fmt's source: count such statements apart). THE CARD IS WHAT COUNTS. Prove the row's statement (the work); the ties are given (YthefgagmjamdkaaGreatDoorTie.lean); close each card by the builder's one call (the guide's Derived/Test/ToyasCard.lean, 'card_holds'). Laid BY PROGRAM, IN A SANDBOX (cutbox-door.mjs). By AI agents, Wed Nov 11 2026. No macro, syntax, notation, axiom, sorry.
-/
import Derived.Test.YthefgagmjamdkaaGreatDoorRows
import GoSem.ClaimSeven
namespace Go.Proofs.YthefgagmjamdkaaGreatDoor
namespace Rows

/-- THE TIED CARD OF 'solsticelaw10.ZoneExact'. -/
def zoneExactCard : Claim7 := { stood := { row := zoneExactRow, standIns := [], harness := (true, "2f017e9886e5cbc8257c12f8c65b45a5ae0ea875d2ccdfa3927a2066d7a89407"), looks := false }, kinds := [], alts := [], laidByText := true, laidKinds := [.data, .data, .data, .data], laidTests := true, laidLooks := .later }
def ZoneExactCardSaid : Prop := Claim7.holds Tryz.pinned (.plain (OpenSpec.ofChange zoneExactSpec)) zoneExactCard

/-- THE TIED CARD OF 'solsticelaw10.ZoneBent'. -/
def zoneBentCard : Claim7 := { stood := { row := zoneBentRow, standIns := [], harness := (true, "2f017e9886e5cbc8257c12f8c65b45a5ae0ea875d2ccdfa3927a2066d7a89407"), looks := false }, kinds := [], alts := [], laidByText := true, laidKinds := [.data, .data, .data, .data], laidTests := true, laidLooks := .later }
def ZoneBentCardSaid : Prop := Claim7.holds Tryz.pinned (.plain (OpenSpec.ofChange zoneBentSpec)) zoneBentCard

/-- THE SECOND FORM's CARD OF 'solsticelaw10.ZoneExact'. -/
def zoneExactUptoCard : Claim7 := { stood := { row := zoneExactUptoRow, standIns := [], harness := (true, "2f017e9886e5cbc8257c12f8c65b45a5ae0ea875d2ccdfa3927a2066d7a89407"), looks := false }, kinds := [], alts := [], laidByText := true, laidKinds := [.data, .data, .data, .data], laidTests := true, laidLooks := .later }
def ZoneExactUptoCardSaid : Prop := Claim7.holds Tryz.pinned (.plain (OpenSpec.upto zoneExactSpec)) zoneExactUptoCard

/-- THE SECOND FORM's CARD OF 'solsticelaw10.ZoneBent'. -/
def zoneBentUptoCard : Claim7 := { stood := { row := zoneBentUptoRow, standIns := [], harness := (true, "2f017e9886e5cbc8257c12f8c65b45a5ae0ea875d2ccdfa3927a2066d7a89407"), looks := false }, kinds := [], alts := [], laidByText := true, laidKinds := [.data, .data, .data, .data], laidTests := true, laidLooks := .later }
def ZoneBentUptoCardSaid : Prop := Claim7.holds Tryz.pinned (.plain (OpenSpec.upto zoneBentSpec)) zoneBentUptoCard
end Rows
end Go.Proofs.YthefgagmjamdkaaGreatDoor
