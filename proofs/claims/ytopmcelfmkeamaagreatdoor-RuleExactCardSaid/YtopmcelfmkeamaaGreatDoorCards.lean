/-
  DERIVED. GIVEN WITH THE SEED: THE CARDS: each row of YtopmcelfmkeamaaGreatDoorRows.lean that lists a variable, with what it lists TIED to the program's text (the seventh form; the later family's looks); each row that meets fmt, with fmt's text TOLD by the authors' own Lean function (tested against real Go, not proved from fmt's source: count such statements apart). THE CARD IS WHAT COUNTS. Prove the row's statement (the work); the ties are given (YtopmcelfmkeamaaGreatDoorTie.lean); close each card by the builder's one call (the guide's Derived/Test/ToyasCard.lean, 'card_holds'). Laid BY PROGRAM, IN A SANDBOX (cutbox-door.mjs). By AI agents, Wed Nov 11 2026. No macro, syntax, notation, axiom, sorry.
-/
import Derived.Test.YtopmcelfmkeamaaGreatDoorRows
import GoSem.ClaimSeven
namespace Go.Proofs.YtopmcelfmkeamaaGreatDoor
namespace Rows

/-- THE TIED CARD OF 'solsticelaw09.RuleExact'. -/
def ruleExactCard : Claim7 := { stood := { row := ruleExactRow, standIns := [], harness := (true, "c8fc44b2ae0fd9b6526854260a43591b719f4b24d5c2d556d2200d86bf53c8ca"), looks := false }, kinds := [], alts := [], laidByText := true, laidKinds := [.data, .data, .data], laidTests := true, laidLooks := .later }
def RuleExactCardSaid : Prop := Claim7.holds Tryz.pinned (.plain (OpenSpec.ofChange ruleExactSpec)) ruleExactCard

/-- THE TIED CARD OF 'solsticelaw10.ZoneExact'. -/
def zoneExactCard : Claim7 := { stood := { row := zoneExactRow, standIns := [], harness := (true, "c8fc44b2ae0fd9b6526854260a43591b719f4b24d5c2d556d2200d86bf53c8ca"), looks := false }, kinds := [], alts := [], laidByText := true, laidKinds := [.data, .data, .data, .data], laidTests := true, laidLooks := .later }
def ZoneExactCardSaid : Prop := Claim7.holds Tryz.pinned (.plain (OpenSpec.ofChange zoneExactSpec)) zoneExactCard

/-- THE TIED CARD OF 'solsticelaw10.ZoneBent'. -/
def zoneBentCard : Claim7 := { stood := { row := zoneBentRow, standIns := [], harness := (true, "c8fc44b2ae0fd9b6526854260a43591b719f4b24d5c2d556d2200d86bf53c8ca"), looks := false }, kinds := [], alts := [], laidByText := true, laidKinds := [.data, .data, .data, .data], laidTests := true, laidLooks := .later }
def ZoneBentCardSaid : Prop := Claim7.holds Tryz.pinned (.plain (OpenSpec.ofChange zoneBentSpec)) zoneBentCard

/-- THE SECOND FORM's CARD OF 'solsticelaw09.RuleExact'. -/
def ruleExactUptoCard : Claim7 := { stood := { row := ruleExactUptoRow, standIns := [], harness := (true, "c8fc44b2ae0fd9b6526854260a43591b719f4b24d5c2d556d2200d86bf53c8ca"), looks := false }, kinds := [], alts := [], laidByText := true, laidKinds := [.data, .data, .data], laidTests := true, laidLooks := .later }
def RuleExactUptoCardSaid : Prop := Claim7.holds Tryz.pinned (.plain (OpenSpec.upto ruleExactSpec)) ruleExactUptoCard

/-- THE SECOND FORM's CARD OF 'solsticelaw10.ZoneExact'. -/
def zoneExactUptoCard : Claim7 := { stood := { row := zoneExactUptoRow, standIns := [], harness := (true, "c8fc44b2ae0fd9b6526854260a43591b719f4b24d5c2d556d2200d86bf53c8ca"), looks := false }, kinds := [], alts := [], laidByText := true, laidKinds := [.data, .data, .data, .data], laidTests := true, laidLooks := .later }
def ZoneExactUptoCardSaid : Prop := Claim7.holds Tryz.pinned (.plain (OpenSpec.upto zoneExactSpec)) zoneExactUptoCard

/-- THE SECOND FORM's CARD OF 'solsticelaw10.ZoneBent'. -/
def zoneBentUptoCard : Claim7 := { stood := { row := zoneBentUptoRow, standIns := [], harness := (true, "c8fc44b2ae0fd9b6526854260a43591b719f4b24d5c2d556d2200d86bf53c8ca"), looks := false }, kinds := [], alts := [], laidByText := true, laidKinds := [.data, .data, .data, .data], laidTests := true, laidLooks := .later }
def ZoneBentUptoCardSaid : Prop := Claim7.holds Tryz.pinned (.plain (OpenSpec.upto zoneBentSpec)) zoneBentUptoCard
end Rows
end Go.Proofs.YtopmcelfmkeamaaGreatDoor
