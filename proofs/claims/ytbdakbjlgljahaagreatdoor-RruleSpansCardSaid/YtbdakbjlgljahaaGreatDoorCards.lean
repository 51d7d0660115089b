/-
  DERIVED. GIVEN WITH THE SEED: THE CARDS: each row of YtbdakbjlgljahaaGreatDoorRows.lean that lists a variable, with what it lists TIED to the program's text (the seventh form; the later family's looks); each row that meets fmt, with fmt's text TOLD by the authors' own Lean function (tested against real Go, not proved from fmt's source: count such statements apart). THE CARD IS WHAT COUNTS. Prove the row's statement (the work); the ties are given (YtbdakbjlgljahaaGreatDoorTie.lean); close each card by the builder's one call (the guide's Derived/Test/ToyasCard.lean, 'card_holds'). Laid BY PROGRAM, IN A SANDBOX (cutbox-door.mjs). By AI agents, Wed Nov 11 2026. No macro, syntax, notation, axiom, sorry.
-/
import Derived.Test.YtbdakbjlgljahaaGreatDoorRows
import GoSem.ClaimSeven
namespace Go.Proofs.YtbdakbjlgljahaaGreatDoor
namespace Rows

/-- THE TIED CARD OF 'solsticelaw23.RruleExact'. -/
def rruleExactCard : Claim7 := { stood := { row := rruleExactRow, standIns := [], harness := (true, "f9cf6a75cdd61562f89c3d2501859e1c404e419f372a8afabbf538f056e950a5"), looks := false }, kinds := [], alts := [], laidByText := true, laidKinds := [.data], laidTests := true, laidLooks := .later }
def RruleExactCardSaid : Prop := Claim7.holds Tryz.pinned (.plain (OpenSpec.ofChange rruleExactSpec)) rruleExactCard

/-- THE TIED CARD OF 'solsticelaw23.RruleLets'. -/
def rruleLetsCard : Claim7 := { stood := { row := rruleLetsRow, standIns := [], harness := (true, "f9cf6a75cdd61562f89c3d2501859e1c404e419f372a8afabbf538f056e950a5"), looks := false }, kinds := [], alts := [], laidByText := true, laidKinds := [.data], laidTests := true, laidLooks := .later }
def RruleLetsCardSaid : Prop := Claim7.holds Tryz.pinned (.plain (OpenSpec.ofChange rruleLetsSpec)) rruleLetsCard

/-- THE TIED CARD OF 'solsticelaw23.RruleAll'. -/
def rruleAllCard : Claim7 := { stood := { row := rruleAllRow, standIns := [], harness := (true, "f9cf6a75cdd61562f89c3d2501859e1c404e419f372a8afabbf538f056e950a5"), looks := false }, kinds := [], alts := [], laidByText := true, laidKinds := [.data], laidTests := true, laidLooks := .later }
def RruleAllCardSaid : Prop := Claim7.holds Tryz.pinned (.plain (OpenSpec.ofChange rruleAllSpec)) rruleAllCard

/-- THE TIED CARD OF 'solsticelaw23.RruleSpans'. -/
def rruleSpansCard : Claim7 := { stood := { row := rruleSpansRow, standIns := [], harness := (true, "f9cf6a75cdd61562f89c3d2501859e1c404e419f372a8afabbf538f056e950a5"), looks := false }, kinds := [], alts := [], laidByText := true, laidKinds := [.data], laidTests := true, laidLooks := .later }
def RruleSpansCardSaid : Prop := Claim7.holds Tryz.pinned (.plain (OpenSpec.ofChange rruleSpansSpec)) rruleSpansCard

/-- THE TIED CARD OF 'solsticelaw23.RrulePicks'. -/
def rrulePicksCard : Claim7 := { stood := { row := rrulePicksRow, standIns := [], harness := (true, "f9cf6a75cdd61562f89c3d2501859e1c404e419f372a8afabbf538f056e950a5"), looks := false }, kinds := [], alts := [], laidByText := true, laidKinds := [.data], laidTests := true, laidLooks := .later }
def RrulePicksCardSaid : Prop := Claim7.holds Tryz.pinned (.plain (OpenSpec.ofChange rrulePicksSpec)) rrulePicksCard

/-- THE TIED CARD OF 'solsticelaw23.RruleCosts'. -/
def rruleCostsCard : Claim7 := { stood := { row := rruleCostsRow, standIns := [], harness := (true, "f9cf6a75cdd61562f89c3d2501859e1c404e419f372a8afabbf538f056e950a5"), looks := false }, kinds := [], alts := [], laidByText := true, laidKinds := [.data], laidTests := true, laidLooks := .later }
def RruleCostsCardSaid : Prop := Claim7.holds Tryz.pinned (.plain (OpenSpec.ofChange rruleCostsSpec)) rruleCostsCard

/-- THE TIED CARD OF 'solsticelaw24.EncodeDays'. -/
def encodeDaysCard : Claim7 := { stood := { row := encodeDaysRow, standIns := [], harness := (true, "f9cf6a75cdd61562f89c3d2501859e1c404e419f372a8afabbf538f056e950a5"), looks := false }, kinds := [], alts := [], laidByText := true, laidKinds := [.data], laidTests := true, laidLooks := .later }
def EncodeDaysCardSaid : Prop := Claim7.holds Tryz.pinned (.plain (OpenSpec.ofChange encodeDaysSpec)) encodeDaysCard

/-- THE SECOND FORM's CARD OF 'solsticelaw23.RruleExact'. -/
def rruleExactUptoCard : Claim7 := { stood := { row := rruleExactUptoRow, standIns := [], harness := (true, "f9cf6a75cdd61562f89c3d2501859e1c404e419f372a8afabbf538f056e950a5"), looks := false }, kinds := [], alts := [], laidByText := true, laidKinds := [.data], laidTests := true, laidLooks := .later }
def RruleExactUptoCardSaid : Prop := Claim7.holds Tryz.pinned (.plain (OpenSpec.upto rruleExactSpec)) rruleExactUptoCard

/-- THE SECOND FORM's CARD OF 'solsticelaw23.RruleLets'. -/
def rruleLetsUptoCard : Claim7 := { stood := { row := rruleLetsUptoRow, standIns := [], harness := (true, "f9cf6a75cdd61562f89c3d2501859e1c404e419f372a8afabbf538f056e950a5"), looks := false }, kinds := [], alts := [], laidByText := true, laidKinds := [.data], laidTests := true, laidLooks := .later }
def RruleLetsUptoCardSaid : Prop := Claim7.holds Tryz.pinned (.plain (OpenSpec.upto rruleLetsSpec)) rruleLetsUptoCard

/-- THE SECOND FORM's CARD OF 'solsticelaw23.RruleAll'. -/
def rruleAllUptoCard : Claim7 := { stood := { row := rruleAllUptoRow, standIns := [], harness := (true, "f9cf6a75cdd61562f89c3d2501859e1c404e419f372a8afabbf538f056e950a5"), looks := false }, kinds := [], alts := [], laidByText := true, laidKinds := [.data], laidTests := true, laidLooks := .later }
def RruleAllUptoCardSaid : Prop := Claim7.holds Tryz.pinned (.plain (OpenSpec.upto rruleAllSpec)) rruleAllUptoCard

/-- THE SECOND FORM's CARD OF 'solsticelaw23.RruleSpans'. -/
def rruleSpansUptoCard : Claim7 := { stood := { row := rruleSpansUptoRow, standIns := [], harness := (true, "f9cf6a75cdd61562f89c3d2501859e1c404e419f372a8afabbf538f056e950a5"), looks := false }, kinds := [], alts := [], laidByText := true, laidKinds := [.data], laidTests := true, laidLooks := .later }
def RruleSpansUptoCardSaid : Prop := Claim7.holds Tryz.pinned (.plain (OpenSpec.upto rruleSpansSpec)) rruleSpansUptoCard

/-- THE SECOND FORM's CARD OF 'solsticelaw23.RrulePicks'. -/
def rrulePicksUptoCard : Claim7 := { stood := { row := rrulePicksUptoRow, standIns := [], harness := (true, "f9cf6a75cdd61562f89c3d2501859e1c404e419f372a8afabbf538f056e950a5"), looks := false }, kinds := [], alts := [], laidByText := true, laidKinds := [.data], laidTests := true, laidLooks := .later }
def RrulePicksUptoCardSaid : Prop := Claim7.holds Tryz.pinned (.plain (OpenSpec.upto rrulePicksSpec)) rrulePicksUptoCard

/-- THE SECOND FORM's CARD OF 'solsticelaw23.RruleCosts'. -/
def rruleCostsUptoCard : Claim7 := { stood := { row := rruleCostsUptoRow, standIns := [], harness := (true, "f9cf6a75cdd61562f89c3d2501859e1c404e419f372a8afabbf538f056e950a5"), looks := false }, kinds := [], alts := [], laidByText := true, laidKinds := [.data], laidTests := true, laidLooks := .later }
def RruleCostsUptoCardSaid : Prop := Claim7.holds Tryz.pinned (.plain (OpenSpec.upto rruleCostsSpec)) rruleCostsUptoCard

/-- THE SECOND FORM's CARD OF 'solsticelaw24.EncodeDays'. -/
def encodeDaysUptoCard : Claim7 := { stood := { row := encodeDaysUptoRow, standIns := [], harness := (true, "f9cf6a75cdd61562f89c3d2501859e1c404e419f372a8afabbf538f056e950a5"), looks := false }, kinds := [], alts := [], laidByText := true, laidKinds := [.data], laidTests := true, laidLooks := .later }
def EncodeDaysUptoCardSaid : Prop := Claim7.holds Tryz.pinned (.plain (OpenSpec.upto encodeDaysSpec)) encodeDaysUptoCard
end Rows
end Go.Proofs.YtbdakbjlgljahaaGreatDoor
