/-
  DERIVED. GIVEN WITH THE SEED: THE CARDS: each row of YtfdamkiocefgmaaDoorRows.lean that lists a variable, with what it lists TIED to the program's text (the seventh form; the later family's looks); each row that meets fmt, with fmt's text TOLD by the authors' own Lean function (tested against real Go, not proved from fmt's source: count such statements apart). THE CARD IS WHAT COUNTS. Prove the row's statement (the work); the ties are given (YtfdamkiocefgmaaDoorTie.lean); close each card by the builder's one call (the guide's Derived/Test/ToyasCard.lean, 'card_holds'). Laid BY PROGRAM, IN A SANDBOX (cutbox-door.mjs). By AI agents, Wed Nov 11 2026. No macro, syntax, notation, axiom, sorry.
-/
import Derived.Test.YtfdamkiocefgmaaDoorRows
import GoSem.ClaimSeven
namespace Go.Proofs.YtfdamkiocefgmaaDoor
namespace Rows

/-- THE TIED CARD OF 'solsticelaw21.RecurBack'. -/
def recurBackCard : Claim7 := { stood := { row := recurBackRow, standIns := [], harness := (true, "e003f4ae47b21b383b98542b385585298126b55aa6775a2f012edbf22805d86d"), looks := false }, kinds := [], alts := [], laidByText := true, laidKinds := [.data, .data, .data, .data, .data, .data, .data, .pinned], laidTests := true, laidLooks := .later }
def RecurBackCardSaid : Prop := Claim7.holds Tryd.pinned (.plain (OpenSpec.ofChange recurBackSpec)) recurBackCard

/-- THE TIED CARD OF 'solsticelaw21.RecurKinds'. -/
def recurKindsCard : Claim7 := { stood := { row := recurKindsRow, standIns := [], harness := (true, "e003f4ae47b21b383b98542b385585298126b55aa6775a2f012edbf22805d86d"), looks := false }, kinds := [], alts := [], laidByText := true, laidKinds := [.data, .data, .data, .data, .data, .data, .data, .pinned], laidTests := true, laidLooks := .later }
def RecurKindsCardSaid : Prop := Claim7.holds Tryd.pinned (.plain (OpenSpec.ofChange recurKindsSpec)) recurKindsCard

/-- THE TIED CARD OF 'solsticelaw21.RecurBad'. -/
def recurBadCard : Claim7 := { stood := { row := recurBadRow, standIns := [], harness := (true, "e003f4ae47b21b383b98542b385585298126b55aa6775a2f012edbf22805d86d"), looks := false }, kinds := [], alts := [], laidByText := true, laidKinds := [.data, .data, .data, .data, .data, .data, .data, .pinned], laidTests := true, laidLooks := .later }
def RecurBadCardSaid : Prop := Claim7.holds Tryd.pinned (.plain (OpenSpec.ofChange recurBadSpec)) recurBadCard

/-- THE SECOND FORM's CARD OF 'solsticelaw21.RecurBack'. -/
def recurBackUptoCard : Claim7 := { stood := { row := recurBackUptoRow, standIns := [], harness := (true, "e003f4ae47b21b383b98542b385585298126b55aa6775a2f012edbf22805d86d"), looks := false }, kinds := [], alts := [], laidByText := true, laidKinds := [.data, .data, .data, .data, .data, .data, .data, .pinned], laidTests := true, laidLooks := .later }
def RecurBackUptoCardSaid : Prop := Claim7.holds Tryd.pinned (.plain (OpenSpec.upto recurBackSpec)) recurBackUptoCard

/-- THE SECOND FORM's CARD OF 'solsticelaw21.RecurKinds'. -/
def recurKindsUptoCard : Claim7 := { stood := { row := recurKindsUptoRow, standIns := [], harness := (true, "e003f4ae47b21b383b98542b385585298126b55aa6775a2f012edbf22805d86d"), looks := false }, kinds := [], alts := [], laidByText := true, laidKinds := [.data, .data, .data, .data, .data, .data, .data, .pinned], laidTests := true, laidLooks := .later }
def RecurKindsUptoCardSaid : Prop := Claim7.holds Tryd.pinned (.plain (OpenSpec.upto recurKindsSpec)) recurKindsUptoCard

/-- THE SECOND FORM's CARD OF 'solsticelaw21.RecurBad'. -/
def recurBadUptoCard : Claim7 := { stood := { row := recurBadUptoRow, standIns := [], harness := (true, "e003f4ae47b21b383b98542b385585298126b55aa6775a2f012edbf22805d86d"), looks := false }, kinds := [], alts := [], laidByText := true, laidKinds := [.data, .data, .data, .data, .data, .data, .data, .pinned], laidTests := true, laidLooks := .later }
def RecurBadUptoCardSaid : Prop := Claim7.holds Tryd.pinned (.plain (OpenSpec.upto recurBadSpec)) recurBadUptoCard
end Rows
end Go.Proofs.YtfdamkiocefgmaaDoor
