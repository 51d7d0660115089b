/-
  DERIVED. GIVEN WITH THE SEED: THE CARDS: each row of YtopclopmgnkoeabDoorRows.lean that lists a variable, with what it lists TIED to the program's text (the seventh form; the later family's looks); each row that meets fmt, with fmt's text TOLD by the authors' own Lean function (tested against real Go, not proved from fmt's source: count such statements apart). THE CARD IS WHAT COUNTS. Prove the row's statement (the work); the ties are given (YtopclopmgnkoeabDoorTie.lean); close each card by the builder's one call (the guide's Derived/Test/ToyasCard.lean, 'card_holds'). Laid BY PROGRAM, IN A SANDBOX (cutbox-door.mjs). By AI agents, Wed Nov 11 2026. No macro, syntax, notation, axiom, sorry.
-/
import Derived.Test.YtopclopmgnkoeabDoorRows
import GoSem.ClaimSeven
namespace Go.Proofs.YtopclopmgnkoeabDoor
namespace Rows

/-- THE TIED CARD OF 'solsticelaw03.WeekNth'. -/
def weekNthCard : Claim7 := { stood := { row := weekNthRow, standIns := [], harness := (true, "472784a6598ed7748f940309cbf576df9285ad1c9a68c8ec6f33b2af531b5ff2"), looks := false }, kinds := [], alts := [], laidByText := true, laidKinds := [.data], laidTests := true, laidLooks := .later }
def WeekNthCardSaid : Prop := Claim7.holds Tryd.pinned (.plain (OpenSpec.ofChange weekNthSpec)) weekNthCard

/-- THE TIED CARD OF 'solsticelaw03.WeekNumbers'. -/
def weekNumbersCard : Claim7 := { stood := { row := weekNumbersRow, standIns := [], harness := (true, "472784a6598ed7748f940309cbf576df9285ad1c9a68c8ec6f33b2af531b5ff2"), looks := false }, kinds := [], alts := [], laidByText := true, laidKinds := [.data], laidTests := true, laidLooks := .later }
def WeekNumbersCardSaid : Prop := Claim7.holds Tryd.pinned (.plain (OpenSpec.ofChange weekNumbersSpec)) weekNumbersCard

/-- THE TIED CARD OF 'solsticelaw03.WeekSame'. -/
def weekSameCard : Claim7 := { stood := { row := weekSameRow, standIns := [], harness := (true, "472784a6598ed7748f940309cbf576df9285ad1c9a68c8ec6f33b2af531b5ff2"), looks := false }, kinds := [], alts := [], laidByText := true, laidKinds := [.data], laidTests := true, laidLooks := .later }
def WeekSameCardSaid : Prop := Claim7.holds Tryd.pinned (.plain (OpenSpec.ofChange weekSameSpec)) weekSameCard

/-- THE TIED CARD OF 'solsticelaw03.WeekBad'. -/
def weekBadCard : Claim7 := { stood := { row := weekBadRow, standIns := [], harness := (true, "472784a6598ed7748f940309cbf576df9285ad1c9a68c8ec6f33b2af531b5ff2"), looks := false }, kinds := [], alts := [], laidByText := true, laidKinds := [.data], laidTests := true, laidLooks := .later }
def WeekBadCardSaid : Prop := Claim7.holds Tryd.pinned (.plain (OpenSpec.ofChange weekBadSpec)) weekBadCard

/-- THE TIED CARD OF 'solsticelaw04.ClockExact'. -/
def clockExactCard : Claim7 := { stood := { row := clockExactRow, standIns := [], harness := (true, "472784a6598ed7748f940309cbf576df9285ad1c9a68c8ec6f33b2af531b5ff2"), looks := false }, kinds := [], alts := [], laidByText := true, laidKinds := [.data, .data, .data], laidTests := true, laidLooks := .later }
def ClockExactCardSaid : Prop := Claim7.holds Tryd.pinned (.plain (OpenSpec.ofChange clockExactSpec)) clockExactCard

/-- THE TIED CARD OF 'solsticelaw04.ClockBack'. -/
def clockBackCard : Claim7 := { stood := { row := clockBackRow, standIns := [], harness := (true, "472784a6598ed7748f940309cbf576df9285ad1c9a68c8ec6f33b2af531b5ff2"), looks := false }, kinds := [], alts := [], laidByText := true, laidKinds := [.data, .data, .data], laidTests := true, laidLooks := .later }
def ClockBackCardSaid : Prop := Claim7.holds Tryd.pinned (.plain (OpenSpec.ofChange clockBackSpec)) clockBackCard

/-- THE TIED CARD OF 'solsticelaw04.ClockForms'. -/
def clockFormsCard : Claim7 := { stood := { row := clockFormsRow, standIns := [], harness := (true, "472784a6598ed7748f940309cbf576df9285ad1c9a68c8ec6f33b2af531b5ff2"), looks := false }, kinds := [], alts := [], laidByText := true, laidKinds := [.data, .data, .data], laidTests := true, laidLooks := .later }
def ClockFormsCardSaid : Prop := Claim7.holds Tryd.pinned (.plain (OpenSpec.ofChange clockFormsSpec)) clockFormsCard

/-- THE SECOND FORM's CARD OF 'solsticelaw03.WeekNth'. -/
def weekNthUptoCard : Claim7 := { stood := { row := weekNthUptoRow, standIns := [], harness := (true, "472784a6598ed7748f940309cbf576df9285ad1c9a68c8ec6f33b2af531b5ff2"), looks := false }, kinds := [], alts := [], laidByText := true, laidKinds := [.data], laidTests := true, laidLooks := .later }
def WeekNthUptoCardSaid : Prop := Claim7.holds Tryd.pinned (.plain (OpenSpec.upto weekNthSpec)) weekNthUptoCard

/-- THE SECOND FORM's CARD OF 'solsticelaw03.WeekNumbers'. -/
def weekNumbersUptoCard : Claim7 := { stood := { row := weekNumbersUptoRow, standIns := [], harness := (true, "472784a6598ed7748f940309cbf576df9285ad1c9a68c8ec6f33b2af531b5ff2"), looks := false }, kinds := [], alts := [], laidByText := true, laidKinds := [.data], laidTests := true, laidLooks := .later }
def WeekNumbersUptoCardSaid : Prop := Claim7.holds Tryd.pinned (.plain (OpenSpec.upto weekNumbersSpec)) weekNumbersUptoCard

/-- THE SECOND FORM's CARD OF 'solsticelaw03.WeekSame'. -/
def weekSameUptoCard : Claim7 := { stood := { row := weekSameUptoRow, standIns := [], harness := (true, "472784a6598ed7748f940309cbf576df9285ad1c9a68c8ec6f33b2af531b5ff2"), looks := false }, kinds := [], alts := [], laidByText := true, laidKinds := [.data], laidTests := true, laidLooks := .later }
def WeekSameUptoCardSaid : Prop := Claim7.holds Tryd.pinned (.plain (OpenSpec.upto weekSameSpec)) weekSameUptoCard

/-- THE SECOND FORM's CARD OF 'solsticelaw03.WeekBad'. -/
def weekBadUptoCard : Claim7 := { stood := { row := weekBadUptoRow, standIns := [], harness := (true, "472784a6598ed7748f940309cbf576df9285ad1c9a68c8ec6f33b2af531b5ff2"), looks := false }, kinds := [], alts := [], laidByText := true, laidKinds := [.data], laidTests := true, laidLooks := .later }
def WeekBadUptoCardSaid : Prop := Claim7.holds Tryd.pinned (.plain (OpenSpec.upto weekBadSpec)) weekBadUptoCard

/-- THE SECOND FORM's CARD OF 'solsticelaw04.ClockExact'. -/
def clockExactUptoCard : Claim7 := { stood := { row := clockExactUptoRow, standIns := [], harness := (true, "472784a6598ed7748f940309cbf576df9285ad1c9a68c8ec6f33b2af531b5ff2"), looks := false }, kinds := [], alts := [], laidByText := true, laidKinds := [.data, .data, .data], laidTests := true, laidLooks := .later }
def ClockExactUptoCardSaid : Prop := Claim7.holds Tryd.pinned (.plain (OpenSpec.upto clockExactSpec)) clockExactUptoCard

/-- THE SECOND FORM's CARD OF 'solsticelaw04.ClockBack'. -/
def clockBackUptoCard : Claim7 := { stood := { row := clockBackUptoRow, standIns := [], harness := (true, "472784a6598ed7748f940309cbf576df9285ad1c9a68c8ec6f33b2af531b5ff2"), looks := false }, kinds := [], alts := [], laidByText := true, laidKinds := [.data, .data, .data], laidTests := true, laidLooks := .later }
def ClockBackUptoCardSaid : Prop := Claim7.holds Tryd.pinned (.plain (OpenSpec.upto clockBackSpec)) clockBackUptoCard

/-- THE SECOND FORM's CARD OF 'solsticelaw04.ClockForms'. -/
def clockFormsUptoCard : Claim7 := { stood := { row := clockFormsUptoRow, standIns := [], harness := (true, "472784a6598ed7748f940309cbf576df9285ad1c9a68c8ec6f33b2af531b5ff2"), looks := false }, kinds := [], alts := [], laidByText := true, laidKinds := [.data, .data, .data], laidTests := true, laidLooks := .later }
def ClockFormsUptoCardSaid : Prop := Claim7.holds Tryd.pinned (.plain (OpenSpec.upto clockFormsSpec)) clockFormsUptoCard
end Rows
end Go.Proofs.YtopclopmgnkoeabDoor
