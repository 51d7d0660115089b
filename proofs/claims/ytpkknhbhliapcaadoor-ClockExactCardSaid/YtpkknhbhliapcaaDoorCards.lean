/-
  DERIVED. GIVEN WITH THE SEED: THE CARDS: each row of YtpkknhbhliapcaaDoorRows.lean that lists a variable, with what it lists TIED to the program's text (the seventh form; the later family's looks); each row that meets fmt, with fmt's text TOLD by the authors' own Lean function (tested against real Go, not proved from fmt's source: count such statements apart). THE CARD IS WHAT COUNTS. Prove the row's statement (the work); the ties are given (YtpkknhbhliapcaaDoorTie.lean); close each card by the builder's one call (the guide's Derived/Test/ToyasCard.lean, 'card_holds'). Laid BY PROGRAM, IN A SANDBOX (cutbox-door.mjs). By AI agents, Wed Nov 11 2026. No macro, syntax, notation, axiom, sorry.
-/
import Derived.Test.YtpkknhbhliapcaaDoorRows
import GoSem.ClaimSeven
namespace Go.Proofs.YtpkknhbhliapcaaDoor
namespace Rows

/-- THE TIED CARD OF 'solsticelaw02.CivilExact'. -/
def civilExactCard : Claim7 := { stood := { row := civilExactRow, standIns := [], harness := (true, "c52f31c072091a63ffecdb1c72e0c87d4352e14c7180d6ac12461456356d6bfd"), looks := false }, kinds := [], alts := [], laidByText := true, laidKinds := [.data], laidTests := true, laidLooks := .later }
def CivilExactCardSaid : Prop := Claim7.holds Tryd.pinned (.plain (OpenSpec.ofChange civilExactSpec)) civilExactCard

/-- THE TIED CARD OF 'solsticelaw03.WeekExact'. -/
def weekExactCard : Claim7 := { stood := { row := weekExactRow, standIns := [], harness := (true, "c52f31c072091a63ffecdb1c72e0c87d4352e14c7180d6ac12461456356d6bfd"), looks := false }, kinds := [], alts := [], laidByText := true, laidKinds := [.data], laidTests := true, laidLooks := .later }
def WeekExactCardSaid : Prop := Claim7.holds Tryd.pinned (.plain (OpenSpec.ofChange weekExactSpec)) weekExactCard

/-- THE TIED CARD OF 'solsticelaw03.WeekNth'. -/
def weekNthCard : Claim7 := { stood := { row := weekNthRow, standIns := [], harness := (true, "c52f31c072091a63ffecdb1c72e0c87d4352e14c7180d6ac12461456356d6bfd"), looks := false }, kinds := [], alts := [], laidByText := true, laidKinds := [.data], laidTests := true, laidLooks := .later }
def WeekNthCardSaid : Prop := Claim7.holds Tryd.pinned (.plain (OpenSpec.ofChange weekNthSpec)) weekNthCard

/-- THE TIED CARD OF 'solsticelaw04.ClockExact'. -/
def clockExactCard : Claim7 := { stood := { row := clockExactRow, standIns := [], harness := (true, "c52f31c072091a63ffecdb1c72e0c87d4352e14c7180d6ac12461456356d6bfd"), looks := false }, kinds := [], alts := [], laidByText := true, laidKinds := [.data, .data, .data], laidTests := true, laidLooks := .later }
def ClockExactCardSaid : Prop := Claim7.holds Tryd.pinned (.plain (OpenSpec.ofChange clockExactSpec)) clockExactCard

/-- THE TIED CARD OF 'solsticelaw04.ClockBack'. -/
def clockBackCard : Claim7 := { stood := { row := clockBackRow, standIns := [], harness := (true, "c52f31c072091a63ffecdb1c72e0c87d4352e14c7180d6ac12461456356d6bfd"), looks := false }, kinds := [], alts := [], laidByText := true, laidKinds := [.data, .data, .data], laidTests := true, laidLooks := .later }
def ClockBackCardSaid : Prop := Claim7.holds Tryd.pinned (.plain (OpenSpec.ofChange clockBackSpec)) clockBackCard

/-- THE TIED CARD OF 'solsticelaw04.ClockForms'. -/
def clockFormsCard : Claim7 := { stood := { row := clockFormsRow, standIns := [], harness := (true, "c52f31c072091a63ffecdb1c72e0c87d4352e14c7180d6ac12461456356d6bfd"), looks := false }, kinds := [], alts := [], laidByText := true, laidKinds := [.data, .data, .data], laidTests := true, laidLooks := .later }
def ClockFormsCardSaid : Prop := Claim7.holds Tryd.pinned (.plain (OpenSpec.ofChange clockFormsSpec)) clockFormsCard

/-- THE SECOND FORM's CARD OF 'solsticelaw02.CivilExact'. -/
def civilExactUptoCard : Claim7 := { stood := { row := civilExactUptoRow, standIns := [], harness := (true, "c52f31c072091a63ffecdb1c72e0c87d4352e14c7180d6ac12461456356d6bfd"), looks := false }, kinds := [], alts := [], laidByText := true, laidKinds := [.data], laidTests := true, laidLooks := .later }
def CivilExactUptoCardSaid : Prop := Claim7.holds Tryd.pinned (.plain (OpenSpec.upto civilExactSpec)) civilExactUptoCard

/-- THE SECOND FORM's CARD OF 'solsticelaw03.WeekExact'. -/
def weekExactUptoCard : Claim7 := { stood := { row := weekExactUptoRow, standIns := [], harness := (true, "c52f31c072091a63ffecdb1c72e0c87d4352e14c7180d6ac12461456356d6bfd"), looks := false }, kinds := [], alts := [], laidByText := true, laidKinds := [.data], laidTests := true, laidLooks := .later }
def WeekExactUptoCardSaid : Prop := Claim7.holds Tryd.pinned (.plain (OpenSpec.upto weekExactSpec)) weekExactUptoCard

/-- THE SECOND FORM's CARD OF 'solsticelaw03.WeekNth'. -/
def weekNthUptoCard : Claim7 := { stood := { row := weekNthUptoRow, standIns := [], harness := (true, "c52f31c072091a63ffecdb1c72e0c87d4352e14c7180d6ac12461456356d6bfd"), looks := false }, kinds := [], alts := [], laidByText := true, laidKinds := [.data], laidTests := true, laidLooks := .later }
def WeekNthUptoCardSaid : Prop := Claim7.holds Tryd.pinned (.plain (OpenSpec.upto weekNthSpec)) weekNthUptoCard

/-- THE SECOND FORM's CARD OF 'solsticelaw04.ClockExact'. -/
def clockExactUptoCard : Claim7 := { stood := { row := clockExactUptoRow, standIns := [], harness := (true, "c52f31c072091a63ffecdb1c72e0c87d4352e14c7180d6ac12461456356d6bfd"), looks := false }, kinds := [], alts := [], laidByText := true, laidKinds := [.data, .data, .data], laidTests := true, laidLooks := .later }
def ClockExactUptoCardSaid : Prop := Claim7.holds Tryd.pinned (.plain (OpenSpec.upto clockExactSpec)) clockExactUptoCard

/-- THE SECOND FORM's CARD OF 'solsticelaw04.ClockBack'. -/
def clockBackUptoCard : Claim7 := { stood := { row := clockBackUptoRow, standIns := [], harness := (true, "c52f31c072091a63ffecdb1c72e0c87d4352e14c7180d6ac12461456356d6bfd"), looks := false }, kinds := [], alts := [], laidByText := true, laidKinds := [.data, .data, .data], laidTests := true, laidLooks := .later }
def ClockBackUptoCardSaid : Prop := Claim7.holds Tryd.pinned (.plain (OpenSpec.upto clockBackSpec)) clockBackUptoCard

/-- THE SECOND FORM's CARD OF 'solsticelaw04.ClockForms'. -/
def clockFormsUptoCard : Claim7 := { stood := { row := clockFormsUptoRow, standIns := [], harness := (true, "c52f31c072091a63ffecdb1c72e0c87d4352e14c7180d6ac12461456356d6bfd"), looks := false }, kinds := [], alts := [], laidByText := true, laidKinds := [.data, .data, .data], laidTests := true, laidLooks := .later }
def ClockFormsUptoCardSaid : Prop := Claim7.holds Tryd.pinned (.plain (OpenSpec.upto clockFormsSpec)) clockFormsUptoCard
end Rows
end Go.Proofs.YtpkknhbhliapcaaDoor
