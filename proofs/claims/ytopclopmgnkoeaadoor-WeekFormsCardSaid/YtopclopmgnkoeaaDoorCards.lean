/-
  DERIVED. GIVEN WITH THE SEED: THE CARDS: each row of YtopclopmgnkoeaaDoorRows.lean that lists a variable, with what it lists TIED to the program's text (the seventh form; the later family's looks); each row that meets fmt, with fmt's text TOLD by the authors' own Lean function (tested against real Go, not proved from fmt's source: count such statements apart). THE CARD IS WHAT COUNTS. Prove the row's statement (the work); the ties are given (YtopclopmgnkoeaaDoorTie.lean); close each card by the builder's one call (the guide's Derived/Test/ToyasCard.lean, 'card_holds'). Laid BY PROGRAM, IN A SANDBOX (cutbox-door.mjs). By AI agents, Wed Nov 11 2026. No macro, syntax, notation, axiom, sorry.
-/
import Derived.Test.YtopclopmgnkoeaaDoorRows
import GoSem.ClaimSeven
namespace Go.Proofs.YtopclopmgnkoeaaDoor
namespace Rows

/-- THE TIED CARD OF 'solsticelaw01.NumExact'. -/
def numExactCard : Claim7 := { stood := { row := numExactRow, standIns := [], harness := (true, "55307bf1b17f4cbc55c10a14bb024c09c1e7951d0383093243cadf7086b3be3f"), looks := false }, kinds := [], alts := [], laidByText := true, laidKinds := [.data, .data, .data], laidTests := true, laidLooks := .later }
def NumExactCardSaid : Prop := Claim7.holds Tryd.pinned (.plain (OpenSpec.ofChange numExactSpec)) numExactCard

/-- THE TIED CARD OF 'solsticelaw01.NumBack'. -/
def numBackCard : Claim7 := { stood := { row := numBackRow, standIns := [], harness := (true, "55307bf1b17f4cbc55c10a14bb024c09c1e7951d0383093243cadf7086b3be3f"), looks := false }, kinds := [], alts := [], laidByText := true, laidKinds := [.data, .data, .data], laidTests := true, laidLooks := .later }
def NumBackCardSaid : Prop := Claim7.holds Tryd.pinned (.plain (OpenSpec.ofChange numBackSpec)) numBackCard

/-- THE TIED CARD OF 'solsticelaw01.NumTexts'. -/
def numTextsCard : Claim7 := { stood := { row := numTextsRow, standIns := [], harness := (true, "55307bf1b17f4cbc55c10a14bb024c09c1e7951d0383093243cadf7086b3be3f"), looks := false }, kinds := [], alts := [], laidByText := true, laidKinds := [.data, .data, .data], laidTests := true, laidLooks := .later }
def NumTextsCardSaid : Prop := Claim7.holds Tryd.pinned (.plain (OpenSpec.ofChange numTextsSpec)) numTextsCard

/-- THE TIED CARD OF 'solsticelaw01.NumEdges'. -/
def numEdgesCard : Claim7 := { stood := { row := numEdgesRow, standIns := [], harness := (true, "55307bf1b17f4cbc55c10a14bb024c09c1e7951d0383093243cadf7086b3be3f"), looks := false }, kinds := [], alts := [], laidByText := true, laidKinds := [.data, .data, .data], laidTests := true, laidLooks := .later }
def NumEdgesCardSaid : Prop := Claim7.holds Tryd.pinned (.plain (OpenSpec.ofChange numEdgesSpec)) numEdgesCard

/-- THE TIED CARD OF 'solsticelaw02.CivilExact'. -/
def civilExactCard : Claim7 := { stood := { row := civilExactRow, standIns := [], harness := (true, "55307bf1b17f4cbc55c10a14bb024c09c1e7951d0383093243cadf7086b3be3f"), looks := false }, kinds := [], alts := [], laidByText := true, laidKinds := [.data], laidTests := true, laidLooks := .later }
def CivilExactCardSaid : Prop := Claim7.holds Tryd.pinned (.plain (OpenSpec.ofChange civilExactSpec)) civilExactCard

/-- THE TIED CARD OF 'solsticelaw02.CivilBack'. -/
def civilBackCard : Claim7 := { stood := { row := civilBackRow, standIns := [], harness := (true, "55307bf1b17f4cbc55c10a14bb024c09c1e7951d0383093243cadf7086b3be3f"), looks := false }, kinds := [], alts := [], laidByText := true, laidKinds := [.data], laidTests := true, laidLooks := .later }
def CivilBackCardSaid : Prop := Claim7.holds Tryd.pinned (.plain (OpenSpec.ofChange civilBackSpec)) civilBackCard

/-- THE TIED CARD OF 'solsticelaw02.CivilYears'. -/
def civilYearsCard : Claim7 := { stood := { row := civilYearsRow, standIns := [], harness := (true, "55307bf1b17f4cbc55c10a14bb024c09c1e7951d0383093243cadf7086b3be3f"), looks := false }, kinds := [], alts := [], laidByText := true, laidKinds := [.data], laidTests := true, laidLooks := .later }
def CivilYearsCardSaid : Prop := Claim7.holds Tryd.pinned (.plain (OpenSpec.ofChange civilYearsSpec)) civilYearsCard

/-- THE TIED CARD OF 'solsticelaw02.CivilDays'. -/
def civilDaysCard : Claim7 := { stood := { row := civilDaysRow, standIns := [], harness := (true, "55307bf1b17f4cbc55c10a14bb024c09c1e7951d0383093243cadf7086b3be3f"), looks := false }, kinds := [], alts := [], laidByText := true, laidKinds := [.data], laidTests := true, laidLooks := .later }
def CivilDaysCardSaid : Prop := Claim7.holds Tryd.pinned (.plain (OpenSpec.ofChange civilDaysSpec)) civilDaysCard

/-- THE TIED CARD OF 'solsticelaw02.CivilBad'. -/
def civilBadCard : Claim7 := { stood := { row := civilBadRow, standIns := [], harness := (true, "55307bf1b17f4cbc55c10a14bb024c09c1e7951d0383093243cadf7086b3be3f"), looks := false }, kinds := [], alts := [], laidByText := true, laidKinds := [.data], laidTests := true, laidLooks := .later }
def CivilBadCardSaid : Prop := Claim7.holds Tryd.pinned (.plain (OpenSpec.ofChange civilBadSpec)) civilBadCard

/-- THE TIED CARD OF 'solsticelaw02.CivilMonths'. -/
def civilMonthsCard : Claim7 := { stood := { row := civilMonthsRow, standIns := [], harness := (true, "55307bf1b17f4cbc55c10a14bb024c09c1e7951d0383093243cadf7086b3be3f"), looks := false }, kinds := [], alts := [], laidByText := true, laidKinds := [.data], laidTests := true, laidLooks := .later }
def CivilMonthsCardSaid : Prop := Claim7.holds Tryd.pinned (.plain (OpenSpec.ofChange civilMonthsSpec)) civilMonthsCard

/-- THE TIED CARD OF 'solsticelaw03.WeekExact'. -/
def weekExactCard : Claim7 := { stood := { row := weekExactRow, standIns := [], harness := (true, "55307bf1b17f4cbc55c10a14bb024c09c1e7951d0383093243cadf7086b3be3f"), looks := false }, kinds := [], alts := [], laidByText := true, laidKinds := [.data], laidTests := true, laidLooks := .later }
def WeekExactCardSaid : Prop := Claim7.holds Tryd.pinned (.plain (OpenSpec.ofChange weekExactSpec)) weekExactCard

/-- THE TIED CARD OF 'solsticelaw03.WeekForms'. -/
def weekFormsCard : Claim7 := { stood := { row := weekFormsRow, standIns := [], harness := (true, "55307bf1b17f4cbc55c10a14bb024c09c1e7951d0383093243cadf7086b3be3f"), looks := false }, kinds := [], alts := [], laidByText := true, laidKinds := [.data], laidTests := true, laidLooks := .later }
def WeekFormsCardSaid : Prop := Claim7.holds Tryd.pinned (.plain (OpenSpec.ofChange weekFormsSpec)) weekFormsCard

/-- THE SECOND FORM's CARD OF 'solsticelaw01.NumExact'. -/
def numExactUptoCard : Claim7 := { stood := { row := numExactUptoRow, standIns := [], harness := (true, "55307bf1b17f4cbc55c10a14bb024c09c1e7951d0383093243cadf7086b3be3f"), looks := false }, kinds := [], alts := [], laidByText := true, laidKinds := [.data, .data, .data], laidTests := true, laidLooks := .later }
def NumExactUptoCardSaid : Prop := Claim7.holds Tryd.pinned (.plain (OpenSpec.upto numExactSpec)) numExactUptoCard

/-- THE SECOND FORM's CARD OF 'solsticelaw01.NumBack'. -/
def numBackUptoCard : Claim7 := { stood := { row := numBackUptoRow, standIns := [], harness := (true, "55307bf1b17f4cbc55c10a14bb024c09c1e7951d0383093243cadf7086b3be3f"), looks := false }, kinds := [], alts := [], laidByText := true, laidKinds := [.data, .data, .data], laidTests := true, laidLooks := .later }
def NumBackUptoCardSaid : Prop := Claim7.holds Tryd.pinned (.plain (OpenSpec.upto numBackSpec)) numBackUptoCard

/-- THE SECOND FORM's CARD OF 'solsticelaw01.NumTexts'. -/
def numTextsUptoCard : Claim7 := { stood := { row := numTextsUptoRow, standIns := [], harness := (true, "55307bf1b17f4cbc55c10a14bb024c09c1e7951d0383093243cadf7086b3be3f"), looks := false }, kinds := [], alts := [], laidByText := true, laidKinds := [.data, .data, .data], laidTests := true, laidLooks := .later }
def NumTextsUptoCardSaid : Prop := Claim7.holds Tryd.pinned (.plain (OpenSpec.upto numTextsSpec)) numTextsUptoCard

/-- THE SECOND FORM's CARD OF 'solsticelaw01.NumEdges'. -/
def numEdgesUptoCard : Claim7 := { stood := { row := numEdgesUptoRow, standIns := [], harness := (true, "55307bf1b17f4cbc55c10a14bb024c09c1e7951d0383093243cadf7086b3be3f"), looks := false }, kinds := [], alts := [], laidByText := true, laidKinds := [.data, .data, .data], laidTests := true, laidLooks := .later }
def NumEdgesUptoCardSaid : Prop := Claim7.holds Tryd.pinned (.plain (OpenSpec.upto numEdgesSpec)) numEdgesUptoCard

/-- THE SECOND FORM's CARD OF 'solsticelaw02.CivilExact'. -/
def civilExactUptoCard : Claim7 := { stood := { row := civilExactUptoRow, standIns := [], harness := (true, "55307bf1b17f4cbc55c10a14bb024c09c1e7951d0383093243cadf7086b3be3f"), looks := false }, kinds := [], alts := [], laidByText := true, laidKinds := [.data], laidTests := true, laidLooks := .later }
def CivilExactUptoCardSaid : Prop := Claim7.holds Tryd.pinned (.plain (OpenSpec.upto civilExactSpec)) civilExactUptoCard

/-- THE SECOND FORM's CARD OF 'solsticelaw02.CivilBack'. -/
def civilBackUptoCard : Claim7 := { stood := { row := civilBackUptoRow, standIns := [], harness := (true, "55307bf1b17f4cbc55c10a14bb024c09c1e7951d0383093243cadf7086b3be3f"), looks := false }, kinds := [], alts := [], laidByText := true, laidKinds := [.data], laidTests := true, laidLooks := .later }
def CivilBackUptoCardSaid : Prop := Claim7.holds Tryd.pinned (.plain (OpenSpec.upto civilBackSpec)) civilBackUptoCard

/-- THE SECOND FORM's CARD OF 'solsticelaw02.CivilYears'. -/
def civilYearsUptoCard : Claim7 := { stood := { row := civilYearsUptoRow, standIns := [], harness := (true, "55307bf1b17f4cbc55c10a14bb024c09c1e7951d0383093243cadf7086b3be3f"), looks := false }, kinds := [], alts := [], laidByText := true, laidKinds := [.data], laidTests := true, laidLooks := .later }
def CivilYearsUptoCardSaid : Prop := Claim7.holds Tryd.pinned (.plain (OpenSpec.upto civilYearsSpec)) civilYearsUptoCard

/-- THE SECOND FORM's CARD OF 'solsticelaw02.CivilDays'. -/
def civilDaysUptoCard : Claim7 := { stood := { row := civilDaysUptoRow, standIns := [], harness := (true, "55307bf1b17f4cbc55c10a14bb024c09c1e7951d0383093243cadf7086b3be3f"), looks := false }, kinds := [], alts := [], laidByText := true, laidKinds := [.data], laidTests := true, laidLooks := .later }
def CivilDaysUptoCardSaid : Prop := Claim7.holds Tryd.pinned (.plain (OpenSpec.upto civilDaysSpec)) civilDaysUptoCard

/-- THE SECOND FORM's CARD OF 'solsticelaw02.CivilBad'. -/
def civilBadUptoCard : Claim7 := { stood := { row := civilBadUptoRow, standIns := [], harness := (true, "55307bf1b17f4cbc55c10a14bb024c09c1e7951d0383093243cadf7086b3be3f"), looks := false }, kinds := [], alts := [], laidByText := true, laidKinds := [.data], laidTests := true, laidLooks := .later }
def CivilBadUptoCardSaid : Prop := Claim7.holds Tryd.pinned (.plain (OpenSpec.upto civilBadSpec)) civilBadUptoCard

/-- THE SECOND FORM's CARD OF 'solsticelaw02.CivilMonths'. -/
def civilMonthsUptoCard : Claim7 := { stood := { row := civilMonthsUptoRow, standIns := [], harness := (true, "55307bf1b17f4cbc55c10a14bb024c09c1e7951d0383093243cadf7086b3be3f"), looks := false }, kinds := [], alts := [], laidByText := true, laidKinds := [.data], laidTests := true, laidLooks := .later }
def CivilMonthsUptoCardSaid : Prop := Claim7.holds Tryd.pinned (.plain (OpenSpec.upto civilMonthsSpec)) civilMonthsUptoCard

/-- THE SECOND FORM's CARD OF 'solsticelaw03.WeekExact'. -/
def weekExactUptoCard : Claim7 := { stood := { row := weekExactUptoRow, standIns := [], harness := (true, "55307bf1b17f4cbc55c10a14bb024c09c1e7951d0383093243cadf7086b3be3f"), looks := false }, kinds := [], alts := [], laidByText := true, laidKinds := [.data], laidTests := true, laidLooks := .later }
def WeekExactUptoCardSaid : Prop := Claim7.holds Tryd.pinned (.plain (OpenSpec.upto weekExactSpec)) weekExactUptoCard

/-- THE SECOND FORM's CARD OF 'solsticelaw03.WeekForms'. -/
def weekFormsUptoCard : Claim7 := { stood := { row := weekFormsUptoRow, standIns := [], harness := (true, "55307bf1b17f4cbc55c10a14bb024c09c1e7951d0383093243cadf7086b3be3f"), looks := false }, kinds := [], alts := [], laidByText := true, laidKinds := [.data], laidTests := true, laidLooks := .later }
def WeekFormsUptoCardSaid : Prop := Claim7.holds Tryd.pinned (.plain (OpenSpec.upto weekFormsSpec)) weekFormsUptoCard
end Rows
end Go.Proofs.YtopclopmgnkoeaaDoor
