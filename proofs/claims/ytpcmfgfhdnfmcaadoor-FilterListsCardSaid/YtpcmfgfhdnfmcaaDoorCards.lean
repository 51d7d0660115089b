/-
  DERIVED. GIVEN WITH THE SEED: THE CARDS: each row of YtpcmfgfhdnfmcaaDoorRows.lean that lists a variable, with what it lists TIED to the program's text (the seventh form; the later family's looks); each row that meets fmt, with fmt's text TOLD by the authors' own Lean function (tested against real Go, not proved from fmt's source: count such statements apart). THE CARD IS WHAT COUNTS. Prove the row's statement (the work); the ties are given (YtpcmfgfhdnfmcaaDoorTie.lean); close each card by the builder's one call (the guide's Derived/Test/ToyasCard.lean, 'card_holds'). Laid BY PROGRAM, IN A SANDBOX (cutbox-door.mjs). By AI agents, Wed Nov 11 2026. No macro, syntax, notation, axiom, sorry.
-/
import Derived.Test.YtpcmfgfhdnfmcaaDoorRows
import GoSem.ClaimSeven
namespace Go.Proofs.YtpcmfgfhdnfmcaaDoor
namespace Rows

/-- THE TIED CARD OF 'solsticelaw22.FilterExact'. -/
def filterExactCard : Claim7 := { stood := { row := filterExactRow, standIns := [], harness := (true, "594b0796591bce49bdacd8140569a9a28399b2ab2935aba595f1bb608893ae49"), looks := false }, kinds := [], alts := [], laidByText := true, laidKinds := [.data], laidTests := true, laidLooks := .later }
def FilterExactCardSaid : Prop := Claim7.holds Tryd.pinned (.plain (OpenSpec.ofChange filterExactSpec)) filterExactCard

/-- THE TIED CARD OF 'solsticelaw22.FilterSpans'. -/
def filterSpansCard : Claim7 := { stood := { row := filterSpansRow, standIns := [], harness := (true, "594b0796591bce49bdacd8140569a9a28399b2ab2935aba595f1bb608893ae49"), looks := false }, kinds := [], alts := [], laidByText := true, laidKinds := [.data], laidTests := true, laidLooks := .later }
def FilterSpansCardSaid : Prop := Claim7.holds Tryd.pinned (.plain (OpenSpec.ofChange filterSpansSpec)) filterSpansCard

/-- THE TIED CARD OF 'solsticelaw22.FilterLists'. -/
def filterListsCard : Claim7 := { stood := { row := filterListsRow, standIns := [], harness := (true, "594b0796591bce49bdacd8140569a9a28399b2ab2935aba595f1bb608893ae49"), looks := false }, kinds := [], alts := [], laidByText := true, laidKinds := [.data], laidTests := true, laidLooks := .later }
def FilterListsCardSaid : Prop := Claim7.holds Tryd.pinned (.plain (OpenSpec.ofChange filterListsSpec)) filterListsCard

/-- THE TIED CARD OF 'solsticelaw22.FilterDays'. -/
def filterDaysCard : Claim7 := { stood := { row := filterDaysRow, standIns := [], harness := (true, "594b0796591bce49bdacd8140569a9a28399b2ab2935aba595f1bb608893ae49"), looks := false }, kinds := [], alts := [], laidByText := true, laidKinds := [.data], laidTests := true, laidLooks := .later }
def FilterDaysCardSaid : Prop := Claim7.holds Tryd.pinned (.plain (OpenSpec.ofChange filterDaysSpec)) filterDaysCard

/-- THE TIED CARD OF 'solsticelaw22.FilterStarts'. -/
def filterStartsCard : Claim7 := { stood := { row := filterStartsRow, standIns := [], harness := (true, "594b0796591bce49bdacd8140569a9a28399b2ab2935aba595f1bb608893ae49"), looks := false }, kinds := [], alts := [], laidByText := true, laidKinds := [.data], laidTests := true, laidLooks := .later }
def FilterStartsCardSaid : Prop := Claim7.holds Tryd.pinned (.plain (OpenSpec.ofChange filterStartsSpec)) filterStartsCard

/-- THE TIED CARD OF 'solsticelaw22.FilterWeeks'. -/
def filterWeeksCard : Claim7 := { stood := { row := filterWeeksRow, standIns := [], harness := (true, "594b0796591bce49bdacd8140569a9a28399b2ab2935aba595f1bb608893ae49"), looks := false }, kinds := [], alts := [], laidByText := true, laidKinds := [.data], laidTests := true, laidLooks := .later }
def FilterWeeksCardSaid : Prop := Claim7.holds Tryd.pinned (.plain (OpenSpec.ofChange filterWeeksSpec)) filterWeeksCard

/-- THE SECOND FORM's CARD OF 'solsticelaw22.FilterExact'. -/
def filterExactUptoCard : Claim7 := { stood := { row := filterExactUptoRow, standIns := [], harness := (true, "594b0796591bce49bdacd8140569a9a28399b2ab2935aba595f1bb608893ae49"), looks := false }, kinds := [], alts := [], laidByText := true, laidKinds := [.data], laidTests := true, laidLooks := .later }
def FilterExactUptoCardSaid : Prop := Claim7.holds Tryd.pinned (.plain (OpenSpec.upto filterExactSpec)) filterExactUptoCard

/-- THE SECOND FORM's CARD OF 'solsticelaw22.FilterSpans'. -/
def filterSpansUptoCard : Claim7 := { stood := { row := filterSpansUptoRow, standIns := [], harness := (true, "594b0796591bce49bdacd8140569a9a28399b2ab2935aba595f1bb608893ae49"), looks := false }, kinds := [], alts := [], laidByText := true, laidKinds := [.data], laidTests := true, laidLooks := .later }
def FilterSpansUptoCardSaid : Prop := Claim7.holds Tryd.pinned (.plain (OpenSpec.upto filterSpansSpec)) filterSpansUptoCard

/-- THE SECOND FORM's CARD OF 'solsticelaw22.FilterLists'. -/
def filterListsUptoCard : Claim7 := { stood := { row := filterListsUptoRow, standIns := [], harness := (true, "594b0796591bce49bdacd8140569a9a28399b2ab2935aba595f1bb608893ae49"), looks := false }, kinds := [], alts := [], laidByText := true, laidKinds := [.data], laidTests := true, laidLooks := .later }
def FilterListsUptoCardSaid : Prop := Claim7.holds Tryd.pinned (.plain (OpenSpec.upto filterListsSpec)) filterListsUptoCard

/-- THE SECOND FORM's CARD OF 'solsticelaw22.FilterDays'. -/
def filterDaysUptoCard : Claim7 := { stood := { row := filterDaysUptoRow, standIns := [], harness := (true, "594b0796591bce49bdacd8140569a9a28399b2ab2935aba595f1bb608893ae49"), looks := false }, kinds := [], alts := [], laidByText := true, laidKinds := [.data], laidTests := true, laidLooks := .later }
def FilterDaysUptoCardSaid : Prop := Claim7.holds Tryd.pinned (.plain (OpenSpec.upto filterDaysSpec)) filterDaysUptoCard

/-- THE SECOND FORM's CARD OF 'solsticelaw22.FilterStarts'. -/
def filterStartsUptoCard : Claim7 := { stood := { row := filterStartsUptoRow, standIns := [], harness := (true, "594b0796591bce49bdacd8140569a9a28399b2ab2935aba595f1bb608893ae49"), looks := false }, kinds := [], alts := [], laidByText := true, laidKinds := [.data], laidTests := true, laidLooks := .later }
def FilterStartsUptoCardSaid : Prop := Claim7.holds Tryd.pinned (.plain (OpenSpec.upto filterStartsSpec)) filterStartsUptoCard

/-- THE SECOND FORM's CARD OF 'solsticelaw22.FilterWeeks'. -/
def filterWeeksUptoCard : Claim7 := { stood := { row := filterWeeksUptoRow, standIns := [], harness := (true, "594b0796591bce49bdacd8140569a9a28399b2ab2935aba595f1bb608893ae49"), looks := false }, kinds := [], alts := [], laidByText := true, laidKinds := [.data], laidTests := true, laidLooks := .later }
def FilterWeeksUptoCardSaid : Prop := Claim7.holds Tryd.pinned (.plain (OpenSpec.upto filterWeeksSpec)) filterWeeksUptoCard
end Rows
end Go.Proofs.YtpcmfgfhdnfmcaaDoor
