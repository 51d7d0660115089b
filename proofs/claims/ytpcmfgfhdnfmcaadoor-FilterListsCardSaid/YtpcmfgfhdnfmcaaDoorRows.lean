/-
  NARROWER THAN 'FOR EVERY INPUT', by the rows' own cells (each row's printed sentence says how): FilterExact: laid · FilterSpans: laid · FilterLists: laid · FilterDays: laid · FilterStarts: laid · FilterWeeks: laid.
  DERIVED. THE GIVEN ROWS OF THIS SEAT. 6 by the template 'for every input the law returns true; each argument reads behind the call as it read before'; 0 by the template 'total and deterministic' (their statements: YtpcmfgfhdnfmcaaDoorTotals.lean).
  GIVEN WITH THE SEED: the statements are not yours to turn. If you find one false, say at which input.
  Laid BY PROGRAM, IN A SANDBOX (cutbox-rows.mjs): the forced cells as the released guide's own fill.sh prints them over the translation 32c1d750ab7d7eff… (all of the seat's roots in one cut). By AI agents, Wed Nov 11 2026. No macro, syntax, notation, axiom, sorry.
-/
import Derived.Test.YtpcmfgfhdnfmcaaDoorChecked
import GoSem.Claim
import GoSem.ClaimJoined
import GoSem.ClaimMapViews
import Derived.JoinedTies
import Derived.KernelRfl
namespace Go.Proofs.YtpcmfgfhdnfmcaaDoor
/- THE CELL 'sum', in the pinned program and in every row, IS THE sha256 OF THE DUMP (.gsa) THAT YtpcmfgfhdnfmcaaDoorProg.lean LOADS. Nothing in Lean hashes anything: it is a label: what it is worth is what the hold of that sum in a sandbox is worth. -/
noncomputable def Tryd.pinned : Pinned := { name := "ytpcmfgfhdnfmcaadoor", sum := "32c1d750ab7d7eff6df9d88b9ebd182cc1142cbf2996c738790787c03eb7448a", checked := Tryd.checked }
namespace Rows
def none {H : Type} : Left H := { results := [], args := [] }

/- WHAT THE LISTED PACKAGE-LEVEL VARIABLES READ AS WHEN THE CALL BEGINS. Each datum BY PROGRAM (the guide's laid-datum.mjs) off the statement by which the dump's own 'gosem.cut.vars' lays the variable. In a bare row this is a premise. The card (YtpcmfgfhdnfmcaaDoorCards.lean) ties it to the program's text. -/
def laid_solstice_civil_ahead {H : Type} : DataW H := .agg [.lit (.int .i64 0), .lit (.int .i64 31), .lit (.int .i64 59), .lit (.int .i64 90), .lit (.int .i64 120), .lit (.int .i64 151), .lit (.int .i64 181), .lit (.int .i64 212), .lit (.int .i64 243), .lit (.int .i64 273), .lit (.int .i64 304), .lit (.int .i64 334)]

/-- 'solsticelaw22.FilterExact': WHATEVER THE INPUT: true; the input reads as it did. -/
def filterExactSpec : ChangeSpec := { name := "filterExact", fn := fun _ => fun
  | [d1, d2, d3, d4] => { results := [.lit (.bool true)], args := [d1, d2, d3, d4] }
  | _ => none }
def filterExactRow : OpenClaim := { program := "ytpcmfgfhdnfmcaadoor", sum := "32c1d750ab7d7eff6df9d88b9ebd182cc1142cbf2996c738790787c03eb7448a", func := "solstice/solsticelaw22.FilterExact", spec := "filterExact", named := ["solstice/civil.ahead"], apart := false, laid := [("solstice/civil.ahead", laid_solstice_civil_ahead)] }
def FilterExactSaid : Prop := filterExactRow.holds Tryd.pinned (OpenSpec.ofChange filterExactSpec)

/-- ITS FALSE NEIGHBOUR: 'it returns false'. Refute it at one input. -/
def filterExactWrong : ChangeSpec := { name := "filterExact", fn := fun _ => fun
  | [d1, d2, d3, d4] => { results := [.lit (.bool false)], args := [d1, d2, d3, d4] }
  | _ => none }
def FilterExactWrongFalsely : Prop := filterExactRow.holds Tryd.pinned (OpenSpec.ofChange filterExactWrong)

/-- 'solsticelaw22.FilterSpans': WHATEVER THE INPUT: true; the input reads as it did. -/
def filterSpansSpec : ChangeSpec := { name := "filterSpans", fn := fun _ => fun
  | [d1, d2, d3] => { results := [.lit (.bool true)], args := [d1, d2, d3] }
  | _ => none }
def filterSpansRow : OpenClaim := { program := "ytpcmfgfhdnfmcaadoor", sum := "32c1d750ab7d7eff6df9d88b9ebd182cc1142cbf2996c738790787c03eb7448a", func := "solstice/solsticelaw22.FilterSpans", spec := "filterSpans", named := ["solstice/civil.ahead"], apart := false, laid := [("solstice/civil.ahead", laid_solstice_civil_ahead)] }
def FilterSpansSaid : Prop := filterSpansRow.holds Tryd.pinned (OpenSpec.ofChange filterSpansSpec)

/-- ITS FALSE NEIGHBOUR: 'it returns false'. Refute it at one input. -/
def filterSpansWrong : ChangeSpec := { name := "filterSpans", fn := fun _ => fun
  | [d1, d2, d3] => { results := [.lit (.bool false)], args := [d1, d2, d3] }
  | _ => none }
def FilterSpansWrongFalsely : Prop := filterSpansRow.holds Tryd.pinned (OpenSpec.ofChange filterSpansWrong)

/-- 'solsticelaw22.FilterLists': WHATEVER THE INPUT: true; the input reads as it did. -/
def filterListsSpec : ChangeSpec := { name := "filterLists", fn := fun _ => fun
  | [d1, d2, d3, d4] => { results := [.lit (.bool true)], args := [d1, d2, d3, d4] }
  | _ => none }
def filterListsRow : OpenClaim := { program := "ytpcmfgfhdnfmcaadoor", sum := "32c1d750ab7d7eff6df9d88b9ebd182cc1142cbf2996c738790787c03eb7448a", func := "solstice/solsticelaw22.FilterLists", spec := "filterLists", named := ["solstice/civil.ahead"], apart := false, laid := [("solstice/civil.ahead", laid_solstice_civil_ahead)] }
def FilterListsSaid : Prop := filterListsRow.holds Tryd.pinned (OpenSpec.ofChange filterListsSpec)

/-- ITS FALSE NEIGHBOUR: 'it returns false'. Refute it at one input. -/
def filterListsWrong : ChangeSpec := { name := "filterLists", fn := fun _ => fun
  | [d1, d2, d3, d4] => { results := [.lit (.bool false)], args := [d1, d2, d3, d4] }
  | _ => none }
def FilterListsWrongFalsely : Prop := filterListsRow.holds Tryd.pinned (OpenSpec.ofChange filterListsWrong)

/-- 'solsticelaw22.FilterDays': WHATEVER THE INPUT: true; the input reads as it did. -/
def filterDaysSpec : ChangeSpec := { name := "filterDays", fn := fun _ => fun
  | [d1, d2, d3, d4] => { results := [.lit (.bool true)], args := [d1, d2, d3, d4] }
  | _ => none }
def filterDaysRow : OpenClaim := { program := "ytpcmfgfhdnfmcaadoor", sum := "32c1d750ab7d7eff6df9d88b9ebd182cc1142cbf2996c738790787c03eb7448a", func := "solstice/solsticelaw22.FilterDays", spec := "filterDays", named := ["solstice/civil.ahead"], apart := false, laid := [("solstice/civil.ahead", laid_solstice_civil_ahead)] }
def FilterDaysSaid : Prop := filterDaysRow.holds Tryd.pinned (OpenSpec.ofChange filterDaysSpec)

/-- ITS FALSE NEIGHBOUR: 'it returns false'. Refute it at one input. -/
def filterDaysWrong : ChangeSpec := { name := "filterDays", fn := fun _ => fun
  | [d1, d2, d3, d4] => { results := [.lit (.bool false)], args := [d1, d2, d3, d4] }
  | _ => none }
def FilterDaysWrongFalsely : Prop := filterDaysRow.holds Tryd.pinned (OpenSpec.ofChange filterDaysWrong)

/-- 'solsticelaw22.FilterStarts': WHATEVER THE INPUT: true; the input reads as it did. -/
def filterStartsSpec : ChangeSpec := { name := "filterStarts", fn := fun _ => fun
  | [d1, d2, d3] => { results := [.lit (.bool true)], args := [d1, d2, d3] }
  | _ => none }
def filterStartsRow : OpenClaim := { program := "ytpcmfgfhdnfmcaadoor", sum := "32c1d750ab7d7eff6df9d88b9ebd182cc1142cbf2996c738790787c03eb7448a", func := "solstice/solsticelaw22.FilterStarts", spec := "filterStarts", named := ["solstice/civil.ahead"], apart := false, laid := [("solstice/civil.ahead", laid_solstice_civil_ahead)] }
def FilterStartsSaid : Prop := filterStartsRow.holds Tryd.pinned (OpenSpec.ofChange filterStartsSpec)

/-- ITS FALSE NEIGHBOUR: 'it returns false'. Refute it at one input. -/
def filterStartsWrong : ChangeSpec := { name := "filterStarts", fn := fun _ => fun
  | [d1, d2, d3] => { results := [.lit (.bool false)], args := [d1, d2, d3] }
  | _ => none }
def FilterStartsWrongFalsely : Prop := filterStartsRow.holds Tryd.pinned (OpenSpec.ofChange filterStartsWrong)

/-- 'solsticelaw22.FilterWeeks': WHATEVER THE INPUT: true; the input reads as it did. -/
def filterWeeksSpec : ChangeSpec := { name := "filterWeeks", fn := fun _ => fun
  | [d1, d2, d3] => { results := [.lit (.bool true)], args := [d1, d2, d3] }
  | _ => none }
def filterWeeksRow : OpenClaim := { program := "ytpcmfgfhdnfmcaadoor", sum := "32c1d750ab7d7eff6df9d88b9ebd182cc1142cbf2996c738790787c03eb7448a", func := "solstice/solsticelaw22.FilterWeeks", spec := "filterWeeks", named := ["solstice/civil.ahead"], apart := false, laid := [("solstice/civil.ahead", laid_solstice_civil_ahead)] }
def FilterWeeksSaid : Prop := filterWeeksRow.holds Tryd.pinned (OpenSpec.ofChange filterWeeksSpec)

/-- ITS FALSE NEIGHBOUR: 'it returns false'. Refute it at one input. -/
def filterWeeksWrong : ChangeSpec := { name := "filterWeeks", fn := fun _ => fun
  | [d1, d2, d3] => { results := [.lit (.bool false)], args := [d1, d2, d3] }
  | _ => none }
def FilterWeeksWrongFalsely : Prop := filterWeeksRow.holds Tryd.pinned (OpenSpec.ofChange filterWeeksWrong)

/- THE SECOND FORM. 'bulk': how many values and letters a reading holds, each counted each time it is reached (what is shared counts as often as it is met; a slice's spare places count too). A statement '..UptoSaid' is the law's where the arguments, and the package variables that the reading takes, are together of bulk at most 1048576: NARROWER than '..Said'. Prove '..Said' where nothing that the law and all that it calls make is longer than what came in: it says more and counts as full. Else prove '..UptoSaid'. A law counts once. -/
mutual
def uptoBulk {H : Type} : DataW H → Nat
  | .lit (.string bytes) => bytes.length + 1
  | .lit _ => 1
  | .nil => 1
  | .ptr d => uptoBulk d + 1
  | .slice elems spare => uptoBulkAll elems + uptoBulkAll spare + 1
  | .agg parts => uptoBulkAll parts + 1
  | .iface _ d => uptoBulk d + 1
  | .map entries => uptoBulkEntries entries + 1
  | .held _ => 1
def uptoBulkAll {H : Type} : List (DataW H) → Nat
  | [] => 0
  | d :: r => uptoBulk d + uptoBulkAll r
def uptoBulkEntries {H : Type} : List (Lit × DataW H) → Nat
  | [] => 0
  | x :: r => uptoBulkEntry x + uptoBulkEntries r
def uptoBulkEntry {H : Type} : Lit × DataW H → Nat
  | (.string bytes, d) => bytes.length + uptoBulk d + 1
  | (_, d) => uptoBulk d + 1
 end
def uptoSmall : (H : Type) → List (DataW H) → Bool := fun _ ds => decide (uptoBulkAll ds ≤ 1048576)
def OpenSpec.upto (s : _root_.Go.ChangeSpec) : _root_.Go.OpenSpec := { _root_.Go.OpenSpec.ofChange s with cond := some uptoSmall }

/-- 'solsticelaw22.FilterExact', WHERE WHAT IT READS IS OF BULK AT MOST 1048576: true; the input reads as it did. -/
def filterExactUptoRow : OpenClaim := { program := "ytpcmfgfhdnfmcaadoor", sum := "32c1d750ab7d7eff6df9d88b9ebd182cc1142cbf2996c738790787c03eb7448a", func := "solstice/solsticelaw22.FilterExact", spec := "filterExact", named := ["solstice/civil.ahead"], apart := false, laid := [("solstice/civil.ahead", laid_solstice_civil_ahead)], narrowed := true }
def FilterExactUptoSaid : Prop := filterExactUptoRow.holds Tryd.pinned (OpenSpec.upto filterExactSpec)

/-- 'solsticelaw22.FilterSpans', WHERE WHAT IT READS IS OF BULK AT MOST 1048576: true; the input reads as it did. -/
def filterSpansUptoRow : OpenClaim := { program := "ytpcmfgfhdnfmcaadoor", sum := "32c1d750ab7d7eff6df9d88b9ebd182cc1142cbf2996c738790787c03eb7448a", func := "solstice/solsticelaw22.FilterSpans", spec := "filterSpans", named := ["solstice/civil.ahead"], apart := false, laid := [("solstice/civil.ahead", laid_solstice_civil_ahead)], narrowed := true }
def FilterSpansUptoSaid : Prop := filterSpansUptoRow.holds Tryd.pinned (OpenSpec.upto filterSpansSpec)

/-- 'solsticelaw22.FilterLists', WHERE WHAT IT READS IS OF BULK AT MOST 1048576: true; the input reads as it did. -/
def filterListsUptoRow : OpenClaim := { program := "ytpcmfgfhdnfmcaadoor", sum := "32c1d750ab7d7eff6df9d88b9ebd182cc1142cbf2996c738790787c03eb7448a", func := "solstice/solsticelaw22.FilterLists", spec := "filterLists", named := ["solstice/civil.ahead"], apart := false, laid := [("solstice/civil.ahead", laid_solstice_civil_ahead)], narrowed := true }
def FilterListsUptoSaid : Prop := filterListsUptoRow.holds Tryd.pinned (OpenSpec.upto filterListsSpec)

/-- 'solsticelaw22.FilterDays', WHERE WHAT IT READS IS OF BULK AT MOST 1048576: true; the input reads as it did. -/
def filterDaysUptoRow : OpenClaim := { program := "ytpcmfgfhdnfmcaadoor", sum := "32c1d750ab7d7eff6df9d88b9ebd182cc1142cbf2996c738790787c03eb7448a", func := "solstice/solsticelaw22.FilterDays", spec := "filterDays", named := ["solstice/civil.ahead"], apart := false, laid := [("solstice/civil.ahead", laid_solstice_civil_ahead)], narrowed := true }
def FilterDaysUptoSaid : Prop := filterDaysUptoRow.holds Tryd.pinned (OpenSpec.upto filterDaysSpec)

/-- 'solsticelaw22.FilterStarts', WHERE WHAT IT READS IS OF BULK AT MOST 1048576: true; the input reads as it did. -/
def filterStartsUptoRow : OpenClaim := { program := "ytpcmfgfhdnfmcaadoor", sum := "32c1d750ab7d7eff6df9d88b9ebd182cc1142cbf2996c738790787c03eb7448a", func := "solstice/solsticelaw22.FilterStarts", spec := "filterStarts", named := ["solstice/civil.ahead"], apart := false, laid := [("solstice/civil.ahead", laid_solstice_civil_ahead)], narrowed := true }
def FilterStartsUptoSaid : Prop := filterStartsUptoRow.holds Tryd.pinned (OpenSpec.upto filterStartsSpec)

/-- 'solsticelaw22.FilterWeeks', WHERE WHAT IT READS IS OF BULK AT MOST 1048576: true; the input reads as it did. -/
def filterWeeksUptoRow : OpenClaim := { program := "ytpcmfgfhdnfmcaadoor", sum := "32c1d750ab7d7eff6df9d88b9ebd182cc1142cbf2996c738790787c03eb7448a", func := "solstice/solsticelaw22.FilterWeeks", spec := "filterWeeks", named := ["solstice/civil.ahead"], apart := false, laid := [("solstice/civil.ahead", laid_solstice_civil_ahead)], narrowed := true }
def FilterWeeksUptoSaid : Prop := filterWeeksUptoRow.holds Tryd.pinned (OpenSpec.upto filterWeeksSpec)

end Rows
end Go.Proofs.YtpcmfgfhdnfmcaaDoor
