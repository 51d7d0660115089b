/-
  NARROWER THAN 'FOR EVERY INPUT', by the rows' own cells (each row's printed sentence says how): NumExact: laid · NumBack: laid · NumTexts: laid · NumEdges: laid · CivilExact: laid · CivilBack: laid · CivilYears: laid · CivilDays: laid · CivilBad: laid · CivilMonths: laid · WeekExact: laid · WeekForms: laid.
  DERIVED. THE GIVEN ROWS OF THIS SEAT. 12 by the template 'for every input the law returns true; each argument reads behind the call as it read before'; 0 by the template 'total and deterministic' (their statements: YtopclopmgnkoeaaDoorTotals.lean).
  GIVEN WITH THE SEED: the statements are not yours to turn. If you find one false, say at which input.
  Laid BY PROGRAM, IN A SANDBOX (cutbox-rows.mjs): the forced cells as the released guide's own fill.sh prints them over the translation 8e2544b6e9833f99… (all of the seat's roots in one cut). By AI agents, Wed Nov 11 2026. No macro, syntax, notation, axiom, sorry.
-/
import Derived.Test.YtopclopmgnkoeaaDoorChecked
import GoSem.Claim
import GoSem.ClaimJoined
import GoSem.ClaimMapViews
import Derived.JoinedTies
import Derived.KernelRfl
namespace Go.Proofs.YtopclopmgnkoeaaDoor
/- THE CELL 'sum', in the pinned program and in every row, IS THE sha256 OF THE DUMP (.gsa) THAT YtopclopmgnkoeaaDoorProg.lean LOADS. Nothing in Lean hashes anything: it is a label: what it is worth is what the hold of that sum in a sandbox is worth. -/
noncomputable def Tryd.pinned : Pinned := { name := "ytopclopmgnkoeaadoor", sum := "8e2544b6e9833f99bf0aae4e9f6e385989e149dcd9beb6c768d61cc1572e3304", checked := Tryd.checked }
namespace Rows
def none {H : Type} : Left H := { results := [], args := [] }

/- WHAT THE LISTED PACKAGE-LEVEL VARIABLES READ AS WHEN THE CALL BEGINS. Each datum BY PROGRAM (the guide's laid-datum.mjs) off the statement by which the dump's own 'gosem.cut.vars' lays the variable. In a bare row this is a premise. The card (YtopclopmgnkoeaaDoorCards.lean) ties it to the program's text. -/
def laid_math_bits_deBruijn32tab {H : Type} : DataW H := .agg [.lit (.int .u8 0), .lit (.int .u8 1), .lit (.int .u8 28), .lit (.int .u8 2), .lit (.int .u8 29), .lit (.int .u8 14), .lit (.int .u8 24), .lit (.int .u8 3), .lit (.int .u8 30), .lit (.int .u8 22), .lit (.int .u8 20), .lit (.int .u8 15), .lit (.int .u8 25), .lit (.int .u8 17), .lit (.int .u8 4), .lit (.int .u8 8), .lit (.int .u8 31), .lit (.int .u8 27), .lit (.int .u8 13), .lit (.int .u8 23), .lit (.int .u8 21), .lit (.int .u8 19), .lit (.int .u8 16), .lit (.int .u8 7), .lit (.int .u8 26), .lit (.int .u8 12), .lit (.int .u8 18), .lit (.int .u8 6), .lit (.int .u8 11), .lit (.int .u8 5), .lit (.int .u8 10), .lit (.int .u8 9)]
def laid_math_bits_deBruijn64tab {H : Type} : DataW H := .agg [.lit (.int .u8 0), .lit (.int .u8 1), .lit (.int .u8 56), .lit (.int .u8 2), .lit (.int .u8 57), .lit (.int .u8 49), .lit (.int .u8 28), .lit (.int .u8 3), .lit (.int .u8 61), .lit (.int .u8 58), .lit (.int .u8 42), .lit (.int .u8 50), .lit (.int .u8 38), .lit (.int .u8 29), .lit (.int .u8 17), .lit (.int .u8 4), .lit (.int .u8 62), .lit (.int .u8 47), .lit (.int .u8 59), .lit (.int .u8 36), .lit (.int .u8 45), .lit (.int .u8 43), .lit (.int .u8 51), .lit (.int .u8 22), .lit (.int .u8 53), .lit (.int .u8 39), .lit (.int .u8 33), .lit (.int .u8 30), .lit (.int .u8 24), .lit (.int .u8 18), .lit (.int .u8 12), .lit (.int .u8 5), .lit (.int .u8 63), .lit (.int .u8 55), .lit (.int .u8 48), .lit (.int .u8 27), .lit (.int .u8 60), .lit (.int .u8 41), .lit (.int .u8 37), .lit (.int .u8 16), .lit (.int .u8 46), .lit (.int .u8 35), .lit (.int .u8 44), .lit (.int .u8 21), .lit (.int .u8 52), .lit (.int .u8 32), .lit (.int .u8 23), .lit (.int .u8 11), .lit (.int .u8 54), .lit (.int .u8 26), .lit (.int .u8 40), .lit (.int .u8 15), .lit (.int .u8 34), .lit (.int .u8 20), .lit (.int .u8 31), .lit (.int .u8 10), .lit (.int .u8 25), .lit (.int .u8 14), .lit (.int .u8 19), .lit (.int .u8 9), .lit (.int .u8 13), .lit (.int .u8 8), .lit (.int .u8 7), .lit (.int .u8 6)]
def laid_internal_strconv_uint64pow10 {H : Type} : DataW H := .agg [.lit (.int .u64 1), .lit (.int .u64 10), .lit (.int .u64 100), .lit (.int .u64 1000), .lit (.int .u64 10000), .lit (.int .u64 100000), .lit (.int .u64 1000000), .lit (.int .u64 10000000), .lit (.int .u64 100000000), .lit (.int .u64 1000000000), .lit (.int .u64 10000000000), .lit (.int .u64 100000000000), .lit (.int .u64 1000000000000), .lit (.int .u64 10000000000000), .lit (.int .u64 100000000000000), .lit (.int .u64 1000000000000000), .lit (.int .u64 10000000000000000), .lit (.int .u64 100000000000000000), .lit (.int .u64 1000000000000000000), .lit (.int .u64 10000000000000000000)]
def laid_solstice_civil_ahead {H : Type} : DataW H := .agg [.lit (.int .i64 0), .lit (.int .i64 31), .lit (.int .i64 59), .lit (.int .i64 90), .lit (.int .i64 120), .lit (.int .i64 151), .lit (.int .i64 181), .lit (.int .i64 212), .lit (.int .i64 243), .lit (.int .i64 273), .lit (.int .i64 304), .lit (.int .i64 334)]

/-- 'solsticelaw01.NumExact': WHATEVER THE INPUT: true; the input reads as it did. -/
def numExactSpec : ChangeSpec := { name := "numExact", fn := fun _ => fun
  | [d1, d2, d3, d4] => { results := [.lit (.bool true)], args := [d1, d2, d3, d4] }
  | _ => none }
def numExactRow : OpenClaim := { program := "ytopclopmgnkoeaadoor", sum := "8e2544b6e9833f99bf0aae4e9f6e385989e149dcd9beb6c768d61cc1572e3304", func := "solstice/solsticelaw01.NumExact", spec := "numExact", inPlace := ["internal/abi.NoEscape", "internal/bytealg.MakeNoZero"], named := ["internal/strconv.uint64pow10", "math/bits.deBruijn32tab", "math/bits.deBruijn64tab"], apart := false, laid := [("math/bits.deBruijn32tab", laid_math_bits_deBruijn32tab), ("math/bits.deBruijn64tab", laid_math_bits_deBruijn64tab), ("internal/strconv.uint64pow10", laid_internal_strconv_uint64pow10)] }
def NumExactSaid : Prop := numExactRow.holds Tryd.pinned (OpenSpec.ofChange numExactSpec)

/-- ITS FALSE NEIGHBOUR: 'it returns false'. Refute it at one input. -/
def numExactWrong : ChangeSpec := { name := "numExact", fn := fun _ => fun
  | [d1, d2, d3, d4] => { results := [.lit (.bool false)], args := [d1, d2, d3, d4] }
  | _ => none }
def NumExactWrongFalsely : Prop := numExactRow.holds Tryd.pinned (OpenSpec.ofChange numExactWrong)

/-- 'solsticelaw01.NumBack': WHATEVER THE INPUT: true; the input reads as it did. -/
def numBackSpec : ChangeSpec := { name := "numBack", fn := fun _ => fun
  | [d1, d2] => { results := [.lit (.bool true)], args := [d1, d2] }
  | _ => none }
def numBackRow : OpenClaim := { program := "ytopclopmgnkoeaadoor", sum := "8e2544b6e9833f99bf0aae4e9f6e385989e149dcd9beb6c768d61cc1572e3304", func := "solstice/solsticelaw01.NumBack", spec := "numBack", inPlace := ["internal/abi.NoEscape", "internal/bytealg.MakeNoZero"], named := ["internal/strconv.uint64pow10", "math/bits.deBruijn32tab", "math/bits.deBruijn64tab"], apart := false, laid := [("math/bits.deBruijn32tab", laid_math_bits_deBruijn32tab), ("math/bits.deBruijn64tab", laid_math_bits_deBruijn64tab), ("internal/strconv.uint64pow10", laid_internal_strconv_uint64pow10)] }
def NumBackSaid : Prop := numBackRow.holds Tryd.pinned (OpenSpec.ofChange numBackSpec)

/-- ITS FALSE NEIGHBOUR: 'it returns false'. Refute it at one input. -/
def numBackWrong : ChangeSpec := { name := "numBack", fn := fun _ => fun
  | [d1, d2] => { results := [.lit (.bool false)], args := [d1, d2] }
  | _ => none }
def NumBackWrongFalsely : Prop := numBackRow.holds Tryd.pinned (OpenSpec.ofChange numBackWrong)

/-- 'solsticelaw01.NumTexts': WHATEVER THE INPUT: true; the input reads as it did. -/
def numTextsSpec : ChangeSpec := { name := "numTexts", fn := fun _ => fun
  | [d1, d2, d3] => { results := [.lit (.bool true)], args := [d1, d2, d3] }
  | _ => none }
def numTextsRow : OpenClaim := { program := "ytopclopmgnkoeaadoor", sum := "8e2544b6e9833f99bf0aae4e9f6e385989e149dcd9beb6c768d61cc1572e3304", func := "solstice/solsticelaw01.NumTexts", spec := "numTexts", inPlace := ["internal/abi.NoEscape", "internal/bytealg.MakeNoZero"], named := ["internal/strconv.uint64pow10", "math/bits.deBruijn32tab", "math/bits.deBruijn64tab"], apart := false, laid := [("math/bits.deBruijn32tab", laid_math_bits_deBruijn32tab), ("math/bits.deBruijn64tab", laid_math_bits_deBruijn64tab), ("internal/strconv.uint64pow10", laid_internal_strconv_uint64pow10)] }
def NumTextsSaid : Prop := numTextsRow.holds Tryd.pinned (OpenSpec.ofChange numTextsSpec)

/-- ITS FALSE NEIGHBOUR: 'it returns false'. Refute it at one input. -/
def numTextsWrong : ChangeSpec := { name := "numTexts", fn := fun _ => fun
  | [d1, d2, d3] => { results := [.lit (.bool false)], args := [d1, d2, d3] }
  | _ => none }
def NumTextsWrongFalsely : Prop := numTextsRow.holds Tryd.pinned (OpenSpec.ofChange numTextsWrong)

/-- 'solsticelaw01.NumEdges': WHATEVER THE INPUT: true; the input reads as it did. -/
def numEdgesSpec : ChangeSpec := { name := "numEdges", fn := fun _ => fun
  | [d] => { results := [.lit (.bool true)], args := [d] }
  | _ => none }
def numEdgesRow : OpenClaim := { program := "ytopclopmgnkoeaadoor", sum := "8e2544b6e9833f99bf0aae4e9f6e385989e149dcd9beb6c768d61cc1572e3304", func := "solstice/solsticelaw01.NumEdges", spec := "numEdges", inPlace := ["internal/abi.NoEscape", "internal/bytealg.MakeNoZero"], named := ["internal/strconv.uint64pow10", "math/bits.deBruijn32tab", "math/bits.deBruijn64tab"], apart := false, laid := [("math/bits.deBruijn32tab", laid_math_bits_deBruijn32tab), ("math/bits.deBruijn64tab", laid_math_bits_deBruijn64tab), ("internal/strconv.uint64pow10", laid_internal_strconv_uint64pow10)] }
def NumEdgesSaid : Prop := numEdgesRow.holds Tryd.pinned (OpenSpec.ofChange numEdgesSpec)

/-- ITS FALSE NEIGHBOUR: 'it returns false'. Refute it at one input. -/
def numEdgesWrong : ChangeSpec := { name := "numEdges", fn := fun _ => fun
  | [d] => { results := [.lit (.bool false)], args := [d] }
  | _ => none }
def NumEdgesWrongFalsely : Prop := numEdgesRow.holds Tryd.pinned (OpenSpec.ofChange numEdgesWrong)

/-- 'solsticelaw02.CivilExact': WHATEVER THE INPUT: true; the input reads as it did. -/
def civilExactSpec : ChangeSpec := { name := "civilExact", fn := fun _ => fun
  | [d1, d2] => { results := [.lit (.bool true)], args := [d1, d2] }
  | _ => none }
def civilExactRow : OpenClaim := { program := "ytopclopmgnkoeaadoor", sum := "8e2544b6e9833f99bf0aae4e9f6e385989e149dcd9beb6c768d61cc1572e3304", func := "solstice/solsticelaw02.CivilExact", spec := "civilExact", named := ["solstice/civil.ahead"], apart := false, laid := [("solstice/civil.ahead", laid_solstice_civil_ahead)] }
def CivilExactSaid : Prop := civilExactRow.holds Tryd.pinned (OpenSpec.ofChange civilExactSpec)

/-- ITS FALSE NEIGHBOUR: 'it returns false'. Refute it at one input. -/
def civilExactWrong : ChangeSpec := { name := "civilExact", fn := fun _ => fun
  | [d1, d2] => { results := [.lit (.bool false)], args := [d1, d2] }
  | _ => none }
def CivilExactWrongFalsely : Prop := civilExactRow.holds Tryd.pinned (OpenSpec.ofChange civilExactWrong)

/-- 'solsticelaw02.CivilBack': WHATEVER THE INPUT: true; the input reads as it did. -/
def civilBackSpec : ChangeSpec := { name := "civilBack", fn := fun _ => fun
  | [d1, d2, d3, d4, d5, d6] => { results := [.lit (.bool true)], args := [d1, d2, d3, d4, d5, d6] }
  | _ => none }
def civilBackRow : OpenClaim := { program := "ytopclopmgnkoeaadoor", sum := "8e2544b6e9833f99bf0aae4e9f6e385989e149dcd9beb6c768d61cc1572e3304", func := "solstice/solsticelaw02.CivilBack", spec := "civilBack", named := ["solstice/civil.ahead"], apart := false, laid := [("solstice/civil.ahead", laid_solstice_civil_ahead)] }
def CivilBackSaid : Prop := civilBackRow.holds Tryd.pinned (OpenSpec.ofChange civilBackSpec)

/-- ITS FALSE NEIGHBOUR: 'it returns false'. Refute it at one input. -/
def civilBackWrong : ChangeSpec := { name := "civilBack", fn := fun _ => fun
  | [d1, d2, d3, d4, d5, d6] => { results := [.lit (.bool false)], args := [d1, d2, d3, d4, d5, d6] }
  | _ => none }
def CivilBackWrongFalsely : Prop := civilBackRow.holds Tryd.pinned (OpenSpec.ofChange civilBackWrong)

/-- 'solsticelaw02.CivilYears': WHATEVER THE INPUT: true; the input reads as it did. -/
def civilYearsSpec : ChangeSpec := { name := "civilYears", fn := fun _ => fun
  | [d1, d2, d3] => { results := [.lit (.bool true)], args := [d1, d2, d3] }
  | _ => none }
def civilYearsRow : OpenClaim := { program := "ytopclopmgnkoeaadoor", sum := "8e2544b6e9833f99bf0aae4e9f6e385989e149dcd9beb6c768d61cc1572e3304", func := "solstice/solsticelaw02.CivilYears", spec := "civilYears", named := ["solstice/civil.ahead"], apart := false, laid := [("solstice/civil.ahead", laid_solstice_civil_ahead)] }
def CivilYearsSaid : Prop := civilYearsRow.holds Tryd.pinned (OpenSpec.ofChange civilYearsSpec)

/-- ITS FALSE NEIGHBOUR: 'it returns false'. Refute it at one input. -/
def civilYearsWrong : ChangeSpec := { name := "civilYears", fn := fun _ => fun
  | [d1, d2, d3] => { results := [.lit (.bool false)], args := [d1, d2, d3] }
  | _ => none }
def CivilYearsWrongFalsely : Prop := civilYearsRow.holds Tryd.pinned (OpenSpec.ofChange civilYearsWrong)

/-- 'solsticelaw02.CivilDays': WHATEVER THE INPUT: true; the input reads as it did. -/
def civilDaysSpec : ChangeSpec := { name := "civilDays", fn := fun _ => fun
  | [d1, d2, d3] => { results := [.lit (.bool true)], args := [d1, d2, d3] }
  | _ => none }
def civilDaysRow : OpenClaim := { program := "ytopclopmgnkoeaadoor", sum := "8e2544b6e9833f99bf0aae4e9f6e385989e149dcd9beb6c768d61cc1572e3304", func := "solstice/solsticelaw02.CivilDays", spec := "civilDays", named := ["solstice/civil.ahead"], apart := false, laid := [("solstice/civil.ahead", laid_solstice_civil_ahead)] }
def CivilDaysSaid : Prop := civilDaysRow.holds Tryd.pinned (OpenSpec.ofChange civilDaysSpec)

/-- ITS FALSE NEIGHBOUR: 'it returns false'. Refute it at one input. -/
def civilDaysWrong : ChangeSpec := { name := "civilDays", fn := fun _ => fun
  | [d1, d2, d3] => { results := [.lit (.bool false)], args := [d1, d2, d3] }
  | _ => none }
def CivilDaysWrongFalsely : Prop := civilDaysRow.holds Tryd.pinned (OpenSpec.ofChange civilDaysWrong)

/-- 'solsticelaw02.CivilBad': WHATEVER THE INPUT: true; the input reads as it did. -/
def civilBadSpec : ChangeSpec := { name := "civilBad", fn := fun _ => fun
  | [d1, d2, d3] => { results := [.lit (.bool true)], args := [d1, d2, d3] }
  | _ => none }
def civilBadRow : OpenClaim := { program := "ytopclopmgnkoeaadoor", sum := "8e2544b6e9833f99bf0aae4e9f6e385989e149dcd9beb6c768d61cc1572e3304", func := "solstice/solsticelaw02.CivilBad", spec := "civilBad", named := ["solstice/civil.ahead"], apart := false, laid := [("solstice/civil.ahead", laid_solstice_civil_ahead)] }
def CivilBadSaid : Prop := civilBadRow.holds Tryd.pinned (OpenSpec.ofChange civilBadSpec)

/-- ITS FALSE NEIGHBOUR: 'it returns false'. Refute it at one input. -/
def civilBadWrong : ChangeSpec := { name := "civilBad", fn := fun _ => fun
  | [d1, d2, d3] => { results := [.lit (.bool false)], args := [d1, d2, d3] }
  | _ => none }
def CivilBadWrongFalsely : Prop := civilBadRow.holds Tryd.pinned (OpenSpec.ofChange civilBadWrong)

/-- 'solsticelaw02.CivilMonths': WHATEVER THE INPUT: true; the input reads as it did. -/
def civilMonthsSpec : ChangeSpec := { name := "civilMonths", fn := fun _ => fun
  | [d1, d2] => { results := [.lit (.bool true)], args := [d1, d2] }
  | _ => none }
def civilMonthsRow : OpenClaim := { program := "ytopclopmgnkoeaadoor", sum := "8e2544b6e9833f99bf0aae4e9f6e385989e149dcd9beb6c768d61cc1572e3304", func := "solstice/solsticelaw02.CivilMonths", spec := "civilMonths", named := ["solstice/civil.ahead"], apart := false, laid := [("solstice/civil.ahead", laid_solstice_civil_ahead)] }
def CivilMonthsSaid : Prop := civilMonthsRow.holds Tryd.pinned (OpenSpec.ofChange civilMonthsSpec)

/-- ITS FALSE NEIGHBOUR: 'it returns false'. Refute it at one input. -/
def civilMonthsWrong : ChangeSpec := { name := "civilMonths", fn := fun _ => fun
  | [d1, d2] => { results := [.lit (.bool false)], args := [d1, d2] }
  | _ => none }
def CivilMonthsWrongFalsely : Prop := civilMonthsRow.holds Tryd.pinned (OpenSpec.ofChange civilMonthsWrong)

/-- 'solsticelaw03.WeekExact': WHATEVER THE INPUT: true; the input reads as it did. -/
def weekExactSpec : ChangeSpec := { name := "weekExact", fn := fun _ => fun
  | [d1, d2, d3, d4, d5, d6, d7] => { results := [.lit (.bool true)], args := [d1, d2, d3, d4, d5, d6, d7] }
  | _ => none }
def weekExactRow : OpenClaim := { program := "ytopclopmgnkoeaadoor", sum := "8e2544b6e9833f99bf0aae4e9f6e385989e149dcd9beb6c768d61cc1572e3304", func := "solstice/solsticelaw03.WeekExact", spec := "weekExact", named := ["solstice/civil.ahead"], apart := false, laid := [("solstice/civil.ahead", laid_solstice_civil_ahead)] }
def WeekExactSaid : Prop := weekExactRow.holds Tryd.pinned (OpenSpec.ofChange weekExactSpec)

/-- ITS FALSE NEIGHBOUR: 'it returns false'. Refute it at one input. -/
def weekExactWrong : ChangeSpec := { name := "weekExact", fn := fun _ => fun
  | [d1, d2, d3, d4, d5, d6, d7] => { results := [.lit (.bool false)], args := [d1, d2, d3, d4, d5, d6, d7] }
  | _ => none }
def WeekExactWrongFalsely : Prop := weekExactRow.holds Tryd.pinned (OpenSpec.ofChange weekExactWrong)

/-- 'solsticelaw03.WeekForms': WHATEVER THE INPUT: true; the input reads as it did. -/
def weekFormsSpec : ChangeSpec := { name := "weekForms", fn := fun _ => fun
  | [d1, d2, d3, d4] => { results := [.lit (.bool true)], args := [d1, d2, d3, d4] }
  | _ => none }
def weekFormsRow : OpenClaim := { program := "ytopclopmgnkoeaadoor", sum := "8e2544b6e9833f99bf0aae4e9f6e385989e149dcd9beb6c768d61cc1572e3304", func := "solstice/solsticelaw03.WeekForms", spec := "weekForms", named := ["solstice/civil.ahead"], apart := false, laid := [("solstice/civil.ahead", laid_solstice_civil_ahead)] }
def WeekFormsSaid : Prop := weekFormsRow.holds Tryd.pinned (OpenSpec.ofChange weekFormsSpec)

/-- ITS FALSE NEIGHBOUR: 'it returns false'. Refute it at one input. -/
def weekFormsWrong : ChangeSpec := { name := "weekForms", fn := fun _ => fun
  | [d1, d2, d3, d4] => { results := [.lit (.bool false)], args := [d1, d2, d3, d4] }
  | _ => none }
def WeekFormsWrongFalsely : Prop := weekFormsRow.holds Tryd.pinned (OpenSpec.ofChange weekFormsWrong)

/- THE SECOND FORM. 'bulk': how many values and letters a reading holds, each counted each time it is reached (what is shared counts as often as it is met; a slice's spare places count too). A statement '..UptoSaid' is the law's where the arguments, and the package variables that the reading takes, are together of bulk at most 1048576: NARROWER than '..Said'. Prove '..Said' where nothing that the law and all that it calls make is longer than what came in: it says more and counts as full. Else prove '..UptoSaid'. A law counts once. -/
mutual
def uptoBulk {H : Type} : DataW H → Nat
  | .lit (.string bytes) => bytes.length + 1
  | .lit _ => 1
  | .nil => 1
  | .ptr d => uptoBulk d + 1
  | .slice elems spare => uptoBulkAll elems + uptoBulkAll spare + 1
  | .agg parts => uptoBulkAll parts + 1
  | .iface _ d => uptoBulk d + 1
  | .map entries => uptoBulkEntries entries + 1
  | .held _ => 1
def uptoBulkAll {H : Type} : List (DataW H) → Nat
  | [] => 0
  | d :: r => uptoBulk d + uptoBulkAll r
def uptoBulkEntries {H : Type} : List (Lit × DataW H) → Nat
  | [] => 0
  | x :: r => uptoBulkEntry x + uptoBulkEntries r
def uptoBulkEntry {H : Type} : Lit × DataW H → Nat
  | (.string bytes, d) => bytes.length + uptoBulk d + 1
  | (_, d) => uptoBulk d + 1
 end
def uptoSmall : (H : Type) → List (DataW H) → Bool := fun _ ds => decide (uptoBulkAll ds ≤ 1048576)
def OpenSpec.upto (s : _root_.Go.ChangeSpec) : _root_.Go.OpenSpec := { _root_.Go.OpenSpec.ofChange s with cond := some uptoSmall }

/-- 'solsticelaw01.NumExact', WHERE WHAT IT READS IS OF BULK AT MOST 1048576: true; the input reads as it did. -/
def numExactUptoRow : OpenClaim := { program := "ytopclopmgnkoeaadoor", sum := "8e2544b6e9833f99bf0aae4e9f6e385989e149dcd9beb6c768d61cc1572e3304", func := "solstice/solsticelaw01.NumExact", spec := "numExact", inPlace := ["internal/abi.NoEscape", "internal/bytealg.MakeNoZero"], named := ["internal/strconv.uint64pow10", "math/bits.deBruijn32tab", "math/bits.deBruijn64tab"], apart := false, laid := [("math/bits.deBruijn32tab", laid_math_bits_deBruijn32tab), ("math/bits.deBruijn64tab", laid_math_bits_deBruijn64tab), ("internal/strconv.uint64pow10", laid_internal_strconv_uint64pow10)], narrowed := true }
def NumExactUptoSaid : Prop := numExactUptoRow.holds Tryd.pinned (OpenSpec.upto numExactSpec)

/-- 'solsticelaw01.NumBack', WHERE WHAT IT READS IS OF BULK AT MOST 1048576: true; the input reads as it did. -/
def numBackUptoRow : OpenClaim := { program := "ytopclopmgnkoeaadoor", sum := "8e2544b6e9833f99bf0aae4e9f6e385989e149dcd9beb6c768d61cc1572e3304", func := "solstice/solsticelaw01.NumBack", spec := "numBack", inPlace := ["internal/abi.NoEscape", "internal/bytealg.MakeNoZero"], named := ["internal/strconv.uint64pow10", "math/bits.deBruijn32tab", "math/bits.deBruijn64tab"], apart := false, laid := [("math/bits.deBruijn32tab", laid_math_bits_deBruijn32tab), ("math/bits.deBruijn64tab", laid_math_bits_deBruijn64tab), ("internal/strconv.uint64pow10", laid_internal_strconv_uint64pow10)], narrowed := true }
def NumBackUptoSaid : Prop := numBackUptoRow.holds Tryd.pinned (OpenSpec.upto numBackSpec)

/-- 'solsticelaw01.NumTexts', WHERE WHAT IT READS IS OF BULK AT MOST 1048576: true; the input reads as it did. -/
def numTextsUptoRow : OpenClaim := { program := "ytopclopmgnkoeaadoor", sum := "8e2544b6e9833f99bf0aae4e9f6e385989e149dcd9beb6c768d61cc1572e3304", func := "solstice/solsticelaw01.NumTexts", spec := "numTexts", inPlace := ["internal/abi.NoEscape", "internal/bytealg.MakeNoZero"], named := ["internal/strconv.uint64pow10", "math/bits.deBruijn32tab", "math/bits.deBruijn64tab"], apart := false, laid := [("math/bits.deBruijn32tab", laid_math_bits_deBruijn32tab), ("math/bits.deBruijn64tab", laid_math_bits_deBruijn64tab), ("internal/strconv.uint64pow10", laid_internal_strconv_uint64pow10)], narrowed := true }
def NumTextsUptoSaid : Prop := numTextsUptoRow.holds Tryd.pinned (OpenSpec.upto numTextsSpec)

/-- 'solsticelaw01.NumEdges', WHERE WHAT IT READS IS OF BULK AT MOST 1048576: true; the input reads as it did. -/
def numEdgesUptoRow : OpenClaim := { program := "ytopclopmgnkoeaadoor", sum := "8e2544b6e9833f99bf0aae4e9f6e385989e149dcd9beb6c768d61cc1572e3304", func := "solstice/solsticelaw01.NumEdges", spec := "numEdges", inPlace := ["internal/abi.NoEscape", "internal/bytealg.MakeNoZero"], named := ["internal/strconv.uint64pow10", "math/bits.deBruijn32tab", "math/bits.deBruijn64tab"], apart := false, laid := [("math/bits.deBruijn32tab", laid_math_bits_deBruijn32tab), ("math/bits.deBruijn64tab", laid_math_bits_deBruijn64tab), ("internal/strconv.uint64pow10", laid_internal_strconv_uint64pow10)], narrowed := true }
def NumEdgesUptoSaid : Prop := numEdgesUptoRow.holds Tryd.pinned (OpenSpec.upto numEdgesSpec)

/-- 'solsticelaw02.CivilExact', WHERE WHAT IT READS IS OF BULK AT MOST 1048576: true; the input reads as it did. -/
def civilExactUptoRow : OpenClaim := { program := "ytopclopmgnkoeaadoor", sum := "8e2544b6e9833f99bf0aae4e9f6e385989e149dcd9beb6c768d61cc1572e3304", func := "solstice/solsticelaw02.CivilExact", spec := "civilExact", named := ["solstice/civil.ahead"], apart := false, laid := [("solstice/civil.ahead", laid_solstice_civil_ahead)], narrowed := true }
def CivilExactUptoSaid : Prop := civilExactUptoRow.holds Tryd.pinned (OpenSpec.upto civilExactSpec)

/-- 'solsticelaw02.CivilBack', WHERE WHAT IT READS IS OF BULK AT MOST 1048576: true; the input reads as it did. -/
def civilBackUptoRow : OpenClaim := { program := "ytopclopmgnkoeaadoor", sum := "8e2544b6e9833f99bf0aae4e9f6e385989e149dcd9beb6c768d61cc1572e3304", func := "solstice/solsticelaw02.CivilBack", spec := "civilBack", named := ["solstice/civil.ahead"], apart := false, laid := [("solstice/civil.ahead", laid_solstice_civil_ahead)], narrowed := true }
def CivilBackUptoSaid : Prop := civilBackUptoRow.holds Tryd.pinned (OpenSpec.upto civilBackSpec)

/-- 'solsticelaw02.CivilYears', WHERE WHAT IT READS IS OF BULK AT MOST 1048576: true; the input reads as it did. -/
def civilYearsUptoRow : OpenClaim := { program := "ytopclopmgnkoeaadoor", sum := "8e2544b6e9833f99bf0aae4e9f6e385989e149dcd9beb6c768d61cc1572e3304", func := "solstice/solsticelaw02.CivilYears", spec := "civilYears", named := ["solstice/civil.ahead"], apart := false, laid := [("solstice/civil.ahead", laid_solstice_civil_ahead)], narrowed := true }
def CivilYearsUptoSaid : Prop := civilYearsUptoRow.holds Tryd.pinned (OpenSpec.upto civilYearsSpec)

/-- 'solsticelaw02.CivilDays', WHERE WHAT IT READS IS OF BULK AT MOST 1048576: true; the input reads as it did. -/
def civilDaysUptoRow : OpenClaim := { program := "ytopclopmgnkoeaadoor", sum := "8e2544b6e9833f99bf0aae4e9f6e385989e149dcd9beb6c768d61cc1572e3304", func := "solstice/solsticelaw02.CivilDays", spec := "civilDays", named := ["solstice/civil.ahead"], apart := false, laid := [("solstice/civil.ahead", laid_solstice_civil_ahead)], narrowed := true }
def CivilDaysUptoSaid : Prop := civilDaysUptoRow.holds Tryd.pinned (OpenSpec.upto civilDaysSpec)

/-- 'solsticelaw02.CivilBad', WHERE WHAT IT READS IS OF BULK AT MOST 1048576: true; the input reads as it did. -/
def civilBadUptoRow : OpenClaim := { program := "ytopclopmgnkoeaadoor", sum := "8e2544b6e9833f99bf0aae4e9f6e385989e149dcd9beb6c768d61cc1572e3304", func := "solstice/solsticelaw02.CivilBad", spec := "civilBad", named := ["solstice/civil.ahead"], apart := false, laid := [("solstice/civil.ahead", laid_solstice_civil_ahead)], narrowed := true }
def CivilBadUptoSaid : Prop := civilBadUptoRow.holds Tryd.pinned (OpenSpec.upto civilBadSpec)

/-- 'solsticelaw02.CivilMonths', WHERE WHAT IT READS IS OF BULK AT MOST 1048576: true; the input reads as it did. -/
def civilMonthsUptoRow : OpenClaim := { program := "ytopclopmgnkoeaadoor", sum := "8e2544b6e9833f99bf0aae4e9f6e385989e149dcd9beb6c768d61cc1572e3304", func := "solstice/solsticelaw02.CivilMonths", spec := "civilMonths", named := ["solstice/civil.ahead"], apart := false, laid := [("solstice/civil.ahead", laid_solstice_civil_ahead)], narrowed := true }
def CivilMonthsUptoSaid : Prop := civilMonthsUptoRow.holds Tryd.pinned (OpenSpec.upto civilMonthsSpec)

/-- 'solsticelaw03.WeekExact', WHERE WHAT IT READS IS OF BULK AT MOST 1048576: true; the input reads as it did. -/
def weekExactUptoRow : OpenClaim := { program := "ytopclopmgnkoeaadoor", sum := "8e2544b6e9833f99bf0aae4e9f6e385989e149dcd9beb6c768d61cc1572e3304", func := "solstice/solsticelaw03.WeekExact", spec := "weekExact", named := ["solstice/civil.ahead"], apart := false, laid := [("solstice/civil.ahead", laid_solstice_civil_ahead)], narrowed := true }
def WeekExactUptoSaid : Prop := weekExactUptoRow.holds Tryd.pinned (OpenSpec.upto weekExactSpec)

/-- 'solsticelaw03.WeekForms', WHERE WHAT IT READS IS OF BULK AT MOST 1048576: true; the input reads as it did. -/
def weekFormsUptoRow : OpenClaim := { program := "ytopclopmgnkoeaadoor", sum := "8e2544b6e9833f99bf0aae4e9f6e385989e149dcd9beb6c768d61cc1572e3304", func := "solstice/solsticelaw03.WeekForms", spec := "weekForms", named := ["solstice/civil.ahead"], apart := false, laid := [("solstice/civil.ahead", laid_solstice_civil_ahead)], narrowed := true }
def WeekFormsUptoSaid : Prop := weekFormsUptoRow.holds Tryd.pinned (OpenSpec.upto weekFormsSpec)

end Rows
end Go.Proofs.YtopclopmgnkoeaaDoor
