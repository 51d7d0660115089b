/-
  NARROWER THAN 'FOR EVERY INPUT', by the rows' own cells (each row's printed sentence says how): WeekNth: laid · WeekNumbers: laid · WeekSame: laid · WeekBad: laid · ClockExact: laid · ClockBack: laid · ClockForms: laid.
  DERIVED. THE GIVEN ROWS OF THIS SEAT. 7 by the template 'for every input the law returns true; each argument reads behind the call as it read before'; 0 by the template 'total and deterministic' (their statements: YtopclopmgnkoeabDoorTotals.lean).
  GIVEN WITH THE SEED: the statements are not yours to turn. If you find one false, say at which input.
  Laid BY PROGRAM, IN A SANDBOX (cutbox-rows.mjs): the forced cells as the released guide's own fill.sh prints them over the translation 8cee284f8473975b… (all of the seat's roots in one cut). By AI agents, Wed Nov 11 2026. No macro, syntax, notation, axiom, sorry.
-/
import Derived.Test.YtopclopmgnkoeabDoorChecked
import GoSem.Claim
import GoSem.ClaimJoined
import GoSem.ClaimMapViews
import Derived.JoinedTies
import Derived.KernelRfl
namespace Go.Proofs.YtopclopmgnkoeabDoor
/- THE CELL 'sum', in the pinned program and in every row, IS THE sha256 OF THE DUMP (.gsa) THAT YtopclopmgnkoeabDoorProg.lean LOADS. Nothing in Lean hashes anything: it is a label: what it is worth is what the hold of that sum in a sandbox is worth. -/
noncomputable def Tryd.pinned : Pinned := { name := "ytopclopmgnkoeabdoor", sum := "8cee284f8473975bc0bb417169f89fcdbf45626456e533105b5a0944d4fd3e60", checked := Tryd.checked }
namespace Rows
def none {H : Type} : Left H := { results := [], args := [] }

/- WHAT THE LISTED PACKAGE-LEVEL VARIABLES READ AS WHEN THE CALL BEGINS. Each datum BY PROGRAM (the guide's laid-datum.mjs) off the statement by which the dump's own 'gosem.cut.vars' lays the variable. In a bare row this is a premise. The card (YtopclopmgnkoeabDoorCards.lean) ties it to the program's text. -/
def laid_solstice_civil_ahead {H : Type} : DataW H := .agg [.lit (.int .i64 0), .lit (.int .i64 31), .lit (.int .i64 59), .lit (.int .i64 90), .lit (.int .i64 120), .lit (.int .i64 151), .lit (.int .i64 181), .lit (.int .i64 212), .lit (.int .i64 243), .lit (.int .i64 273), .lit (.int .i64 304), .lit (.int .i64 334)]
def laid_math_bits_deBruijn32tab {H : Type} : DataW H := .agg [.lit (.int .u8 0), .lit (.int .u8 1), .lit (.int .u8 28), .lit (.int .u8 2), .lit (.int .u8 29), .lit (.int .u8 14), .lit (.int .u8 24), .lit (.int .u8 3), .lit (.int .u8 30), .lit (.int .u8 22), .lit (.int .u8 20), .lit (.int .u8 15), .lit (.int .u8 25), .lit (.int .u8 17), .lit (.int .u8 4), .lit (.int .u8 8), .lit (.int .u8 31), .lit (.int .u8 27), .lit (.int .u8 13), .lit (.int .u8 23), .lit (.int .u8 21), .lit (.int .u8 19), .lit (.int .u8 16), .lit (.int .u8 7), .lit (.int .u8 26), .lit (.int .u8 12), .lit (.int .u8 18), .lit (.int .u8 6), .lit (.int .u8 11), .lit (.int .u8 5), .lit (.int .u8 10), .lit (.int .u8 9)]
def laid_math_bits_deBruijn64tab {H : Type} : DataW H := .agg [.lit (.int .u8 0), .lit (.int .u8 1), .lit (.int .u8 56), .lit (.int .u8 2), .lit (.int .u8 57), .lit (.int .u8 49), .lit (.int .u8 28), .lit (.int .u8 3), .lit (.int .u8 61), .lit (.int .u8 58), .lit (.int .u8 42), .lit (.int .u8 50), .lit (.int .u8 38), .lit (.int .u8 29), .lit (.int .u8 17), .lit (.int .u8 4), .lit (.int .u8 62), .lit (.int .u8 47), .lit (.int .u8 59), .lit (.int .u8 36), .lit (.int .u8 45), .lit (.int .u8 43), .lit (.int .u8 51), .lit (.int .u8 22), .lit (.int .u8 53), .lit (.int .u8 39), .lit (.int .u8 33), .lit (.int .u8 30), .lit (.int .u8 24), .lit (.int .u8 18), .lit (.int .u8 12), .lit (.int .u8 5), .lit (.int .u8 63), .lit (.int .u8 55), .lit (.int .u8 48), .lit (.int .u8 27), .lit (.int .u8 60), .lit (.int .u8 41), .lit (.int .u8 37), .lit (.int .u8 16), .lit (.int .u8 46), .lit (.int .u8 35), .lit (.int .u8 44), .lit (.int .u8 21), .lit (.int .u8 52), .lit (.int .u8 32), .lit (.int .u8 23), .lit (.int .u8 11), .lit (.int .u8 54), .lit (.int .u8 26), .lit (.int .u8 40), .lit (.int .u8 15), .lit (.int .u8 34), .lit (.int .u8 20), .lit (.int .u8 31), .lit (.int .u8 10), .lit (.int .u8 25), .lit (.int .u8 14), .lit (.int .u8 19), .lit (.int .u8 9), .lit (.int .u8 13), .lit (.int .u8 8), .lit (.int .u8 7), .lit (.int .u8 6)]
def laid_internal_strconv_uint64pow10 {H : Type} : DataW H := .agg [.lit (.int .u64 1), .lit (.int .u64 10), .lit (.int .u64 100), .lit (.int .u64 1000), .lit (.int .u64 10000), .lit (.int .u64 100000), .lit (.int .u64 1000000), .lit (.int .u64 10000000), .lit (.int .u64 100000000), .lit (.int .u64 1000000000), .lit (.int .u64 10000000000), .lit (.int .u64 100000000000), .lit (.int .u64 1000000000000), .lit (.int .u64 10000000000000), .lit (.int .u64 100000000000000), .lit (.int .u64 1000000000000000), .lit (.int .u64 10000000000000000), .lit (.int .u64 100000000000000000), .lit (.int .u64 1000000000000000000), .lit (.int .u64 10000000000000000000)]

/-- 'solsticelaw03.WeekNth': WHATEVER THE INPUT: true; the input reads as it did. -/
def weekNthSpec : ChangeSpec := { name := "weekNth", fn := fun _ => fun
  | [d1, d2, d3, d4] => { results := [.lit (.bool true)], args := [d1, d2, d3, d4] }
  | _ => none }
def weekNthRow : OpenClaim := { program := "ytopclopmgnkoeabdoor", sum := "8cee284f8473975bc0bb417169f89fcdbf45626456e533105b5a0944d4fd3e60", func := "solstice/solsticelaw03.WeekNth", spec := "weekNth", named := ["solstice/civil.ahead"], apart := false, laid := [("solstice/civil.ahead", laid_solstice_civil_ahead)] }
def WeekNthSaid : Prop := weekNthRow.holds Tryd.pinned (OpenSpec.ofChange weekNthSpec)

/-- ITS FALSE NEIGHBOUR: 'it returns false'. Refute it at one input. -/
def weekNthWrong : ChangeSpec := { name := "weekNth", fn := fun _ => fun
  | [d1, d2, d3, d4] => { results := [.lit (.bool false)], args := [d1, d2, d3, d4] }
  | _ => none }
def WeekNthWrongFalsely : Prop := weekNthRow.holds Tryd.pinned (OpenSpec.ofChange weekNthWrong)

/-- 'solsticelaw03.WeekNumbers': WHATEVER THE INPUT: true; the input reads as it did. -/
def weekNumbersSpec : ChangeSpec := { name := "weekNumbers", fn := fun _ => fun
  | [d1, d2, d3, d4] => { results := [.lit (.bool true)], args := [d1, d2, d3, d4] }
  | _ => none }
def weekNumbersRow : OpenClaim := { program := "ytopclopmgnkoeabdoor", sum := "8cee284f8473975bc0bb417169f89fcdbf45626456e533105b5a0944d4fd3e60", func := "solstice/solsticelaw03.WeekNumbers", spec := "weekNumbers", named := ["solstice/civil.ahead"], apart := false, laid := [("solstice/civil.ahead", laid_solstice_civil_ahead)] }
def WeekNumbersSaid : Prop := weekNumbersRow.holds Tryd.pinned (OpenSpec.ofChange weekNumbersSpec)

/-- ITS FALSE NEIGHBOUR: 'it returns false'. Refute it at one input. -/
def weekNumbersWrong : ChangeSpec := { name := "weekNumbers", fn := fun _ => fun
  | [d1, d2, d3, d4] => { results := [.lit (.bool false)], args := [d1, d2, d3, d4] }
  | _ => none }
def WeekNumbersWrongFalsely : Prop := weekNumbersRow.holds Tryd.pinned (OpenSpec.ofChange weekNumbersWrong)

/-- 'solsticelaw03.WeekSame': WHATEVER THE INPUT: true; the input reads as it did. -/
def weekSameSpec : ChangeSpec := { name := "weekSame", fn := fun _ => fun
  | [d1, d2, d3] => { results := [.lit (.bool true)], args := [d1, d2, d3] }
  | _ => none }
def weekSameRow : OpenClaim := { program := "ytopclopmgnkoeabdoor", sum := "8cee284f8473975bc0bb417169f89fcdbf45626456e533105b5a0944d4fd3e60", func := "solstice/solsticelaw03.WeekSame", spec := "weekSame", named := ["solstice/civil.ahead"], apart := false, laid := [("solstice/civil.ahead", laid_solstice_civil_ahead)] }
def WeekSameSaid : Prop := weekSameRow.holds Tryd.pinned (OpenSpec.ofChange weekSameSpec)

/-- ITS FALSE NEIGHBOUR: 'it returns false'. Refute it at one input. -/
def weekSameWrong : ChangeSpec := { name := "weekSame", fn := fun _ => fun
  | [d1, d2, d3] => { results := [.lit (.bool false)], args := [d1, d2, d3] }
  | _ => none }
def WeekSameWrongFalsely : Prop := weekSameRow.holds Tryd.pinned (OpenSpec.ofChange weekSameWrong)

/-- 'solsticelaw03.WeekBad': WHATEVER THE INPUT: true; the input reads as it did. -/
def weekBadSpec : ChangeSpec := { name := "weekBad", fn := fun _ => fun
  | [d1, d2] => { results := [.lit (.bool true)], args := [d1, d2] }
  | _ => none }
def weekBadRow : OpenClaim := { program := "ytopclopmgnkoeabdoor", sum := "8cee284f8473975bc0bb417169f89fcdbf45626456e533105b5a0944d4fd3e60", func := "solstice/solsticelaw03.WeekBad", spec := "weekBad", named := ["solstice/civil.ahead"], apart := false, laid := [("solstice/civil.ahead", laid_solstice_civil_ahead)] }
def WeekBadSaid : Prop := weekBadRow.holds Tryd.pinned (OpenSpec.ofChange weekBadSpec)

/-- ITS FALSE NEIGHBOUR: 'it returns false'. Refute it at one input. -/
def weekBadWrong : ChangeSpec := { name := "weekBad", fn := fun _ => fun
  | [d1, d2] => { results := [.lit (.bool false)], args := [d1, d2] }
  | _ => none }
def WeekBadWrongFalsely : Prop := weekBadRow.holds Tryd.pinned (OpenSpec.ofChange weekBadWrong)

/-- 'solsticelaw04.ClockExact': WHATEVER THE INPUT: true; the input reads as it did. -/
def clockExactSpec : ChangeSpec := { name := "clockExact", fn := fun _ => fun
  | [d1, d2, d3, d4] => { results := [.lit (.bool true)], args := [d1, d2, d3, d4] }
  | _ => none }
def clockExactRow : OpenClaim := { program := "ytopclopmgnkoeabdoor", sum := "8cee284f8473975bc0bb417169f89fcdbf45626456e533105b5a0944d4fd3e60", func := "solstice/solsticelaw04.ClockExact", spec := "clockExact", inPlace := ["internal/bytealg.IndexByteString", "internal/abi.NoEscape", "internal/bytealg.MakeNoZero"], named := ["internal/strconv.uint64pow10", "math/bits.deBruijn32tab", "math/bits.deBruijn64tab"], apart := false, laid := [("math/bits.deBruijn32tab", laid_math_bits_deBruijn32tab), ("math/bits.deBruijn64tab", laid_math_bits_deBruijn64tab), ("internal/strconv.uint64pow10", laid_internal_strconv_uint64pow10)] }
def ClockExactSaid : Prop := clockExactRow.holds Tryd.pinned (OpenSpec.ofChange clockExactSpec)

/-- ITS FALSE NEIGHBOUR: 'it returns false'. Refute it at one input. -/
def clockExactWrong : ChangeSpec := { name := "clockExact", fn := fun _ => fun
  | [d1, d2, d3, d4] => { results := [.lit (.bool false)], args := [d1, d2, d3, d4] }
  | _ => none }
def ClockExactWrongFalsely : Prop := clockExactRow.holds Tryd.pinned (OpenSpec.ofChange clockExactWrong)

/-- 'solsticelaw04.ClockBack': WHATEVER THE INPUT: true; the input reads as it did. -/
def clockBackSpec : ChangeSpec := { name := "clockBack", fn := fun _ => fun
  | [d1, d2, d3] => { results := [.lit (.bool true)], args := [d1, d2, d3] }
  | _ => none }
def clockBackRow : OpenClaim := { program := "ytopclopmgnkoeabdoor", sum := "8cee284f8473975bc0bb417169f89fcdbf45626456e533105b5a0944d4fd3e60", func := "solstice/solsticelaw04.ClockBack", spec := "clockBack", inPlace := ["internal/abi.NoEscape", "internal/bytealg.MakeNoZero", "internal/bytealg.IndexByteString"], named := ["internal/strconv.uint64pow10", "math/bits.deBruijn32tab", "math/bits.deBruijn64tab"], apart := false, laid := [("math/bits.deBruijn32tab", laid_math_bits_deBruijn32tab), ("math/bits.deBruijn64tab", laid_math_bits_deBruijn64tab), ("internal/strconv.uint64pow10", laid_internal_strconv_uint64pow10)] }
def ClockBackSaid : Prop := clockBackRow.holds Tryd.pinned (OpenSpec.ofChange clockBackSpec)

/-- ITS FALSE NEIGHBOUR: 'it returns false'. Refute it at one input. -/
def clockBackWrong : ChangeSpec := { name := "clockBack", fn := fun _ => fun
  | [d1, d2, d3] => { results := [.lit (.bool false)], args := [d1, d2, d3] }
  | _ => none }
def ClockBackWrongFalsely : Prop := clockBackRow.holds Tryd.pinned (OpenSpec.ofChange clockBackWrong)

/-- 'solsticelaw04.ClockForms': WHATEVER THE INPUT: true; the input reads as it did. -/
def clockFormsSpec : ChangeSpec := { name := "clockForms", fn := fun _ => fun
  | [d1, d2, d3, d4] => { results := [.lit (.bool true)], args := [d1, d2, d3, d4] }
  | _ => none }
def clockFormsRow : OpenClaim := { program := "ytopclopmgnkoeabdoor", sum := "8cee284f8473975bc0bb417169f89fcdbf45626456e533105b5a0944d4fd3e60", func := "solstice/solsticelaw04.ClockForms", spec := "clockForms", inPlace := ["internal/bytealg.IndexByteString", "internal/abi.NoEscape", "internal/bytealg.MakeNoZero"], named := ["internal/strconv.uint64pow10", "math/bits.deBruijn32tab", "math/bits.deBruijn64tab"], apart := false, laid := [("math/bits.deBruijn32tab", laid_math_bits_deBruijn32tab), ("math/bits.deBruijn64tab", laid_math_bits_deBruijn64tab), ("internal/strconv.uint64pow10", laid_internal_strconv_uint64pow10)] }
def ClockFormsSaid : Prop := clockFormsRow.holds Tryd.pinned (OpenSpec.ofChange clockFormsSpec)

/-- ITS FALSE NEIGHBOUR: 'it returns false'. Refute it at one input. -/
def clockFormsWrong : ChangeSpec := { name := "clockForms", fn := fun _ => fun
  | [d1, d2, d3, d4] => { results := [.lit (.bool false)], args := [d1, d2, d3, d4] }
  | _ => none }
def ClockFormsWrongFalsely : Prop := clockFormsRow.holds Tryd.pinned (OpenSpec.ofChange clockFormsWrong)

/- THE SECOND FORM. 'bulk': how many values and letters a reading holds, each counted each time it is reached (what is shared counts as often as it is met; a slice's spare places count too). A statement '..UptoSaid' is the law's where the arguments, and the package variables that the reading takes, are together of bulk at most 1048576: NARROWER than '..Said'. Prove '..Said' where nothing that the law and all that it calls make is longer than what came in: it says more and counts as full. Else prove '..UptoSaid'. A law counts once. -/
mutual
def uptoBulk {H : Type} : DataW H → Nat
  | .lit (.string bytes) => bytes.length + 1
  | .lit _ => 1
  | .nil => 1
  | .ptr d => uptoBulk d + 1
  | .slice elems spare => uptoBulkAll elems + uptoBulkAll spare + 1
  | .agg parts => uptoBulkAll parts + 1
  | .iface _ d => uptoBulk d + 1
  | .map entries => uptoBulkEntries entries + 1
  | .held _ => 1
def uptoBulkAll {H : Type} : List (DataW H) → Nat
  | [] => 0
  | d :: r => uptoBulk d + uptoBulkAll r
def uptoBulkEntries {H : Type} : List (Lit × DataW H) → Nat
  | [] => 0
  | x :: r => uptoBulkEntry x + uptoBulkEntries r
def uptoBulkEntry {H : Type} : Lit × DataW H → Nat
  | (.string bytes, d) => bytes.length + uptoBulk d + 1
  | (_, d) => uptoBulk d + 1
 end
def uptoSmall : (H : Type) → List (DataW H) → Bool := fun _ ds => decide (uptoBulkAll ds ≤ 1048576)
def OpenSpec.upto (s : _root_.Go.ChangeSpec) : _root_.Go.OpenSpec := { _root_.Go.OpenSpec.ofChange s with cond := some uptoSmall }

/-- 'solsticelaw03.WeekNth', WHERE WHAT IT READS IS OF BULK AT MOST 1048576: true; the input reads as it did. -/
def weekNthUptoRow : OpenClaim := { program := "ytopclopmgnkoeabdoor", sum := "8cee284f8473975bc0bb417169f89fcdbf45626456e533105b5a0944d4fd3e60", func := "solstice/solsticelaw03.WeekNth", spec := "weekNth", named := ["solstice/civil.ahead"], apart := false, laid := [("solstice/civil.ahead", laid_solstice_civil_ahead)], narrowed := true }
def WeekNthUptoSaid : Prop := weekNthUptoRow.holds Tryd.pinned (OpenSpec.upto weekNthSpec)

/-- 'solsticelaw03.WeekNumbers', WHERE WHAT IT READS IS OF BULK AT MOST 1048576: true; the input reads as it did. -/
def weekNumbersUptoRow : OpenClaim := { program := "ytopclopmgnkoeabdoor", sum := "8cee284f8473975bc0bb417169f89fcdbf45626456e533105b5a0944d4fd3e60", func := "solstice/solsticelaw03.WeekNumbers", spec := "weekNumbers", named := ["solstice/civil.ahead"], apart := false, laid := [("solstice/civil.ahead", laid_solstice_civil_ahead)], narrowed := true }
def WeekNumbersUptoSaid : Prop := weekNumbersUptoRow.holds Tryd.pinned (OpenSpec.upto weekNumbersSpec)

/-- 'solsticelaw03.WeekSame', WHERE WHAT IT READS IS OF BULK AT MOST 1048576: true; the input reads as it did. -/
def weekSameUptoRow : OpenClaim := { program := "ytopclopmgnkoeabdoor", sum := "8cee284f8473975bc0bb417169f89fcdbf45626456e533105b5a0944d4fd3e60", func := "solstice/solsticelaw03.WeekSame", spec := "weekSame", named := ["solstice/civil.ahead"], apart := false, laid := [("solstice/civil.ahead", laid_solstice_civil_ahead)], narrowed := true }
def WeekSameUptoSaid : Prop := weekSameUptoRow.holds Tryd.pinned (OpenSpec.upto weekSameSpec)

/-- 'solsticelaw03.WeekBad', WHERE WHAT IT READS IS OF BULK AT MOST 1048576: true; the input reads as it did. -/
def weekBadUptoRow : OpenClaim := { program := "ytopclopmgnkoeabdoor", sum := "8cee284f8473975bc0bb417169f89fcdbf45626456e533105b5a0944d4fd3e60", func := "solstice/solsticelaw03.WeekBad", spec := "weekBad", named := ["solstice/civil.ahead"], apart := false, laid := [("solstice/civil.ahead", laid_solstice_civil_ahead)], narrowed := true }
def WeekBadUptoSaid : Prop := weekBadUptoRow.holds Tryd.pinned (OpenSpec.upto weekBadSpec)

/-- 'solsticelaw04.ClockExact', WHERE WHAT IT READS IS OF BULK AT MOST 1048576: true; the input reads as it did. -/
def clockExactUptoRow : OpenClaim := { program := "ytopclopmgnkoeabdoor", sum := "8cee284f8473975bc0bb417169f89fcdbf45626456e533105b5a0944d4fd3e60", func := "solstice/solsticelaw04.ClockExact", spec := "clockExact", inPlace := ["internal/bytealg.IndexByteString", "internal/abi.NoEscape", "internal/bytealg.MakeNoZero"], named := ["internal/strconv.uint64pow10", "math/bits.deBruijn32tab", "math/bits.deBruijn64tab"], apart := false, laid := [("math/bits.deBruijn32tab", laid_math_bits_deBruijn32tab), ("math/bits.deBruijn64tab", laid_math_bits_deBruijn64tab), ("internal/strconv.uint64pow10", laid_internal_strconv_uint64pow10)], narrowed := true }
def ClockExactUptoSaid : Prop := clockExactUptoRow.holds Tryd.pinned (OpenSpec.upto clockExactSpec)

/-- 'solsticelaw04.ClockBack', WHERE WHAT IT READS IS OF BULK AT MOST 1048576: true; the input reads as it did. -/
def clockBackUptoRow : OpenClaim := { program := "ytopclopmgnkoeabdoor", sum := "8cee284f8473975bc0bb417169f89fcdbf45626456e533105b5a0944d4fd3e60", func := "solstice/solsticelaw04.ClockBack", spec := "clockBack", inPlace := ["internal/abi.NoEscape", "internal/bytealg.MakeNoZero", "internal/bytealg.IndexByteString"], named := ["internal/strconv.uint64pow10", "math/bits.deBruijn32tab", "math/bits.deBruijn64tab"], apart := false, laid := [("math/bits.deBruijn32tab", laid_math_bits_deBruijn32tab), ("math/bits.deBruijn64tab", laid_math_bits_deBruijn64tab), ("internal/strconv.uint64pow10", laid_internal_strconv_uint64pow10)], narrowed := true }
def ClockBackUptoSaid : Prop := clockBackUptoRow.holds Tryd.pinned (OpenSpec.upto clockBackSpec)

/-- 'solsticelaw04.ClockForms', WHERE WHAT IT READS IS OF BULK AT MOST 1048576: true; the input reads as it did. -/
def clockFormsUptoRow : OpenClaim := { program := "ytopclopmgnkoeabdoor", sum := "8cee284f8473975bc0bb417169f89fcdbf45626456e533105b5a0944d4fd3e60", func := "solstice/solsticelaw04.ClockForms", spec := "clockForms", inPlace := ["internal/bytealg.IndexByteString", "internal/abi.NoEscape", "internal/bytealg.MakeNoZero"], named := ["internal/strconv.uint64pow10", "math/bits.deBruijn32tab", "math/bits.deBruijn64tab"], apart := false, laid := [("math/bits.deBruijn32tab", laid_math_bits_deBruijn32tab), ("math/bits.deBruijn64tab", laid_math_bits_deBruijn64tab), ("internal/strconv.uint64pow10", laid_internal_strconv_uint64pow10)], narrowed := true }
def ClockFormsUptoSaid : Prop := clockFormsUptoRow.holds Tryd.pinned (OpenSpec.upto clockFormsSpec)

end Rows
end Go.Proofs.YtopclopmgnkoeabDoor
