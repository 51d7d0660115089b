/-
  NARROWER THAN 'FOR EVERY INPUT', by the rows' own cells (each row's printed sentence says how): RruleExact: laid · RruleLets: laid · RruleAll: laid · RruleSpans: laid · RrulePicks: laid · RruleCosts: laid · EncodeDays: laid.
  DERIVED. THE GIVEN ROWS OF THIS SEAT. 7 by the template 'for every input the law returns true; each argument reads behind the call as it read before'; 0 by the template 'total and deterministic' (their statements: YtbdakbjlgljahaaGreatDoorTotals.lean).
  GIVEN WITH THE SEED: the statements are not yours to turn. If you find one false, say at which input.
  Laid BY PROGRAM, IN A SANDBOX (cutbox-rows.mjs): the forced cells as the released guide's own fill.sh prints them over the translation 8313bd157d017861… (all of the seat's roots in one cut). By AI agents, Wed Nov 11 2026. No macro, syntax, notation, axiom, sorry.
-/
import Derived.Test.YtbdakbjlgljahaaGreatDoorChecked
import GoSem.Claim
import GoSem.ClaimJoined
import GoSem.ClaimMapViews
import Derived.JoinedTies
import Derived.KernelRfl
namespace Go.Proofs.YtbdakbjlgljahaaGreatDoor
/- THE CELL 'sum', in the pinned program and in every row, IS THE sha256 OF THE DUMP (.gsa) THAT YtbdakbjlgljahaaGreatDoorProg.lean LOADS. Nothing in Lean hashes anything: it is a label: what it is worth is what the hold of that sum in a sandbox is worth. -/
noncomputable def Tryz.pinned : Pinned := { name := "ytbdakbjlgljahaagreatdoor", sum := "8313bd157d017861418215cb67647f67a94c67f7c176d0142e9fd3071536e670", checked := Tryz.checked }
namespace Rows
def none {H : Type} : Left H := { results := [], args := [] }

/- WHAT THE LISTED PACKAGE-LEVEL VARIABLES READ AS WHEN THE CALL BEGINS. Each datum BY PROGRAM (the guide's laid-datum.mjs) off the statement by which the dump's own 'gosem.cut.vars' lays the variable. In a bare row this is a premise. The card (YtbdakbjlgljahaaGreatDoorCards.lean) ties it to the program's text. -/
def laid_solstice_civil_ahead {H : Type} : DataW H := .agg [.lit (.int .i64 0), .lit (.int .i64 31), .lit (.int .i64 59), .lit (.int .i64 90), .lit (.int .i64 120), .lit (.int .i64 151), .lit (.int .i64 181), .lit (.int .i64 212), .lit (.int .i64 243), .lit (.int .i64 273), .lit (.int .i64 304), .lit (.int .i64 334)]

/-- 'solsticelaw23.RruleExact': WHATEVER THE INPUT: true; the input reads as it did. -/
def rruleExactSpec : ChangeSpec := { name := "rruleExact", fn := fun _ => fun
  | [d1, d2, d3, d4, d5, d6, d7] => { results := [.lit (.bool true)], args := [d1, d2, d3, d4, d5, d6, d7] }
  | _ => none }
def rruleExactRow : OpenClaim := { program := "ytbdakbjlgljahaagreatdoor", sum := "8313bd157d017861418215cb67647f67a94c67f7c176d0142e9fd3071536e670", func := "solstice/solsticelaw23.RruleExact", spec := "rruleExact", inPlace := ["sync/atomic.AddInt64", "sync/atomic.LoadInt64"], recurses := true, named := ["solstice/civil.ahead"], apart := false, laid := [("solstice/civil.ahead", laid_solstice_civil_ahead)] }
def RruleExactSaid : Prop := rruleExactRow.holds Tryz.pinned (OpenSpec.ofChange rruleExactSpec)

/-- ITS FALSE NEIGHBOUR: 'it returns false'. Refute it at one input. -/
def rruleExactWrong : ChangeSpec := { name := "rruleExact", fn := fun _ => fun
  | [d1, d2, d3, d4, d5, d6, d7] => { results := [.lit (.bool false)], args := [d1, d2, d3, d4, d5, d6, d7] }
  | _ => none }
def RruleExactWrongFalsely : Prop := rruleExactRow.holds Tryz.pinned (OpenSpec.ofChange rruleExactWrong)

/-- 'solsticelaw23.RruleLets': WHATEVER THE INPUT: true; the input reads as it did. -/
def rruleLetsSpec : ChangeSpec := { name := "rruleLets", fn := fun _ => fun
  | [d1, d2, d3, d4] => { results := [.lit (.bool true)], args := [d1, d2, d3, d4] }
  | _ => none }
def rruleLetsRow : OpenClaim := { program := "ytbdakbjlgljahaagreatdoor", sum := "8313bd157d017861418215cb67647f67a94c67f7c176d0142e9fd3071536e670", func := "solstice/solsticelaw23.RruleLets", spec := "rruleLets", inPlace := ["sync/atomic.AddInt64", "sync/atomic.LoadInt64"], recurses := true, named := ["solstice/civil.ahead"], apart := false, laid := [("solstice/civil.ahead", laid_solstice_civil_ahead)] }
def RruleLetsSaid : Prop := rruleLetsRow.holds Tryz.pinned (OpenSpec.ofChange rruleLetsSpec)

/-- ITS FALSE NEIGHBOUR: 'it returns false'. Refute it at one input. -/
def rruleLetsWrong : ChangeSpec := { name := "rruleLets", fn := fun _ => fun
  | [d1, d2, d3, d4] => { results := [.lit (.bool false)], args := [d1, d2, d3, d4] }
  | _ => none }
def RruleLetsWrongFalsely : Prop := rruleLetsRow.holds Tryz.pinned (OpenSpec.ofChange rruleLetsWrong)

/-- 'solsticelaw23.RruleAll': WHATEVER THE INPUT: true; the input reads as it did. -/
def rruleAllSpec : ChangeSpec := { name := "rruleAll", fn := fun _ => fun
  | [d1, d2, d3] => { results := [.lit (.bool true)], args := [d1, d2, d3] }
  | _ => none }
def rruleAllRow : OpenClaim := { program := "ytbdakbjlgljahaagreatdoor", sum := "8313bd157d017861418215cb67647f67a94c67f7c176d0142e9fd3071536e670", func := "solstice/solsticelaw23.RruleAll", spec := "rruleAll", inPlace := ["sync/atomic.AddInt64", "sync/atomic.LoadInt64"], recurses := true, named := ["solstice/civil.ahead"], apart := false, laid := [("solstice/civil.ahead", laid_solstice_civil_ahead)] }
def RruleAllSaid : Prop := rruleAllRow.holds Tryz.pinned (OpenSpec.ofChange rruleAllSpec)

/-- ITS FALSE NEIGHBOUR: 'it returns false'. Refute it at one input. -/
def rruleAllWrong : ChangeSpec := { name := "rruleAll", fn := fun _ => fun
  | [d1, d2, d3] => { results := [.lit (.bool false)], args := [d1, d2, d3] }
  | _ => none }
def RruleAllWrongFalsely : Prop := rruleAllRow.holds Tryz.pinned (OpenSpec.ofChange rruleAllWrong)

/-- 'solsticelaw23.RruleSpans': WHATEVER THE INPUT: true; the input reads as it did. -/
def rruleSpansSpec : ChangeSpec := { name := "rruleSpans", fn := fun _ => fun
  | [d1, d2, d3, d4, d5, d6] => { results := [.lit (.bool true)], args := [d1, d2, d3, d4, d5, d6] }
  | _ => none }
def rruleSpansRow : OpenClaim := { program := "ytbdakbjlgljahaagreatdoor", sum := "8313bd157d017861418215cb67647f67a94c67f7c176d0142e9fd3071536e670", func := "solstice/solsticelaw23.RruleSpans", spec := "rruleSpans", inPlace := ["sync/atomic.AddInt64", "sync/atomic.LoadInt64"], recurses := true, named := ["solstice/civil.ahead"], apart := false, laid := [("solstice/civil.ahead", laid_solstice_civil_ahead)] }
def RruleSpansSaid : Prop := rruleSpansRow.holds Tryz.pinned (OpenSpec.ofChange rruleSpansSpec)

/-- ITS FALSE NEIGHBOUR: 'it returns false'. Refute it at one input. -/
def rruleSpansWrong : ChangeSpec := { name := "rruleSpans", fn := fun _ => fun
  | [d1, d2, d3, d4, d5, d6] => { results := [.lit (.bool false)], args := [d1, d2, d3, d4, d5, d6] }
  | _ => none }
def RruleSpansWrongFalsely : Prop := rruleSpansRow.holds Tryz.pinned (OpenSpec.ofChange rruleSpansWrong)

/-- 'solsticelaw23.RrulePicks': WHATEVER THE INPUT: true; the input reads as it did. -/
def rrulePicksSpec : ChangeSpec := { name := "rrulePicks", fn := fun _ => fun
  | [d1, d2, d3, d4] => { results := [.lit (.bool true)], args := [d1, d2, d3, d4] }
  | _ => none }
def rrulePicksRow : OpenClaim := { program := "ytbdakbjlgljahaagreatdoor", sum := "8313bd157d017861418215cb67647f67a94c67f7c176d0142e9fd3071536e670", func := "solstice/solsticelaw23.RrulePicks", spec := "rrulePicks", inPlace := ["sync/atomic.AddInt64", "sync/atomic.LoadInt64"], recurses := true, named := ["solstice/civil.ahead"], apart := false, laid := [("solstice/civil.ahead", laid_solstice_civil_ahead)] }
def RrulePicksSaid : Prop := rrulePicksRow.holds Tryz.pinned (OpenSpec.ofChange rrulePicksSpec)

/-- ITS FALSE NEIGHBOUR: 'it returns false'. Refute it at one input. -/
def rrulePicksWrong : ChangeSpec := { name := "rrulePicks", fn := fun _ => fun
  | [d1, d2, d3, d4] => { results := [.lit (.bool false)], args := [d1, d2, d3, d4] }
  | _ => none }
def RrulePicksWrongFalsely : Prop := rrulePicksRow.holds Tryz.pinned (OpenSpec.ofChange rrulePicksWrong)

/-- 'solsticelaw23.RruleCosts': WHATEVER THE INPUT: true; the input reads as it did. -/
def rruleCostsSpec : ChangeSpec := { name := "rruleCosts", fn := fun _ => fun
  | [d1, d2, d3, d4] => { results := [.lit (.bool true)], args := [d1, d2, d3, d4] }
  | _ => none }
def rruleCostsRow : OpenClaim := { program := "ytbdakbjlgljahaagreatdoor", sum := "8313bd157d017861418215cb67647f67a94c67f7c176d0142e9fd3071536e670", func := "solstice/solsticelaw23.RruleCosts", spec := "rruleCosts", inPlace := ["sync/atomic.AddInt64", "sync/atomic.LoadInt64"], recurses := true, named := ["solstice/civil.ahead"], apart := false, laid := [("solstice/civil.ahead", laid_solstice_civil_ahead)] }
def RruleCostsSaid : Prop := rruleCostsRow.holds Tryz.pinned (OpenSpec.ofChange rruleCostsSpec)

/-- ITS FALSE NEIGHBOUR: 'it returns false'. Refute it at one input. -/
def rruleCostsWrong : ChangeSpec := { name := "rruleCosts", fn := fun _ => fun
  | [d1, d2, d3, d4] => { results := [.lit (.bool false)], args := [d1, d2, d3, d4] }
  | _ => none }
def RruleCostsWrongFalsely : Prop := rruleCostsRow.holds Tryz.pinned (OpenSpec.ofChange rruleCostsWrong)

/-- 'solsticelaw24.EncodeDays': WHATEVER THE INPUT: true; the input reads as it did. -/
def encodeDaysSpec : ChangeSpec := { name := "encodeDays", fn := fun _ => fun
  | [d1, d2, d3, d4, d5, d6, d7] => { results := [.lit (.bool true)], args := [d1, d2, d3, d4, d5, d6, d7] }
  | _ => none }
def encodeDaysRow : OpenClaim := { program := "ytbdakbjlgljahaagreatdoor", sum := "8313bd157d017861418215cb67647f67a94c67f7c176d0142e9fd3071536e670", func := "solstice/solsticelaw24.EncodeDays", spec := "encodeDays", inPlace := ["sync/atomic.AddInt64", "sync/atomic.LoadInt64"], recurses := true, named := ["solstice/civil.ahead"], apart := false, laid := [("solstice/civil.ahead", laid_solstice_civil_ahead)] }
def EncodeDaysSaid : Prop := encodeDaysRow.holds Tryz.pinned (OpenSpec.ofChange encodeDaysSpec)

/-- ITS FALSE NEIGHBOUR: 'it returns false'. Refute it at one input. -/
def encodeDaysWrong : ChangeSpec := { name := "encodeDays", fn := fun _ => fun
  | [d1, d2, d3, d4, d5, d6, d7] => { results := [.lit (.bool false)], args := [d1, d2, d3, d4, d5, d6, d7] }
  | _ => none }
def EncodeDaysWrongFalsely : Prop := encodeDaysRow.holds Tryz.pinned (OpenSpec.ofChange encodeDaysWrong)

/- THE SECOND FORM. 'bulk': how many values and letters a reading holds, each counted each time it is reached (what is shared counts as often as it is met; a slice's spare places count too). A statement '..UptoSaid' is the law's where the arguments, and the package variables that the reading takes, are together of bulk at most 1048576: NARROWER than '..Said'. Prove '..Said' where nothing that the law and all that it calls make is longer than what came in: it says more and counts as full. Else prove '..UptoSaid'. A law counts once. -/
mutual
def uptoBulk {H : Type} : DataW H → Nat
  | .lit (.string bytes) => bytes.length + 1
  | .lit _ => 1
  | .nil => 1
  | .ptr d => uptoBulk d + 1
  | .slice elems spare => uptoBulkAll elems + uptoBulkAll spare + 1
  | .agg parts => uptoBulkAll parts + 1
  | .iface _ d => uptoBulk d + 1
  | .map entries => uptoBulkEntries entries + 1
  | .held _ => 1
def uptoBulkAll {H : Type} : List (DataW H) → Nat
  | [] => 0
  | d :: r => uptoBulk d + uptoBulkAll r
def uptoBulkEntries {H : Type} : List (Lit × DataW H) → Nat
  | [] => 0
  | x :: r => uptoBulkEntry x + uptoBulkEntries r
def uptoBulkEntry {H : Type} : Lit × DataW H → Nat
  | (.string bytes, d) => bytes.length + uptoBulk d + 1
  | (_, d) => uptoBulk d + 1
 end
def uptoSmall : (H : Type) → List (DataW H) → Bool := fun _ ds => decide (uptoBulkAll ds ≤ 1048576)
def OpenSpec.upto (s : _root_.Go.ChangeSpec) : _root_.Go.OpenSpec := { _root_.Go.OpenSpec.ofChange s with cond := some uptoSmall }

/-- 'solsticelaw23.RruleExact', WHERE WHAT IT READS IS OF BULK AT MOST 1048576: true; the input reads as it did. -/
def rruleExactUptoRow : OpenClaim := { program := "ytbdakbjlgljahaagreatdoor", sum := "8313bd157d017861418215cb67647f67a94c67f7c176d0142e9fd3071536e670", func := "solstice/solsticelaw23.RruleExact", spec := "rruleExact", inPlace := ["sync/atomic.AddInt64", "sync/atomic.LoadInt64"], recurses := true, named := ["solstice/civil.ahead"], apart := false, laid := [("solstice/civil.ahead", laid_solstice_civil_ahead)], narrowed := true }
def RruleExactUptoSaid : Prop := rruleExactUptoRow.holds Tryz.pinned (OpenSpec.upto rruleExactSpec)

/-- 'solsticelaw23.RruleLets', WHERE WHAT IT READS IS OF BULK AT MOST 1048576: true; the input reads as it did. -/
def rruleLetsUptoRow : OpenClaim := { program := "ytbdakbjlgljahaagreatdoor", sum := "8313bd157d017861418215cb67647f67a94c67f7c176d0142e9fd3071536e670", func := "solstice/solsticelaw23.RruleLets", spec := "rruleLets", inPlace := ["sync/atomic.AddInt64", "sync/atomic.LoadInt64"], recurses := true, named := ["solstice/civil.ahead"], apart := false, laid := [("solstice/civil.ahead", laid_solstice_civil_ahead)], narrowed := true }
def RruleLetsUptoSaid : Prop := rruleLetsUptoRow.holds Tryz.pinned (OpenSpec.upto rruleLetsSpec)

/-- 'solsticelaw23.RruleAll', WHERE WHAT IT READS IS OF BULK AT MOST 1048576: true; the input reads as it did. -/
def rruleAllUptoRow : OpenClaim := { program := "ytbdakbjlgljahaagreatdoor", sum := "8313bd157d017861418215cb67647f67a94c67f7c176d0142e9fd3071536e670", func := "solstice/solsticelaw23.RruleAll", spec := "rruleAll", inPlace := ["sync/atomic.AddInt64", "sync/atomic.LoadInt64"], recurses := true, named := ["solstice/civil.ahead"], apart := false, laid := [("solstice/civil.ahead", laid_solstice_civil_ahead)], narrowed := true }
def RruleAllUptoSaid : Prop := rruleAllUptoRow.holds Tryz.pinned (OpenSpec.upto rruleAllSpec)

/-- 'solsticelaw23.RruleSpans', WHERE WHAT IT READS IS OF BULK AT MOST 1048576: true; the input reads as it did. -/
def rruleSpansUptoRow : OpenClaim := { program := "ytbdakbjlgljahaagreatdoor", sum := "8313bd157d017861418215cb67647f67a94c67f7c176d0142e9fd3071536e670", func := "solstice/solsticelaw23.RruleSpans", spec := "rruleSpans", inPlace := ["sync/atomic.AddInt64", "sync/atomic.LoadInt64"], recurses := true, named := ["solstice/civil.ahead"], apart := false, laid := [("solstice/civil.ahead", laid_solstice_civil_ahead)], narrowed := true }
def RruleSpansUptoSaid : Prop := rruleSpansUptoRow.holds Tryz.pinned (OpenSpec.upto rruleSpansSpec)

/-- 'solsticelaw23.RrulePicks', WHERE WHAT IT READS IS OF BULK AT MOST 1048576: true; the input reads as it did. -/
def rrulePicksUptoRow : OpenClaim := { program := "ytbdakbjlgljahaagreatdoor", sum := "8313bd157d017861418215cb67647f67a94c67f7c176d0142e9fd3071536e670", func := "solstice/solsticelaw23.RrulePicks", spec := "rrulePicks", inPlace := ["sync/atomic.AddInt64", "sync/atomic.LoadInt64"], recurses := true, named := ["solstice/civil.ahead"], apart := false, laid := [("solstice/civil.ahead", laid_solstice_civil_ahead)], narrowed := true }
def RrulePicksUptoSaid : Prop := rrulePicksUptoRow.holds Tryz.pinned (OpenSpec.upto rrulePicksSpec)

/-- 'solsticelaw23.RruleCosts', WHERE WHAT IT READS IS OF BULK AT MOST 1048576: true; the input reads as it did. -/
def rruleCostsUptoRow : OpenClaim := { program := "ytbdakbjlgljahaagreatdoor", sum := "8313bd157d017861418215cb67647f67a94c67f7c176d0142e9fd3071536e670", func := "solstice/solsticelaw23.RruleCosts", spec := "rruleCosts", inPlace := ["sync/atomic.AddInt64", "sync/atomic.LoadInt64"], recurses := true, named := ["solstice/civil.ahead"], apart := false, laid := [("solstice/civil.ahead", laid_solstice_civil_ahead)], narrowed := true }
def RruleCostsUptoSaid : Prop := rruleCostsUptoRow.holds Tryz.pinned (OpenSpec.upto rruleCostsSpec)

/-- 'solsticelaw24.EncodeDays', WHERE WHAT IT READS IS OF BULK AT MOST 1048576: true; the input reads as it did. -/
def encodeDaysUptoRow : OpenClaim := { program := "ytbdakbjlgljahaagreatdoor", sum := "8313bd157d017861418215cb67647f67a94c67f7c176d0142e9fd3071536e670", func := "solstice/solsticelaw24.EncodeDays", spec := "encodeDays", inPlace := ["sync/atomic.AddInt64", "sync/atomic.LoadInt64"], recurses := true, named := ["solstice/civil.ahead"], apart := false, laid := [("solstice/civil.ahead", laid_solstice_civil_ahead)], narrowed := true }
def EncodeDaysUptoSaid : Prop := encodeDaysUptoRow.holds Tryz.pinned (OpenSpec.upto encodeDaysSpec)

end Rows
end Go.Proofs.YtbdakbjlgljahaaGreatDoor
