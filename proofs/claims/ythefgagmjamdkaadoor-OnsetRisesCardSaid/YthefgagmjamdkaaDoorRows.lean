/-
  NARROWER THAN 'FOR EVERY INPUT', by the rows' own cells (each row's printed sentence says how): OnsetExact: laid · OnsetRises: laid · OnsetLater: laid · OnsetLetters: laid.
  DERIVED. THE GIVEN ROWS OF THIS SEAT. 4 by the template 'for every input the law returns true; each argument reads behind the call as it read before'; 0 by the template 'total and deterministic' (their statements: YthefgagmjamdkaaDoorTotals.lean).
  GIVEN WITH THE SEED: the statements are not yours to turn. If you find one false, say at which input.
  Laid BY PROGRAM, IN A SANDBOX (cutbox-rows.mjs): the forced cells as the released guide's own fill.sh prints them over the translation 19e1bd6f54a592ec… (all of the seat's roots in one cut). By AI agents, Wed Nov 11 2026. No macro, syntax, notation, axiom, sorry.
-/
import Derived.Test.YthefgagmjamdkaaDoorChecked
import GoSem.Claim
import GoSem.ClaimJoined
import GoSem.ClaimMapViews
import Derived.JoinedTies
import Derived.KernelRfl
namespace Go.Proofs.YthefgagmjamdkaaDoor
/- THE CELL 'sum', in the pinned program and in every row, IS THE sha256 OF THE DUMP (.gsa) THAT YthefgagmjamdkaaDoorProg.lean LOADS. Nothing in Lean hashes anything: it is a label: what it is worth is what the hold of that sum in a sandbox is worth. -/
noncomputable def Tryd.pinned : Pinned := { name := "ythefgagmjamdkaadoor", sum := "19e1bd6f54a592ec5d14524a0ee19e4da78608dbb059ed4232781ba61c29ddc3", checked := Tryd.checked }
namespace Rows
def none {H : Type} : Left H := { results := [], args := [] }

/- WHAT THE LISTED PACKAGE-LEVEL VARIABLES READ AS WHEN THE CALL BEGINS. Each datum BY PROGRAM (the guide's laid-datum.mjs) off the statement by which the dump's own 'gosem.cut.vars' lays the variable. In a bare row this is a premise. The card (YthefgagmjamdkaaDoorCards.lean) ties it to the program's text. -/
def laid_solstice_civil_ahead {H : Type} : DataW H := .agg [.lit (.int .i64 0), .lit (.int .i64 31), .lit (.int .i64 59), .lit (.int .i64 90), .lit (.int .i64 120), .lit (.int .i64 151), .lit (.int .i64 181), .lit (.int .i64 212), .lit (.int .i64 243), .lit (.int .i64 273), .lit (.int .i64 304), .lit (.int .i64 334)]

/-- 'solsticelaw13.OnsetExact': WHATEVER THE INPUT: true; the input reads as it did. -/
def onsetExactSpec : ChangeSpec := { name := "onsetExact", fn := fun _ => fun
  | [d1, d2, d3] => { results := [.lit (.bool true)], args := [d1, d2, d3] }
  | _ => none }
def onsetExactRow : OpenClaim := { program := "ythefgagmjamdkaadoor", sum := "19e1bd6f54a592ec5d14524a0ee19e4da78608dbb059ed4232781ba61c29ddc3", func := "solstice/solsticelaw13.OnsetExact", spec := "onsetExact", inPlace := ["internal/bytealg.IndexByteString"], unfollowed := true, recurses := true, named := ["solstice/civil.ahead"], apart := false, laid := [("solstice/civil.ahead", laid_solstice_civil_ahead)] }
def OnsetExactSaid : Prop := onsetExactRow.holds Tryd.pinned (OpenSpec.ofChange onsetExactSpec)

/-- ITS FALSE NEIGHBOUR: 'it returns false'. Refute it at one input. -/
def onsetExactWrong : ChangeSpec := { name := "onsetExact", fn := fun _ => fun
  | [d1, d2, d3] => { results := [.lit (.bool false)], args := [d1, d2, d3] }
  | _ => none }
def OnsetExactWrongFalsely : Prop := onsetExactRow.holds Tryd.pinned (OpenSpec.ofChange onsetExactWrong)

/-- 'solsticelaw13.OnsetRises': WHATEVER THE INPUT: true; the input reads as it did. -/
def onsetRisesSpec : ChangeSpec := { name := "onsetRises", fn := fun _ => fun
  | [d1, d2, d3] => { results := [.lit (.bool true)], args := [d1, d2, d3] }
  | _ => none }
def onsetRisesRow : OpenClaim := { program := "ythefgagmjamdkaadoor", sum := "19e1bd6f54a592ec5d14524a0ee19e4da78608dbb059ed4232781ba61c29ddc3", func := "solstice/solsticelaw13.OnsetRises", spec := "onsetRises", inPlace := ["internal/bytealg.IndexByteString"], unfollowed := true, recurses := true, named := ["solstice/civil.ahead"], apart := false, laid := [("solstice/civil.ahead", laid_solstice_civil_ahead)] }
def OnsetRisesSaid : Prop := onsetRisesRow.holds Tryd.pinned (OpenSpec.ofChange onsetRisesSpec)

/-- ITS FALSE NEIGHBOUR: 'it returns false'. Refute it at one input. -/
def onsetRisesWrong : ChangeSpec := { name := "onsetRises", fn := fun _ => fun
  | [d1, d2, d3] => { results := [.lit (.bool false)], args := [d1, d2, d3] }
  | _ => none }
def OnsetRisesWrongFalsely : Prop := onsetRisesRow.holds Tryd.pinned (OpenSpec.ofChange onsetRisesWrong)

/-- 'solsticelaw13.OnsetLater': WHATEVER THE INPUT: true; the input reads as it did. -/
def onsetLaterSpec : ChangeSpec := { name := "onsetLater", fn := fun _ => fun
  | [d1, d2, d3, d4] => { results := [.lit (.bool true)], args := [d1, d2, d3, d4] }
  | _ => none }
def onsetLaterRow : OpenClaim := { program := "ythefgagmjamdkaadoor", sum := "19e1bd6f54a592ec5d14524a0ee19e4da78608dbb059ed4232781ba61c29ddc3", func := "solstice/solsticelaw13.OnsetLater", spec := "onsetLater", inPlace := ["internal/bytealg.IndexByteString"], unfollowed := true, recurses := true, named := ["solstice/civil.ahead"], apart := false, laid := [("solstice/civil.ahead", laid_solstice_civil_ahead)] }
def OnsetLaterSaid : Prop := onsetLaterRow.holds Tryd.pinned (OpenSpec.ofChange onsetLaterSpec)

/-- ITS FALSE NEIGHBOUR: 'it returns false'. Refute it at one input. -/
def onsetLaterWrong : ChangeSpec := { name := "onsetLater", fn := fun _ => fun
  | [d1, d2, d3, d4] => { results := [.lit (.bool false)], args := [d1, d2, d3, d4] }
  | _ => none }
def OnsetLaterWrongFalsely : Prop := onsetLaterRow.holds Tryd.pinned (OpenSpec.ofChange onsetLaterWrong)

/-- 'solsticelaw13.OnsetLetters': WHATEVER THE INPUT: true; the input reads as it did. -/
def onsetLettersSpec : ChangeSpec := { name := "onsetLetters", fn := fun _ => fun
  | [d1, d2] => { results := [.lit (.bool true)], args := [d1, d2] }
  | _ => none }
def onsetLettersRow : OpenClaim := { program := "ythefgagmjamdkaadoor", sum := "19e1bd6f54a592ec5d14524a0ee19e4da78608dbb059ed4232781ba61c29ddc3", func := "solstice/solsticelaw13.OnsetLetters", spec := "onsetLetters", inPlace := ["internal/bytealg.IndexByteString"], unfollowed := true, recurses := true, named := ["solstice/civil.ahead"], apart := false, laid := [("solstice/civil.ahead", laid_solstice_civil_ahead)] }
def OnsetLettersSaid : Prop := onsetLettersRow.holds Tryd.pinned (OpenSpec.ofChange onsetLettersSpec)

/-- ITS FALSE NEIGHBOUR: 'it returns false'. Refute it at one input. -/
def onsetLettersWrong : ChangeSpec := { name := "onsetLetters", fn := fun _ => fun
  | [d1, d2] => { results := [.lit (.bool false)], args := [d1, d2] }
  | _ => none }
def OnsetLettersWrongFalsely : Prop := onsetLettersRow.holds Tryd.pinned (OpenSpec.ofChange onsetLettersWrong)

/- THE SECOND FORM. 'bulk': how many values and letters a reading holds, each counted each time it is reached (what is shared counts as often as it is met; a slice's spare places count too). A statement '..UptoSaid' is the law's where the arguments, and the package variables that the reading takes, are together of bulk at most 1048576: NARROWER than '..Said'. Prove '..Said' where nothing that the law and all that it calls make is longer than what came in: it says more and counts as full. Else prove '..UptoSaid'. A law counts once. -/
mutual
def uptoBulk {H : Type} : DataW H → Nat
  | .lit (.string bytes) => bytes.length + 1
  | .lit _ => 1
  | .nil => 1
  | .ptr d => uptoBulk d + 1
  | .slice elems spare => uptoBulkAll elems + uptoBulkAll spare + 1
  | .agg parts => uptoBulkAll parts + 1
  | .iface _ d => uptoBulk d + 1
  | .map entries => uptoBulkEntries entries + 1
  | .held _ => 1
def uptoBulkAll {H : Type} : List (DataW H) → Nat
  | [] => 0
  | d :: r => uptoBulk d + uptoBulkAll r
def uptoBulkEntries {H : Type} : List (Lit × DataW H) → Nat
  | [] => 0
  | x :: r => uptoBulkEntry x + uptoBulkEntries r
def uptoBulkEntry {H : Type} : Lit × DataW H → Nat
  | (.string bytes, d) => bytes.length + uptoBulk d + 1
  | (_, d) => uptoBulk d + 1
 end
def uptoSmall : (H : Type) → List (DataW H) → Bool := fun _ ds => decide (uptoBulkAll ds ≤ 1048576)
def OpenSpec.upto (s : _root_.Go.ChangeSpec) : _root_.Go.OpenSpec := { _root_.Go.OpenSpec.ofChange s with cond := some uptoSmall }

/-- 'solsticelaw13.OnsetExact', WHERE WHAT IT READS IS OF BULK AT MOST 1048576: true; the input reads as it did. -/
def onsetExactUptoRow : OpenClaim := { program := "ythefgagmjamdkaadoor", sum := "19e1bd6f54a592ec5d14524a0ee19e4da78608dbb059ed4232781ba61c29ddc3", func := "solstice/solsticelaw13.OnsetExact", spec := "onsetExact", inPlace := ["internal/bytealg.IndexByteString"], unfollowed := true, recurses := true, named := ["solstice/civil.ahead"], apart := false, laid := [("solstice/civil.ahead", laid_solstice_civil_ahead)], narrowed := true }
def OnsetExactUptoSaid : Prop := onsetExactUptoRow.holds Tryd.pinned (OpenSpec.upto onsetExactSpec)

/-- 'solsticelaw13.OnsetRises', WHERE WHAT IT READS IS OF BULK AT MOST 1048576: true; the input reads as it did. -/
def onsetRisesUptoRow : OpenClaim := { program := "ythefgagmjamdkaadoor", sum := "19e1bd6f54a592ec5d14524a0ee19e4da78608dbb059ed4232781ba61c29ddc3", func := "solstice/solsticelaw13.OnsetRises", spec := "onsetRises", inPlace := ["internal/bytealg.IndexByteString"], unfollowed := true, recurses := true, named := ["solstice/civil.ahead"], apart := false, laid := [("solstice/civil.ahead", laid_solstice_civil_ahead)], narrowed := true }
def OnsetRisesUptoSaid : Prop := onsetRisesUptoRow.holds Tryd.pinned (OpenSpec.upto onsetRisesSpec)

/-- 'solsticelaw13.OnsetLater', WHERE WHAT IT READS IS OF BULK AT MOST 1048576: true; the input reads as it did. -/
def onsetLaterUptoRow : OpenClaim := { program := "ythefgagmjamdkaadoor", sum := "19e1bd6f54a592ec5d14524a0ee19e4da78608dbb059ed4232781ba61c29ddc3", func := "solstice/solsticelaw13.OnsetLater", spec := "onsetLater", inPlace := ["internal/bytealg.IndexByteString"], unfollowed := true, recurses := true, named := ["solstice/civil.ahead"], apart := false, laid := [("solstice/civil.ahead", laid_solstice_civil_ahead)], narrowed := true }
def OnsetLaterUptoSaid : Prop := onsetLaterUptoRow.holds Tryd.pinned (OpenSpec.upto onsetLaterSpec)

/-- 'solsticelaw13.OnsetLetters', WHERE WHAT IT READS IS OF BULK AT MOST 1048576: true; the input reads as it did. -/
def onsetLettersUptoRow : OpenClaim := { program := "ythefgagmjamdkaadoor", sum := "19e1bd6f54a592ec5d14524a0ee19e4da78608dbb059ed4232781ba61c29ddc3", func := "solstice/solsticelaw13.OnsetLetters", spec := "onsetLetters", inPlace := ["internal/bytealg.IndexByteString"], unfollowed := true, recurses := true, named := ["solstice/civil.ahead"], apart := false, laid := [("solstice/civil.ahead", laid_solstice_civil_ahead)], narrowed := true }
def OnsetLettersUptoSaid : Prop := onsetLettersUptoRow.holds Tryd.pinned (OpenSpec.upto onsetLettersSpec)

end Rows
end Go.Proofs.YthefgagmjamdkaaDoor
