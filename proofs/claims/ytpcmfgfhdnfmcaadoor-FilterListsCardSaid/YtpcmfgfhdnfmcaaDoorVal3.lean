/-
  Contracts of package value: ParseOffset, Offset.
-/
import Derived.Test.YtpcmfgfhdnfmcaaDoorVal2
namespace Go.Proofs.YtpcmfgfhdnfmcaaDoor
open Go.RowKit
namespace Val
open Sol Civ Wk
/-- The digits behind the sign; whether there is one. -/
def poX (S : List UInt8) : List UInt8 := if Lib.hasPrefix S [45] = true then Lib.trimPrefix S [45] else Lib.trimPrefix S [43]
def poS (S : List UInt8) : Bool := Lib.hasPrefix S [45] || Lib.hasPrefix S [43]
def poY (X : List UInt8) : List UInt8 := if X.length = 4 then X ++ [48, 48] else X
def poD (b : Bool) (Y : List UInt8) : Int × Int :=
  if Y.length = 6 ∧ sxB Y = true ∧ ¬ (b = true ∧ sxV Y = 0) then (if b = true then -sxV Y else sxV Y, 0) else (0, 19)
def poP (S : List UInt8) : Int × Int := if poS S = true then poD (Lib.hasPrefix S [45]) (poY (poX S)) else (0, 19)
theorem ret_ii {a a' c c' : Int} (h1 : a = a') (h3 : c = c') : Ending.returned (.tuple #[.int .i64 a, .int .i64 c]) = .returned (.tuple #[.int .i64 a', .int .i64 c']) := by rw [h1, h3]
end Val
end Go.Proofs.YtpcmfgfhdnfmcaaDoor
