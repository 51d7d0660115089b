/-
  Plain words on package value's waking call and its texts that are none.
-/
import Derived.Test.YtffbkmokjcgflaaDoorVal5
namespace Go.Proofs.YtffbkmokjcgflaaDoor
open Go.RowKit
namespace Val
open Sol Civ Wk
def badT : List (List UInt8) := [[], [49, 57, 55, 48, 49, 48, 49, 84, 48, 48, 48, 48, 48, 48], [49, 57, 55, 48, 48, 49, 48, 49, 32, 48, 48, 48, 48, 48, 48], [49, 57, 55, 48, 49, 51, 48, 49, 84, 48, 48, 48, 48, 48, 48], [49, 57, 55, 48, 48, 48, 48, 49, 84, 48, 48, 48, 48, 48, 48], [49, 57, 55, 48, 48, 49, 51, 50, 84, 48, 48, 48, 48, 48, 48], [49, 57, 48, 48, 48, 50, 50, 57, 84, 48, 48, 48, 48, 48, 48], [49, 57, 55, 48, 48, 49, 48, 49, 84, 50, 52, 48, 48, 48, 48], [49, 57, 55, 48, 48, 49, 48, 49, 84, 48, 48, 54, 48, 48, 48], [49, 57, 55, 48, 48, 49, 48, 49, 84, 48, 48, 48, 48, 54, 48], [48, 48, 48, 48, 48, 49, 48, 49, 84, 48, 48, 48, 48, 48, 48], [49, 57, 55, 48, 48, 49, 48, 49, 84, 48, 48, 48, 48, 48, 48, 122], [49, 57, 55, 48, 48, 49, 48, 49, 84, 48, 48, 48, 48, 48, 48, 90, 90], [43, 57, 55, 48, 48, 49, 48, 49, 84, 48, 48, 48, 48, 48, 48]]
def badO : List (List UInt8) := [[], [48, 49, 48, 48], [43, 49], [43, 48, 49, 48, 48, 48], [45, 48, 48, 48, 48], [45, 48, 48, 48, 48, 48, 48], [43, 50, 52, 48, 48], [43, 48, 48, 54, 48], [43, 48, 48, 48, 48, 54, 48], [43, 48, 49, 58, 48, 48], [32, 43, 48, 49, 48, 48]]
theorem badT_all : badT.all (fun S => decide (ptP S = (0, false, 19))) = true := by decide +kernel
theorem badO_all : badO.all (fun S => decide (poP S = (0, 19))) = true := by decide +kernel
theorem wk_1 : poP [43, 48, 49, 48, 48, 48, 48] = (3600, 0) := by decide +kernel
theorem wk_2 : poP [43, 48, 49, 51, 48] = (5400, 0) := by decide +kernel
theorem wk_3 : ptP [49, 57, 55, 48, 48, 49, 48, 50, 84, 48, 48, 48, 48, 48, 49] = (86401, false, 0) := by decide +kernel
theorem wk_4 : ptP [49, 57, 55, 48, 48, 50, 51, 48, 84, 48, 48, 48, 48, 48, 48] = (0, false, 19) := by decide +kernel
theorem wk_5 : ptP [49, 57, 55, 48, 48, 49, 48, 49, 84, 48, 48, 48, 48, 48, 48] = (0, false, 0) ∧ ptP [49, 57, 55, 48, 48, 49, 48, 50, 84, 48, 48, 48, 48, 48, 48] = (86400, false, 0) := by decide +kernel
theorem wk_6 : tmS 0 true = [49, 57, 55, 48, 48, 49, 48, 49, 84, 48, 48, 48, 48, 48, 48, 90] ∧ tmE 0 = 0 := by decide +kernel
theorem wk_7 : ofS (-5400) = [45, 48, 49, 51, 48] ∧ ofE (-5400) = 0 := by decide +kernel
end Val
end Go.Proofs.YtffbkmokjcgflaaDoor
