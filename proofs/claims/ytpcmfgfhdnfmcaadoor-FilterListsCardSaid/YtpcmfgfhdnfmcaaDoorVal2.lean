/-
  Contracts of package value: ParseTime.
-/
import Derived.Test.YtpcmfgfhdnfmcaaDoorVal
import Derived.Test.YtpcmfgfhdnfmcaaDoorShelf
namespace Go.Proofs.YtpcmfgfhdnfmcaaDoor
open Go.RowKit
namespace Val
open Sol Civ Wk
theorem sx_bd {S : List UInt8} : 0 ≤ sxV S ∧ sxV S < 86400 := by
  unfold sxV
  split
  · rename_i h
    rw [sxB, Bool.and_eq_true] at h
    have := of_decide_eq_true h.2
    have d1 := pv_bd (L := S.take 2) (by rw [List.length_take]; omega)
    have d2 := pv_bd (L := (S.drop 2).take 2) (by rw [List.length_take]; omega)
    have d3 := pv_bd (L := (S.drop 4).take 2) (by rw [List.length_take]; omega)
    omega
  · omega
theorem numV_bd (y m d : Int) : -1000000 ≤ numV y m d ∧ numV y m d ≤ 4000000 := by
  unfold numV
  split
  · rename_i h
    have hv : 0 ≤ y ∧ y ≤ 10000 ∧ 1 ≤ d ∧ d ≤ Cal.mlen y m := of_decide_eq_true h
    obtain ⟨m1, m2⟩ := Cal.mlen_pos (y := y) (m := m) (by omega)
    have := num_bd hv.1 hv.2.1 m1 m2 hv.2.2.1 hv.2.2.2
    omega
  · omega
/-- What stands ahead of the mark is of the right make: its parts are numbers. -/
def ptB (B : List UInt8) : Bool := parseB (B.take 4) && parseB ((B.drop 4).take 2) && parseB ((B.drop 6).take 2) && sxB (B.drop 9) && decide (1 ≤ parseV (B.take 4))
def ptP (S : List UInt8) : Int × Bool × Int :=
  if (Lib.trimSuffix S [90]).length = 15 ∧ (Lib.trimSuffix S [90])[8]? = some 84 ∧ ptB (Lib.trimSuffix S [90]) = true ∧ numE (parseV ((Lib.trimSuffix S [90]).take 4)) (parseV (((Lib.trimSuffix S [90]).drop 4).take 2)) (parseV (((Lib.trimSuffix S [90]).drop 6).take 2)) = 0
  then (numV (parseV ((Lib.trimSuffix S [90]).take 4)) (parseV (((Lib.trimSuffix S [90]).drop 4).take 2)) (parseV (((Lib.trimSuffix S [90]).drop 6).take 2)) * 86400 + sxV ((Lib.trimSuffix S [90]).drop 9), Lib.hasSuffix S [90], 0)
  else (0, false, 19)
theorem ret_ibi {a a' c c' : Int} {b b' : Bool} (h1 : a = a') (h2 : b = b') (h3 : c = c') : Ending.returned (.tuple #[.int .i64 a, .bool b, .int .i64 c]) = .returned (.tuple #[.int .i64 a', .bool b', .int .i64 c']) := by rw [h1, h2, h3]
end Val
end Go.Proofs.YtpcmfgfhdnfmcaaDoor
