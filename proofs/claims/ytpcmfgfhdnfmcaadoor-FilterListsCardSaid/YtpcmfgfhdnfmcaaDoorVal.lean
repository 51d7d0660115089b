/-
  Contracts of package value: sixty, ParseTime.
-/
import Derived.Test.YtpcmfgfhdnfmcaaDoorBdC
import Derived.Test.YtpcmfgfhdnfmcaaDoorBdD
namespace Go.Proofs.YtpcmfgfhdnfmcaaDoor
open Go.RowKit
namespace Val
open Sol Civ
theorem pv_bd {L : List UInt8} (h : L.length ≤ 4) : 0 ≤ parseV L ∧ parseV L < 10000 := by
  unfold parseV
  split
  · rename_i hp
    simp [parseB] at hp
    have := digVal_bd L (by simpa using hp.2)
    have h2 : (10 : Int) ^ L.length ≤ 10000 := by
      have h3 : L.length = 0 ∨ L.length = 1 ∨ L.length = 2 ∨ L.length = 3 ∨ L.length = 4 := by omega
      rcases h3 with e | e | e | e | e <;> rw [e] <;> decide
    omega
  · omega
/-- Two digits each of hours, minutes, seconds. -/
def sxB (S : List UInt8) : Bool := parseB (S.take 2) && parseB ((S.drop 2).take 2) && parseB ((S.drop 4).take 2) && decide (parseV (S.take 2) < 24 ∧ parseV ((S.drop 2).take 2) < 60 ∧ parseV ((S.drop 4).take 2) < 60)
def sxV (S : List UInt8) : Int := if sxB S = true then parseV (S.take 2) * 3600 + parseV ((S.drop 2).take 2) * 60 + parseV ((S.drop 4).take 2) else 0
theorem ret_ib' {a a' : Int} {b b' : Bool} (h : a = a') (k : b = b') : Ending.returned (.tuple #[.int .i64 a, .bool b]) = .returned (.tuple #[.int .i64 a', .bool b']) := by rw [h, k]
theorem sx_no {S : List UInt8} (h : sxB S = false) : sxV S = 0 := by rw [sxV, h]; rfl
end Val
end Go.Proofs.YtpcmfgfhdnfmcaaDoor
