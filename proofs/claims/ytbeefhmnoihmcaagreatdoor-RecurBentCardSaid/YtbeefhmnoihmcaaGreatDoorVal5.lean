/-
  Contracts of package value: Offset. (Written by gen: gen_val5.py.)
-/
import Derived.Test.YtbeefhmnoihmcaaGreatDoorVal4
namespace Go.Proofs.YtbeefhmnoihmcaaGreatDoor
open Go.RowKit
namespace Val
open Sol Civ Wk
/-- The text of an offset. -/
def ofB (m : Int) : List UInt8 := textL (m / 3600) 2 ++ textL (m / 60 % 60) 2 ++ (if m % 60 = 0 then [] else textL (m % 60) 2)
def ofE (o : Int) : Int := if -86400 < o ∧ o < 86400 then 0 else 19
def ofS (o : Int) : List UInt8 := if -86400 < o ∧ o < 86400 then (if o < 0 then 45 :: ofB (-o) else 43 :: ofB o) else []
theorem of_pos {m : Int} (h0 : 0 ≤ m) (h1 : m < 86400) : ofS m = 43 :: ofB m ∧ ofE m = 0 := by
  rw [ofS, ofE, if_pos (by omega), if_neg (by omega), if_pos (by omega)]; exact ⟨rfl, rfl⟩
theorem of_neg {m : Int} (h0 : 0 < m) (h1 : m < 86400) : ofS (-m) = 45 :: ofB m ∧ ofE (-m) = 0 := by
  rw [ofS, ofE, if_pos (by omega), if_pos (by omega), if_pos (by omega), Int.neg_neg]; exact ⟨rfl, rfl⟩
end Val
end Go.Proofs.YtbeefhmnoihmcaaGreatDoor
