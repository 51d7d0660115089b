/-
  Contracts of package civil: Long, Len, Weekday, and the inner calls newYear, before, yearOf.
-/
import Derived.Test.YtikjlnkpcjjigaaDoorRows
import Derived.Test.YtikjlnkpcjjigaaDoorCivMath
import Derived.WalkKit
import Derived.WalkSpells
import Derived.WalkLawsBesides
import Derived.Deep.QuietTactic
import Derived.BigQuiet
import Derived.Lib.Hide
import Derived.Lib.LaidTab
import Derived.Lib.AppendIntMem
namespace Go.Proofs.YtikjlnkpcjjigaaDoor
open Go.RowKit
namespace Civ
theorem ret_b {b b' : Bool} (k : b = b') : Ending.returned (.bool b) = .returned (.bool b') := by rw [k]
theorem ret_i {b b' : Int} (k : b = b') : Ending.returned (.int .i64 b) = .returned (.int .i64 b') := by rw [k]

theorem tm (y k : Int) : (y.tmod k == 0) = decide (y % k = 0) := by
  rw [Bool.eq_iff_iff, beq_iff_eq, decide_eq_true_eq, ← Int.dvd_iff_tmod_eq_zero, ← Int.dvd_iff_emod_eq_zero]
theorem tm_ne (y k : Int) : (y.tmod k != 0) = !decide (y % k = 0) := by rw [bne, tm]
theorem em (y k : Int) : (y % k == 0) = decide (y % k = 0) := by rw [Bool.eq_iff_iff, beq_iff_eq, decide_eq_true_eq]
theorem em_ne (y k : Int) : (y % k != 0) = !decide (y % k = 0) := by rw [bne, em]
theorem long_mk {y : Int} (h : y % 4 = 0 ∧ (y % 100 ≠ 0 ∨ y % 400 = 0)) : Cal.long y = true := by simp only [Cal.long]; exact decide_eq_true h
theorem long_no {y : Int} (h : ¬ (y % 4 = 0 ∧ (y % 100 ≠ 0 ∨ y % 400 = 0))) : Cal.long y = false := by simp only [Cal.long]; exact decide_eq_false h

theorem lp_yes {y : Int} (h : Cal.long y = true) : Cal.lp y = 1 := by rw [Cal.lp, if_pos h]
theorem lp_no {y : Int} (h : Cal.long y = false) : Cal.lp y = 0 := by rw [Cal.lp, if_neg (by rw [h]; decide)]
theorem mlen_out {y m : Int} (h : ¬ (1 ≤ m ∧ m ≤ 12)) : Cal.mlen y m = 0 := by
  rw [Cal.mlen, if_neg (by omega), if_neg (by omega), if_neg h]

theorem wd_lem (n : Int) : ((n.tmod 7 + 7 + 4) % 7) = Cal.wday n := by
  unfold Cal.wday
  have := Int.tmod_eq_emod (a := n) (b := 7)
  split at this <;> omega
theorem wd_bd (n : Int) : -7 < n.tmod 7 ∧ n.tmod 7 < 7 := ⟨by have := Int.lt_tmod_of_pos n (show (0 : Int) < 7 by decide); omega, Int.tmod_lt_of_pos n (by decide)⟩
/-! The table of the days ahead of each month. -/
def Ahead (w : World) : Prop := Lib.TabBelow Tryd.prog w.heap.size w "solstice/civil.ahead" .i64 [0, 31, 59, 90, 120, 151, 181, 212, 243, 273, 304, 334]
theorem Ahead.stays {w w' : World} (h : Ahead w) (hb : Below w.heap.size w w') : Ahead w' := fun w'' hb2 => h w'' (hb.trans (hb2.mono hb.size))
end Civ
end Go.Proofs.YtikjlnkpcjjigaaDoor
