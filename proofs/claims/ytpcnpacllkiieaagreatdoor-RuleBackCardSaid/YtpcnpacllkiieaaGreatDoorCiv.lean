/-
  Contracts of package civil: Long, Len, Weekday, and the inner calls newYear, before, yearOf.
-/
import Derived.Test.YtpcnpacllkiieaaGreatDoorRows
import Derived.Test.YtpcnpacllkiieaaGreatDoorCivMath
import Derived.WalkKit
import Derived.WalkSpells
import Derived.WalkLawsBesides
import Derived.Deep.QuietTactic
import Derived.BigQuiet
import Derived.Lib.Hide
import Derived.Lib.LaidTab
import Derived.Lib.AppendIntMem
namespace Go.Proofs.YtpcnpacllkiieaaGreatDoor
open Go.RowKit
namespace Civ
theorem ret_b {b b' : Bool} (k : b = b') : Ending.returned (.bool b) = .returned (.bool b') := by rw [k]
theorem ret_i {b b' : Int} (k : b = b') : Ending.returned (.int .i64 b) = .returned (.int .i64 b') := by rw [k]

theorem tm (y k : Int) : (y.tmod k == 0) = decide (y % k = 0) := by
  rw [Bool.eq_iff_iff, beq_iff_eq, decide_eq_true_eq, ← Int.dvd_iff_tmod_eq_zero, ← Int.dvd_iff_emod_eq_zero]
theorem tm_ne (y k : Int) : (y.tmod k != 0) = !decide (y % k = 0) := by rw [bne, tm]
theorem em (y k : Int) : (y % k == 0) = decide (y % k = 0) := by rw [Bool.eq_iff_iff, beq_iff_eq, decide_eq_true_eq]
theorem em_ne (y k : Int) : (y % k != 0) = !decide (y % k = 0) := by rw [bne, em]
theorem long_mk {y : Int} (h : y % 4 = 0 ∧ (y % 100 ≠ 0 ∨ y % 400 = 0)) : Cal.long y = true := by simp only [Cal.long]; exact decide_eq_true h
theorem long_no {y : Int} (h : ¬ (y % 4 = 0 ∧ (y % 100 ≠ 0 ∨ y % 400 = 0))) : Cal.long y = false := by simp only [Cal.long]; exact decide_eq_false h

set_option maxHeartbeats 400000 in
theorem long_any (y : Int) (w : World) :
    Calls Tryz.prog 139 #[.int .i64 y] w fun e w' => e = .returned (.bool (Cal.long y)) ∧ w = w' := by
  have a4 := tm y 4
  have a100 := tm_ne y 100
  have a400 := tm y 400
  have e4 := em y 4
  have e100 := em_ne y 100
  have e400 := em y 400
  by_cases h4 : y % 4 = 0
  · by_cases h100 : y % 100 = 0
    · by_cases h400 : y % 400 = 0
      · have H := Lib.hid (long_mk ⟨h4, Or.inr h400⟩)
        rw [decide_eq_true h4] at a4 e4
        rw [decide_eq_true h100, Bool.not_true] at a100 e100
        rw [decide_eq_true h400] at a400 e400
        clear h4 h100 h400
        go_enter Tryz.func139, Tryz.ntmps139
        go_wp2
        all_goals go_ret
        all_goals exact ⟨ret_b H.out.symm, rfl⟩
      · have H := Lib.hid (long_no (y := y) (fun h => h.2.elim (fun k => k h100) h400))
        rw [decide_eq_true h4] at a4 e4
        rw [decide_eq_true h100, Bool.not_true] at a100 e100
        rw [decide_eq_false h400] at a400 e400
        clear h4 h100 h400
        go_enter Tryz.func139, Tryz.ntmps139
        go_wp2
        all_goals go_ret
        all_goals exact ⟨ret_b H.out.symm, rfl⟩
    · have H := Lib.hid (long_mk ⟨h4, Or.inl h100⟩)
      rw [decide_eq_true h4] at a4 e4
      rw [decide_eq_false h100, Bool.not_false] at a100 e100
      clear h4 h100 a400 e400
      go_enter Tryz.func139, Tryz.ntmps139
      go_wp2
      all_goals go_ret
      all_goals exact ⟨ret_b H.out.symm, rfl⟩
  · have H := Lib.hid (long_no (y := y) (fun h => h4 h.1))
    rw [decide_eq_false h4] at a4 e4
    clear h4 a100 e100 a400 e400
    go_enter Tryz.func139, Tryz.ntmps139
    go_wp2
    all_goals go_ret
    all_goals exact ⟨ret_b H.out.symm, rfl⟩

theorem lp_yes {y : Int} (h : Cal.long y = true) : Cal.lp y = 1 := by rw [Cal.lp, if_pos h]
theorem lp_no {y : Int} (h : Cal.long y = false) : Cal.lp y = 0 := by rw [Cal.lp, if_neg (by rw [h]; decide)]
theorem mlen_out {y m : Int} (h : ¬ (1 ≤ m ∧ m ≤ 12)) : Cal.mlen y m = 0 := by
  rw [Cal.mlen, if_neg (by omega), if_neg (by omega), if_neg h]

set_option maxHeartbeats 800000 in
theorem len_any (y m : Int) (w : World) :
    Calls Tryz.prog 104 #[.int .i64 y, .int .i64 m] w fun e w' => e = .returned (.int .i64 (Cal.mlen y m)) ∧ w = w' := by
  by_cases hm : 1 ≤ m ∧ m ≤ 12
  · by_cases h2 : m = 2
    · subst h2
      cases hl : Cal.long y with
      | true =>
        have H : Hid (Cal.mlen y 2 = 29) := Lib.hid (by rw [Cal.mlen, if_pos rfl, lp_yes hl]; rfl)
        go_enter Tryz.func104, Tryz.ntmps104
        go_wp2_with (go_at_call 139; refine (long_any _ _).mono ?_; rintro e w' ⟨rfl, rfl⟩)
        go_ret
        exact ⟨ret_i H.out.symm, rfl⟩
      | false =>
        have H : Hid (Cal.mlen y 2 = 28) := Lib.hid (by rw [Cal.mlen, if_pos rfl, lp_no hl]; rfl)
        go_enter Tryz.func104, Tryz.ntmps104
        go_wp2_with (go_at_call 139; refine (long_any _ _).mono ?_; rintro e w' ⟨rfl, rfl⟩)
        go_ret
        exact ⟨ret_i H.out.symm, rfl⟩
    · have hv : m = 1 ∨ m = 3 ∨ m = 4 ∨ m = 5 ∨ m = 6 ∨ m = 7 ∨ m = 8 ∨ m = 9 ∨ m = 10 ∨ m = 11 ∨ m = 12 := by omega
      clear hm h2
      rcases hv with h | h | h | h | h | h | h | h | h | h | h <;> subst h
      all_goals
        go_enter Tryz.func104, Tryz.ntmps104
        go_wp2
        go_ret
        exact ⟨rfl, rfl⟩
  · have H := Lib.hid (mlen_out (y := y) hm)
    have n1 : (m == 1) = false := beq_eq_false_iff_ne.2 (by omega)
    have n2 : (m == 2) = false := beq_eq_false_iff_ne.2 (by omega)
    have n3 : (m == 3) = false := beq_eq_false_iff_ne.2 (by omega)
    have n4 : (m == 4) = false := beq_eq_false_iff_ne.2 (by omega)
    have n5 : (m == 5) = false := beq_eq_false_iff_ne.2 (by omega)
    have n6 : (m == 6) = false := beq_eq_false_iff_ne.2 (by omega)
    have n7 : (m == 7) = false := beq_eq_false_iff_ne.2 (by omega)
    have n8 : (m == 8) = false := beq_eq_false_iff_ne.2 (by omega)
    have n9 : (m == 9) = false := beq_eq_false_iff_ne.2 (by omega)
    have n10 : (m == 10) = false := beq_eq_false_iff_ne.2 (by omega)
    have n11 : (m == 11) = false := beq_eq_false_iff_ne.2 (by omega)
    have n12 : (m == 12) = false := beq_eq_false_iff_ne.2 (by omega)
    clear hm
    go_enter Tryz.func104, Tryz.ntmps104
    go_wp2
    go_ret
    exact ⟨ret_i H.out.symm, rfl⟩

theorem wd_lem (n : Int) : ((n.tmod 7 + 7 + 4) % 7) = Cal.wday n := by
  unfold Cal.wday
  have := Int.tmod_eq_emod (a := n) (b := 7)
  split at this <;> omega
theorem wd_bd (n : Int) : -7 < n.tmod 7 ∧ n.tmod 7 < 7 := ⟨by have := Int.lt_tmod_of_pos n (show (0 : Int) < 7 by decide); omega, Int.tmod_lt_of_pos n (by decide)⟩
set_option maxHeartbeats 400000 in
theorem weekday_any (n : Int) (w : World) :
    Calls Tryz.prog 177 #[.int .i64 n] w fun e w' => e = .returned (.int .i64 (Cal.wday n)) ∧ w = w' := by
  have H := Lib.hid (wd_lem n)
  obtain ⟨b1, b2⟩ := wd_bd n
  by_cases h : 0 ≤ n
  · have e : n.tmod 7 = n % 7 := Int.tmod_eq_emod_of_nonneg h
    have HE := Lib.hid e
    clear e
    have c1 : 0 ≤ n % 7 := by omega
    have c2 : n % 7 < 7 := by omega
    clear b1 b2
    go_enter Tryz.func177, Tryz.ntmps177
    go_wp2
    go_ret
    exact ⟨ret_i (by rw [← H.out, HE.out]), rfl⟩
  · go_enter Tryz.func177, Tryz.ntmps177
    go_wp2
    go_ret
    exact ⟨ret_i H.out, rfl⟩

set_option maxHeartbeats 400000 in
theorem newYear_any (y : Int) (w : World) (h0 : 0 ≤ y) (h1 : y ≤ 20000) :
    Calls Tryz.prog 175 #[.int .i64 y] w fun e w' => e = .returned (.int .i64 (Cal.ny y)) ∧ w = w' := by
  go_enter Tryz.func175, Tryz.ntmps175
  go_wp2
  go_ret
  exact ⟨ret_i rfl, rfl⟩

/-! The table of the days ahead of each month. -/
def Ahead (w : World) : Prop := Lib.TabBelow Tryz.prog w.heap.size w "solstice/civil.ahead" .i64 [0, 31, 59, 90, 120, 151, 181, 212, 243, 273, 304, 334]
theorem Ahead.stays {w w' : World} (h : Ahead w) (hb : Below w.heap.size w w') : Ahead w' := fun w'' hb2 => h w'' (hb.trans (hb2.mono hb.size))
theorem gAhead : Tryz.prog.globalNamed "solstice/civil.ahead" = some 2 := by kernel_rfl
theorem Ahead.cell {w : World} (h : Ahead w) (i : Nat) (hi : i < 12) : w.cell? ⟨2, i, none⟩ = some (.int .i64 ([0, 31, 59, 90, 120, 151, 181, 212, 243, 273, 304, 334].getD i 0)) := by
  have k := (Lib.TabBelow.here h).cell gAhead i hi
  simpa using k

set_option maxHeartbeats 1600000 in
theorem before_any (y m : Int) (w : World) (hA : Ahead w) (h1 : 1 ≤ m) (h2 : m ≤ 12) :
    Calls Tryz.prog 176 #[.int .i64 y, .int .i64 m] w fun e w' => e = .returned (.int .i64 (Cal.cum y m)) ∧ w = w' := by
  have hv : m = 1 ∨ m = 2 ∨ m = 3 ∨ m = 4 ∨ m = 5 ∨ m = 6 ∨ m = 7 ∨ m = 8 ∨ m = 9 ∨ m = 10 ∨ m = 11 ∨ m = 12 := by omega
  clear h1 h2
  have c0 := hA.cell 0 (by decide)
  have c1 := hA.cell 1 (by decide)
  have c2 := hA.cell 2 (by decide)
  have c3 := hA.cell 3 (by decide)
  have c4 := hA.cell 4 (by decide)
  have c5 := hA.cell 5 (by decide)
  have c6 := hA.cell 6 (by decide)
  have c7 := hA.cell 7 (by decide)
  have c8 := hA.cell 8 (by decide)
  have c9 := hA.cell 9 (by decide)
  have c10 := hA.cell 10 (by decide)
  have c11 := hA.cell 11 (by decide)
  simp only [List.getD_cons_zero, List.getD_cons_succ] at c0 c1 c2 c3 c4 c5 c6 c7 c8 c9 c10 c11
  clear hA
  rcases hv with h | h | h | h | h | h | h | h | h | h | h | h <;> subst h
  all_goals
    cases hl : Cal.long y with
    | true =>
      have H := Lib.hid (lp_yes hl)
      go_enter Tryz.func176, Tryz.ntmps176
      go_wp2_with (go_at_call 139; refine (long_any _ _).mono ?_; rintro e w' ⟨rfl, rfl⟩)
      go_ret
      exact ⟨ret_i (by simp [Cal.cum, Cal.cum0, H.out]), rfl⟩
    | false =>
      have H := Lib.hid (lp_no hl)
      go_enter Tryz.func176, Tryz.ntmps176
      go_wp2_with (go_at_call 139; refine (long_any _ _).mono ?_; rintro e w' ⟨rfl, rfl⟩)
      go_ret
      exact ⟨ret_i (by simp [Cal.cum, Cal.cum0, H.out]), rfl⟩

end Civ
end Go.Proofs.YtpcnpacllkiieaaGreatDoor
