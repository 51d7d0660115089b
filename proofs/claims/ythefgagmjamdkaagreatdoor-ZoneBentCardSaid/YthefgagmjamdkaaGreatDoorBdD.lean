/-
  Several texts in one (Civ, Civ2, Civ3, Week, Week2).
-/
import Derived.Test.YthefgagmjamdkaaGreatDoorRows
import Derived.Test.YthefgagmjamdkaaGreatDoorBdA
import Derived.WalkKit
import Derived.WalkSpells
import Derived.WalkLawsBesides
import Derived.Deep.QuietTactic
import Derived.BigQuiet
import Derived.Lib.Hide
import Derived.Lib.LaidTab
import Derived.Lib.AppendIntMem
/-
  Contracts of package civil: Long, Len, Weekday, and the inner calls newYear, before, yearOf.
-/
namespace Go.Proofs.YthefgagmjamdkaaGreatDoor
open Go.RowKit
namespace Civ
theorem ret_b {b b' : Bool} (k : b = b') : Ending.returned (.bool b) = .returned (.bool b') := by rw [k]
theorem ret_i {b b' : Int} (k : b = b') : Ending.returned (.int .i64 b) = .returned (.int .i64 b') := by rw [k]

theorem tm (y k : Int) : (y.tmod k == 0) = decide (y % k = 0) := by
  rw [Bool.eq_iff_iff, beq_iff_eq, decide_eq_true_eq, ← Int.dvd_iff_tmod_eq_zero, ← Int.dvd_iff_emod_eq_zero]
theorem tm_ne (y k : Int) : (y.tmod k != 0) = !decide (y % k = 0) := by rw [bne, tm]
theorem em (y k : Int) : (y % k == 0) = decide (y % k = 0) := by rw [Bool.eq_iff_iff, beq_iff_eq, decide_eq_true_eq]
theorem em_ne (y k : Int) : (y % k != 0) = !decide (y % k = 0) := by rw [bne, em]
theorem long_mk {y : Int} (h : y % 4 = 0 ∧ (y % 100 ≠ 0 ∨ y % 400 = 0)) : Cal.long y = true := by simp only [Cal.long]; exact decide_eq_true h
theorem long_no {y : Int} (h : ¬ (y % 4 = 0 ∧ (y % 100 ≠ 0 ∨ y % 400 = 0))) : Cal.long y = false := by simp only [Cal.long]; exact decide_eq_false h

set_option maxHeartbeats 400000 in
theorem long_any (y : Int) (w : World) :
    Calls Tryz.prog 126 #[.int .i64 y] w fun e w' => e = .returned (.bool (Cal.long y)) ∧ w = w' := by
  have a4 := tm y 4
  have a100 := tm_ne y 100
  have a400 := tm y 400
  have e4 := em y 4
  have e100 := em_ne y 100
  have e400 := em y 400
  by_cases h4 : y % 4 = 0
  · by_cases h100 : y % 100 = 0
    · by_cases h400 : y % 400 = 0
      · have H := Lib.hid (long_mk ⟨h4, Or.inr h400⟩)
        rw [decide_eq_true h4] at a4 e4
        rw [decide_eq_true h100, Bool.not_true] at a100 e100
        rw [decide_eq_true h400] at a400 e400
        clear h4 h100 h400
        go_enter Tryz.func126, Tryz.ntmps126
        go_wp2
        all_goals go_ret
        all_goals exact ⟨ret_b H.out.symm, rfl⟩
      · have H := Lib.hid (long_no (y := y) (fun h => h.2.elim (fun k => k h100) h400))
        rw [decide_eq_true h4] at a4 e4
        rw [decide_eq_true h100, Bool.not_true] at a100 e100
        rw [decide_eq_false h400] at a400 e400
        clear h4 h100 h400
        go_enter Tryz.func126, Tryz.ntmps126
        go_wp2
        all_goals go_ret
        all_goals exact ⟨ret_b H.out.symm, rfl⟩
    · have H := Lib.hid (long_mk ⟨h4, Or.inl h100⟩)
      rw [decide_eq_true h4] at a4 e4
      rw [decide_eq_false h100, Bool.not_false] at a100 e100
      clear h4 h100 a400 e400
      go_enter Tryz.func126, Tryz.ntmps126
      go_wp2
      all_goals go_ret
      all_goals exact ⟨ret_b H.out.symm, rfl⟩
  · have H := Lib.hid (long_no (y := y) (fun h => h4 h.1))
    rw [decide_eq_false h4] at a4 e4
    clear h4 a100 e100 a400 e400
    go_enter Tryz.func126, Tryz.ntmps126
    go_wp2
    all_goals go_ret
    all_goals exact ⟨ret_b H.out.symm, rfl⟩

theorem lp_yes {y : Int} (h : Cal.long y = true) : Cal.lp y = 1 := by rw [Cal.lp, if_pos h]
theorem lp_no {y : Int} (h : Cal.long y = false) : Cal.lp y = 0 := by rw [Cal.lp, if_neg (by rw [h]; decide)]
theorem mlen_out {y m : Int} (h : ¬ (1 ≤ m ∧ m ≤ 12)) : Cal.mlen y m = 0 := by
  rw [Cal.mlen, if_neg (by omega), if_neg (by omega), if_neg h]

set_option maxHeartbeats 800000 in
theorem len_any (y m : Int) (w : World) :
    Calls Tryz.prog 101 #[.int .i64 y, .int .i64 m] w fun e w' => e = .returned (.int .i64 (Cal.mlen y m)) ∧ w = w' := by
  by_cases hm : 1 ≤ m ∧ m ≤ 12
  · by_cases h2 : m = 2
    · subst h2
      cases hl : Cal.long y with
      | true =>
        have H : Hid (Cal.mlen y 2 = 29) := Lib.hid (by rw [Cal.mlen, if_pos rfl, lp_yes hl]; rfl)
        go_enter Tryz.func101, Tryz.ntmps101
        go_wp2_with (go_at_call 126; refine (long_any _ _).mono ?_; rintro e w' ⟨rfl, rfl⟩)
        go_ret
        exact ⟨ret_i H.out.symm, rfl⟩
      | false =>
        have H : Hid (Cal.mlen y 2 = 28) := Lib.hid (by rw [Cal.mlen, if_pos rfl, lp_no hl]; rfl)
        go_enter Tryz.func101, Tryz.ntmps101
        go_wp2_with (go_at_call 126; refine (long_any _ _).mono ?_; rintro e w' ⟨rfl, rfl⟩)
        go_ret
        exact ⟨ret_i H.out.symm, rfl⟩
    · have hv : m = 1 ∨ m = 3 ∨ m = 4 ∨ m = 5 ∨ m = 6 ∨ m = 7 ∨ m = 8 ∨ m = 9 ∨ m = 10 ∨ m = 11 ∨ m = 12 := by omega
      clear hm h2
      rcases hv with h | h | h | h | h | h | h | h | h | h | h <;> subst h
      all_goals
        go_enter Tryz.func101, Tryz.ntmps101
        go_wp2
        go_ret
        exact ⟨rfl, rfl⟩
  · have H := Lib.hid (mlen_out (y := y) hm)
    have n1 : (m == 1) = false := beq_eq_false_iff_ne.2 (by omega)
    have n2 : (m == 2) = false := beq_eq_false_iff_ne.2 (by omega)
    have n3 : (m == 3) = false := beq_eq_false_iff_ne.2 (by omega)
    have n4 : (m == 4) = false := beq_eq_false_iff_ne.2 (by omega)
    have n5 : (m == 5) = false := beq_eq_false_iff_ne.2 (by omega)
    have n6 : (m == 6) = false := beq_eq_false_iff_ne.2 (by omega)
    have n7 : (m == 7) = false := beq_eq_false_iff_ne.2 (by omega)
    have n8 : (m == 8) = false := beq_eq_false_iff_ne.2 (by omega)
    have n9 : (m == 9) = false := beq_eq_false_iff_ne.2 (by omega)
    have n10 : (m == 10) = false := beq_eq_false_iff_ne.2 (by omega)
    have n11 : (m == 11) = false := beq_eq_false_iff_ne.2 (by omega)
    have n12 : (m == 12) = false := beq_eq_false_iff_ne.2 (by omega)
    clear hm
    go_enter Tryz.func101, Tryz.ntmps101
    go_wp2
    go_ret
    exact ⟨ret_i H.out.symm, rfl⟩

theorem wd_lem (n : Int) : ((n.tmod 7 + 7 + 4) % 7) = Cal.wday n := by
  unfold Cal.wday
  have := Int.tmod_eq_emod (a := n) (b := 7)
  split at this <;> omega
theorem wd_bd (n : Int) : -7 < n.tmod 7 ∧ n.tmod 7 < 7 := ⟨by have := Int.lt_tmod_of_pos n (show (0 : Int) < 7 by decide); omega, Int.tmod_lt_of_pos n (by decide)⟩
set_option maxHeartbeats 400000 in
theorem weekday_any (n : Int) (w : World) :
    Calls Tryz.prog 129 #[.int .i64 n] w fun e w' => e = .returned (.int .i64 (Cal.wday n)) ∧ w = w' := by
  have H := Lib.hid (wd_lem n)
  obtain ⟨b1, b2⟩ := wd_bd n
  by_cases h : 0 ≤ n
  · have e : n.tmod 7 = n % 7 := Int.tmod_eq_emod_of_nonneg h
    have HE := Lib.hid e
    clear e
    have c1 : 0 ≤ n % 7 := by omega
    have c2 : n % 7 < 7 := by omega
    clear b1 b2
    go_enter Tryz.func129, Tryz.ntmps129
    go_wp2
    go_ret
    exact ⟨ret_i (by rw [← H.out, HE.out]), rfl⟩
  · go_enter Tryz.func129, Tryz.ntmps129
    go_wp2
    go_ret
    exact ⟨ret_i H.out, rfl⟩

set_option maxHeartbeats 400000 in
theorem newYear_any (y : Int) (w : World) (h0 : 0 ≤ y) (h1 : y ≤ 20000) :
    Calls Tryz.prog 127 #[.int .i64 y] w fun e w' => e = .returned (.int .i64 (Cal.ny y)) ∧ w = w' := by
  go_enter Tryz.func127, Tryz.ntmps127
  go_wp2
  go_ret
  exact ⟨ret_i rfl, rfl⟩

/-! The table of the days ahead of each month. -/
def Ahead (w : World) : Prop := Lib.TabBelow Tryz.prog w.heap.size w "solstice/civil.ahead" .i64 [0, 31, 59, 90, 120, 151, 181, 212, 243, 273, 304, 334]
theorem Ahead.stays {w w' : World} (h : Ahead w) (hb : Below w.heap.size w w') : Ahead w' := fun w'' hb2 => h w'' (hb.trans (hb2.mono hb.size))
theorem gAhead : Tryz.prog.globalNamed "solstice/civil.ahead" = some 1 := by kernel_rfl
theorem Ahead.cell {w : World} (h : Ahead w) (i : Nat) (hi : i < 12) : w.cell? ⟨1, i, none⟩ = some (.int .i64 ([0, 31, 59, 90, 120, 151, 181, 212, 243, 273, 304, 334].getD i 0)) := by
  have k := (Lib.TabBelow.here h).cell gAhead i hi
  simpa using k

set_option maxHeartbeats 1600000 in
theorem before_any (y m : Int) (w : World) (hA : Ahead w) (h1 : 1 ≤ m) (h2 : m ≤ 12) :
    Calls Tryz.prog 128 #[.int .i64 y, .int .i64 m] w fun e w' => e = .returned (.int .i64 (Cal.cum y m)) ∧ w = w' := by
  have hv : m = 1 ∨ m = 2 ∨ m = 3 ∨ m = 4 ∨ m = 5 ∨ m = 6 ∨ m = 7 ∨ m = 8 ∨ m = 9 ∨ m = 10 ∨ m = 11 ∨ m = 12 := by omega
  clear h1 h2
  have c0 := hA.cell 0 (by decide)
  have c1 := hA.cell 1 (by decide)
  have c2 := hA.cell 2 (by decide)
  have c3 := hA.cell 3 (by decide)
  have c4 := hA.cell 4 (by decide)
  have c5 := hA.cell 5 (by decide)
  have c6 := hA.cell 6 (by decide)
  have c7 := hA.cell 7 (by decide)
  have c8 := hA.cell 8 (by decide)
  have c9 := hA.cell 9 (by decide)
  have c10 := hA.cell 10 (by decide)
  have c11 := hA.cell 11 (by decide)
  simp only [List.getD_cons_zero, List.getD_cons_succ] at c0 c1 c2 c3 c4 c5 c6 c7 c8 c9 c10 c11
  clear hA
  rcases hv with h | h | h | h | h | h | h | h | h | h | h | h <;> subst h
  all_goals
    cases hl : Cal.long y with
    | true =>
      have H := Lib.hid (lp_yes hl)
      go_enter Tryz.func128, Tryz.ntmps128
      go_wp2_with (go_at_call 126; refine (long_any _ _).mono ?_; rintro e w' ⟨rfl, rfl⟩)
      go_ret
      exact ⟨ret_i (by simp [Cal.cum, Cal.cum0, H.out]), rfl⟩
    | false =>
      have H := Lib.hid (lp_no hl)
      go_enter Tryz.func128, Tryz.ntmps128
      go_wp2_with (go_at_call 126; refine (long_any _ _).mono ?_; rintro e w' ⟨rfl, rfl⟩)
      go_ret
      exact ⟨ret_i (by simp [Cal.cum, Cal.cum0, H.out]), rfl⟩

end Civ
end Go.Proofs.YthefgagmjamdkaaGreatDoor
/-
  Contracts of package civil: Number, Date, YearDay.
-/
namespace Go.Proofs.YthefgagmjamdkaaGreatDoor
open Go.RowKit
namespace Civ
theorem len_same (y m : Int) (w : World) :
    Calls Tryz.prog 101 #[.int .i64 y, .int .i64 m] w fun e w' => e = .returned (.int .i64 (Cal.mlen y m)) ∧ w' = w := (len_any y m w).mono fun _ _ ⟨h, k⟩ => ⟨h, k.symm⟩
def numE (y m d : Int) : Int := if Cal.valid y m d then 0 else 4
def numV (y m d : Int) : Int := if Cal.valid y m d then Cal.num y m d else 0
theorem valid_mk {y m d : Int} (h : 0 ≤ y ∧ y ≤ 10000 ∧ 1 ≤ d ∧ d ≤ Cal.mlen y m) : Cal.valid y m d = true := decide_eq_true h
theorem valid_no {y m d : Int} (h : ¬ (0 ≤ y ∧ y ≤ 10000 ∧ 1 ≤ d ∧ d ≤ Cal.mlen y m)) : Cal.valid y m d = false := decide_eq_false h
theorem numE_no {y m d : Int} (h : ¬ (0 ≤ y ∧ y ≤ 10000 ∧ 1 ≤ d ∧ d ≤ Cal.mlen y m)) : numE y m d = 4 ∧ numV y m d = 0 := by
  rw [numE, numV, valid_no h]; exact ⟨rfl, rfl⟩
theorem numE_yes {y m d : Int} (h : 0 ≤ y ∧ y ≤ 10000 ∧ 1 ≤ d ∧ d ≤ Cal.mlen y m) : numE y m d = 0 ∧ numV y m d = Cal.num y m d := by
  rw [numE, numV, valid_mk h]; exact ⟨rfl, rfl⟩
theorem ret_ii {a a' b b' : Int} (h : a = a') (k : b = b') : Ending.returned (.tuple #[.int .i64 a, .int .i64 b]) = .returned (.tuple #[.int .i64 a', .int .i64 b']) := by rw [h, k]

theorem Ahead.alloc {w : World} (h : Ahead w) (o : Obj) : Ahead (w.alloc o) := h.stays ((Below.refl _ _).alloc (Nat.le_refl _) o)
theorem Ahead.drewN {w : World} (h : Ahead w) (n : Nat) : Ahead (w.drewN n) := h.stays (below_drewN (Below.refl _ _) n)
theorem Ahead.drew {w : World} (h : Ahead w) : Ahead w.drew := h.drewN 1
theorem quiet_add_left {P : Program} {f : FuncId} {args : Array Value} {w : World} {a n : Nat} {v : Value}
    (h : Calls P f args (w.drewN (a + n)) fun e w' => e = .returned v ∧ w.drewN (a + n) = w') :
    Calls P f args (w.drewN (a + n)) fun e w'' => e = .returned v ∧ ∃ m, w'' = w.drewN (a + m) :=
  h.mono fun _ _ ⟨he, hm⟩ => ⟨he, n, hm.symm⟩
theorem quiet_left {P : Program} {f : FuncId} {args : Array Value} {w : World} {n : Nat} {v : Value}
    (h : Calls P f args (w.drewN n) fun e w' => e = .returned v ∧ w.drewN n = w') : Calls P f args (w.drewN n) fun e w'' => e = .returned v ∧ ∃ m, w'' = w.drewN m :=
  h.mono fun _ _ ⟨he, hm⟩ => ⟨he, n, hm.symm⟩

set_option maxHeartbeats 1600000 in
theorem number_w (y m d : Int) (w : World) (hA : Ahead w) (i1 : -9223372036854775808 ≤ d) (i2 : d ≤ 9223372036854775807) :
    Calls Tryz.prog 102 #[.agg #[.int .i64 y, .int .i64 m, .int .i64 d]] w fun e w' => e = .returned (.tuple #[.int .i64 (numV y m d), .int .i64 (numE y m d)]) ∧ ∃ n, w' = (w.alloc (Obj.cells #[.int .i64 y, .int .i64 m, .int .i64 d] 89)).drewN n := by
  have HA := Lib.hid hA
  clear hA
  obtain ⟨l1, l2⟩ := Cal.mlen_bd y m
  by_cases h1 : y < 0
  · have H := Lib.hid (numE_no (y := y) (m := m) (d := d) (fun h => by omega))
    have b1 : decide (y < 0) = true := decide_eq_true h1
    go_enter Tryz.func102, Tryz.ntmps102
    go_wp2_with fail
    go_quiet (fail)
    go_wp2
    go_ret2
    exact ⟨ret_ii H.out.2.symm H.out.1.symm, _, rfl⟩
  · have b1 : decide (y < 0) = false := decide_eq_false h1
    by_cases h2 : 10000 < y
    · have H := Lib.hid (numE_no (y := y) (m := m) (d := d) (fun h => by omega))
      have b2 : decide (10000 < y) = true := decide_eq_true h2
      go_enter Tryz.func102, Tryz.ntmps102
      go_wp2_with fail
      go_quiet (fail)
      go_wp2
      go_ret2
      exact ⟨ret_ii H.out.2.symm H.out.1.symm, _, rfl⟩
    · have b2 : decide (10000 < y) = false := decide_eq_false h2
      by_cases h3 : d < 1
      · have H := Lib.hid (numE_no (y := y) (m := m) (d := d) (fun h => by omega))
        have b3 : decide (d < 1) = true := decide_eq_true h3
        go_enter Tryz.func102, Tryz.ntmps102
        go_wp2_with fail
        go_quiet (fail)
        go_wp2
        go_ret2
        exact ⟨ret_ii H.out.2.symm H.out.1.symm, _, rfl⟩
      · have b3 : decide (d < 1) = false := decide_eq_false h3
        by_cases h4 : Cal.mlen y m < d
        · have H := Lib.hid (numE_no (y := y) (m := m) (d := d) (fun h => by omega))
          have b4 : decide (Cal.mlen y m < d) = true := decide_eq_true h4
          go_enter Tryz.func102, Tryz.ntmps102
          go_wp2_with fail
          go_quiet ((go_at_call 101; exact quiet_left (len_any _ _ _)))
          go_wp2
          go_ret2
          exact ⟨ret_ii H.out.2.symm H.out.1.symm, _, rfl⟩
        · have b4 : decide (Cal.mlen y m < d) = false := decide_eq_false h4
          have H := Lib.hid (numE_yes (y := y) (m := m) (d := d) (by omega))
          obtain ⟨m1, m2⟩ := Cal.mlen_pos (y := y) (m := m) (by omega)
          obtain ⟨n1, n2⟩ := Cal.ny_bd (y := y) (by omega) (by omega)
          obtain ⟨c1, c2⟩ := Cal.cum_bd (y := y) m1 m2
          obtain ⟨p1, p2⟩ := Cal.lp_01 y
          have HN := Lib.hid (show Cal.num y m d = Cal.ny y + Cal.cum y m + d - 1 from rfl)
          go_enter Tryz.func102, Tryz.ntmps102
          go_wp2_with fail
          go_quiet ((go_at_call 101; exact quiet_left (len_any _ _ _)))
          go_wp2_with fail
          go_quiet ((first | (go_at_call 127; exact quiet_add_left (newYear_any _ _ (by omega) (by omega))) | (go_at_call 128; exact quiet_add_left (before_any _ _ _ (Ahead.drewN (Ahead.alloc HA.out _) _) m1 m2))))
          go_wp2
          go_ret2
          exact ⟨ret_ii (by rw [H.out.2, HN.out]) H.out.1.symm, _, World.drewN_drewN _ _ _⟩

theorem number_any (y m d : Int) (w : World) (hA : Ahead w) (i1 : -9223372036854775808 ≤ d) (i2 : d ≤ 9223372036854775807) :
    Calls Tryz.prog 102 #[.agg #[.int .i64 y, .int .i64 m, .int .i64 d]] w fun e w' => e = .returned (.tuple #[.int .i64 (numV y m d), .int .i64 (numE y m d)]) ∧ Below w.heap.size w w' :=
  (number_w y m d w hA i1 i2).mono fun _ _ ⟨he, n, hw⟩ => ⟨he, by rw [hw]; exact below_drewN ((Below.refl _ _).alloc (Nat.le_refl _) _) _⟩

def dnE (n : Int) : Int := if -719528 ≤ n ∧ n ≤ 2933262 then 0 else 23
def ydV (n : Int) : Int := if -719528 ≤ n ∧ n ≤ 2933262 then n - Cal.ny (Cal.yr n) + 1 else 0
theorem dn_no {n : Int} (h : ¬ (-719528 ≤ n ∧ n ≤ 2933262)) : dnE n = 23 ∧ ydV n = 0 := by
  rw [dnE, ydV, if_neg h, if_neg h]; exact ⟨rfl, rfl⟩
theorem dn_yes {n : Int} (h : -719528 ≤ n ∧ n ≤ 2933262) : dnE n = 0 ∧ ydV n = n - Cal.ny (Cal.yr n) + 1 := by
  rw [dnE, ydV, if_pos h, if_pos h]; exact ⟨rfl, rfl⟩

def dY (n : Int) : Int := if -719528 ≤ n ∧ n ≤ 2933262 then Cal.yr n else 0
def dM (n : Int) : Int := if -719528 ≤ n ∧ n ≤ 2933262 then Cal.mon (Cal.yr n) (n - Cal.ny (Cal.yr n)) else 0
def dD (n : Int) : Int := if -719528 ≤ n ∧ n ≤ 2933262 then n - Cal.ny (Cal.yr n) - Cal.cum (Cal.yr n) (Cal.mon (Cal.yr n) (n - Cal.ny (Cal.yr n))) + 1 else 0
theorem dd_no {n : Int} (h : ¬ (-719528 ≤ n ∧ n ≤ 2933262)) : dY n = 0 ∧ dM n = 0 ∧ dD n = 0 := by
  rw [dY, dM, dD, if_neg h, if_neg h, if_neg h]; exact ⟨rfl, rfl, rfl⟩
theorem dd_yes {n : Int} (h : -719528 ≤ n ∧ n ≤ 2933262) : dY n = Cal.yr n ∧ dM n = Cal.mon (Cal.yr n) (n - Cal.ny (Cal.yr n)) ∧ dD n = n - Cal.ny (Cal.yr n) - Cal.cum (Cal.yr n) (Cal.mon (Cal.yr n) (n - Cal.ny (Cal.yr n))) + 1 := by
  rw [dY, dM, dD, if_pos h, if_pos h, if_pos h]; exact ⟨rfl, rfl, rfl⟩
theorem ret_di {a a' b b' c c' e e' : Int} (h : a = a') (h2 : b = b') (h3 : c = c') (k : e = e') : Ending.returned (.tuple #[.agg #[.int .i64 a, .int .i64 b, .int .i64 c], .int .i64 e]) = .returned (.tuple #[.agg #[.int .i64 a', .int .i64 b', .int .i64 c'], .int .i64 e']) := by rw [h, h2, h3, k]

end Civ
end Go.Proofs.YthefgagmjamdkaaGreatDoor
/-
  Small facts that the laws of the calendar and of the week share: worlds that grow, numbers of dates and back.
-/
namespace Go.Proofs.YthefgagmjamdkaaGreatDoor
open Go.RowKit
namespace Civ
theorem u64_nn (n : Int) : 0 ≤ IntKind.u64.wrap n := by
  rw [IntKind.wrap_u64]; omega
theorem bcell {W w1 : World} (hb : Below W.heap.size W w1) : (∀ b o, b < W.heap.size → w1.cell? ⟨b, o, none⟩ = W.cell? ⟨b, o, none⟩) ∧ (∀ b o, b < W.heap.size → w1.frozen? ⟨b, o, none⟩ = W.frozen? ⟨b, o, none⟩) :=
  ⟨fun b o h => hb.cell (p := ⟨b, o, none⟩) h, fun b o h => hb.frozen (p := ⟨b, o, none⟩) h⟩
theorem below_chain {w w1 X w2 : World} (h1 : Below w.heap.size w w1) (h2 : Below w1.heap.size w1 X) (h3 : Below X.heap.size X w2) : Below w.heap.size w w2 :=
  (h1.trans (h2.mono h1.size)).trans (h3.mono (Nat.le_trans h1.size h2.size))
theorem num_bd {Y M D : Int} (h0 : 0 ≤ Y) (h1 : Y ≤ 10000) (m1 : 1 ≤ M) (m2 : M ≤ 12) (d1 : 1 ≤ D) (d2 : D ≤ Cal.mlen Y M) :
    numE Y M D = 0 ∧ numV Y M D = Cal.num Y M D ∧ Cal.ny Y ≤ Cal.num Y M D ∧ Cal.num Y M D < Cal.ny (Y + 1) ∧ -719528 ≤ Cal.num Y M D ∧ Cal.num Y M D ≤ 2933262 := by
  obtain ⟨k1, k2⟩ := numE_yes (y := Y) (m := M) (d := D) ⟨h0, h1, d1, d2⟩
  obtain ⟨n1, n2⟩ := Cal.ny_bd (y := Y) h0 (by omega)
  obtain ⟨n3, n4⟩ := Cal.ny_bd (y := Y + 1) (by omega) (by omega)
  obtain ⟨p1, p2⟩ := Cal.cum_bd (y := Y) m1 m2
  have s := Cal.ny_succ Y
  refine ⟨k1, k2, ?_, ?_, ?_, ?_⟩ <;> unfold Cal.num <;> omega
theorem yd_of {Y n : Int} (h1 : Cal.ny Y ≤ n) (h2 : n < Cal.ny (Y + 1)) (h3 : -719528 ≤ n) (h4 : n ≤ 2933262) : dnE n = 0 ∧ ydV n = n - Cal.ny Y + 1 := by
  obtain ⟨a, b⟩ := dn_yes (n := n) ⟨h3, h4⟩
  exact ⟨a, by rw [b, Cal.yr_of h1 h2 h3 h4]⟩
end Civ
end Go.Proofs.YthefgagmjamdkaaGreatDoor
/-
  Contracts of package week: isWeekday, since, until, Check, Resolve.
-/
namespace Go.Proofs.YthefgagmjamdkaaGreatDoor
open Go.RowKit
namespace Wk
open Civ
def isW (w : Int) : Bool := decide (0 ≤ w ∧ w ≤ 6)
def since (w n : Int) : Int := (Cal.wday n - w + 7) % 7
def untl (n w : Int) : Int := (w - Cal.wday n + 7) % 7
def onOk (k w d : Int) : Bool := decide ((k = 1 ∧ (1 ≤ d ∧ d ≤ 31) ∧ w = 0) ∨ (k = 2 ∧ (0 ≤ w ∧ w ≤ 6) ∧ d = 0) ∨ ((k = 3 ∨ k = 4) ∧ (0 ≤ w ∧ w ≤ 6) ∧ (1 ≤ d ∧ d ≤ 31)))
def chE (k w d : Int) : Int := if onOk k w d then 0 else 8
theorem wday_bd (n : Int) : 0 ≤ Cal.wday n ∧ Cal.wday n ≤ 6 := by unfold Cal.wday; omega
theorem since_bd (w n : Int) : 0 ≤ since w n ∧ since w n ≤ 6 := by unfold since; omega
theorem untl_bd (n w : Int) : 0 ≤ untl n w ∧ untl n w ≤ 6 := by unfold untl; omega

theorem isW_any (n : Int) (w : World) :
    Calls Tryz.prog 116 #[.int .i64 n] w fun e w' => e = .returned (.bool (isW n)) ∧ w = w' := by
  by_cases h1 : 0 ≤ n
  · by_cases h2 : n ≤ 6
    · have H := Lib.hid (decide_eq_true (show 0 ≤ n ∧ n ≤ 6 from ⟨h1, h2⟩))
      go_enter Tryz.func116, Tryz.ntmps116
      go_wp2
      go_ret
      exact ⟨ret_b H.out.symm, rfl⟩
    · have H := Lib.hid (decide_eq_false (show ¬ (0 ≤ n ∧ n ≤ 6) from fun h => h2 h.2))
      go_enter Tryz.func116, Tryz.ntmps116
      go_wp2
      go_ret
      exact ⟨ret_b H.out.symm, rfl⟩
  · have H := Lib.hid (decide_eq_false (show ¬ (0 ≤ n ∧ n ≤ 6) from fun h => h1 h.1))
    go_enter Tryz.func116, Tryz.ntmps116
    go_wp2
    go_ret
    exact ⟨ret_b H.out.symm, rfl⟩
theorem isW_yes {n : Int} (h : 0 ≤ n ∧ n ≤ 6) : isW n = true := decide_eq_true h
theorem isW_no {n : Int} (h : ¬ (0 ≤ n ∧ n ≤ 6)) : isW n = false := decide_eq_false h

theorem since_any (k n : Int) (w : World) (h0 : 0 ≤ k) (h1 : k ≤ 6) :
    Calls Tryz.prog 103 #[.int .i64 k, .int .i64 n] w fun e w' => e = .returned (.int .i64 (since k n)) ∧ w = w' := by
  have b := wday_bd n
  go_enter Tryz.func103, Tryz.ntmps103
  go_wp2_with (go_at_call 129; refine (weekday_any _ _).mono ?_; rintro e w' ⟨rfl, rfl⟩)
  go_ret
  exact ⟨rfl, rfl⟩
theorem until_any (n k : Int) (w : World) (h0 : 0 ≤ k) (h1 : k ≤ 6) :
    Calls Tryz.prog 104 #[.int .i64 n, .int .i64 k] w fun e w' => e = .returned (.int .i64 (untl n k)) ∧ w = w' := by
  have b := wday_bd n
  go_enter Tryz.func104, Tryz.ntmps104
  go_wp2_with (go_at_call 129; refine (weekday_any _ _).mono ?_; rintro e w' ⟨rfl, rfl⟩)
  go_ret
  exact ⟨rfl, rfl⟩
theorem onOk_mk {k w d : Int} (h : (k = 1 ∧ (1 ≤ d ∧ d ≤ 31) ∧ w = 0) ∨ (k = 2 ∧ (0 ≤ w ∧ w ≤ 6) ∧ d = 0) ∨ ((k = 3 ∨ k = 4) ∧ (0 ≤ w ∧ w ≤ 6) ∧ (1 ≤ d ∧ d ≤ 31))) : onOk k w d = true := decide_eq_true h
theorem onOk_no {k w d : Int} (h : ¬ ((k = 1 ∧ (1 ≤ d ∧ d ≤ 31) ∧ w = 0) ∨ (k = 2 ∧ (0 ≤ w ∧ w ≤ 6) ∧ d = 0) ∨ ((k = 3 ∨ k = 4) ∧ (0 ≤ w ∧ w ≤ 6) ∧ (1 ≤ d ∧ d ≤ 31)))) : onOk k w d = false := decide_eq_false h
theorem chE_yes {k w d : Int} (h : onOk k w d = true) : chE k w d = 0 := by rw [chE, h]; rfl
theorem chE_no {k w d : Int} (h : onOk k w d = false) : chE k w d = 8 := by rw [chE, h]; rfl

set_option maxHeartbeats 1600000 in
theorem check_any (k v d : Int) (w : World) :
    Calls Tryz.prog 87 #[.agg #[.int .i64 k, .int .i64 v, .int .i64 d]] w fun e w' => e = .returned (.int .i64 (chE k v d)) ∧ w.alloc (Obj.cells #[.int .i64 k, .int .i64 v, .int .i64 d] 26) = w' := by
  have hk : k = 1 ∨ k = 2 ∨ k = 3 ∨ k = 4 ∨ ¬ (k = 1 ∨ k = 2 ∨ k = 3 ∨ k = 4) := by omega
  have hv : v = 0 ∨ (v ≠ 0 ∧ isW v = true ∧ 0 ≤ v ∧ v ≤ 6) ∨ (v ≠ 0 ∧ isW v = false ∧ ¬ (0 ≤ v ∧ v ≤ 6)) := by
    by_cases c : 0 ≤ v ∧ v ≤ 6
    · by_cases c0 : v = 0
      · exact Or.inl c0
      · exact Or.inr (Or.inl ⟨c0, isW_yes c, c⟩)
    · exact Or.inr (Or.inr ⟨by omega, isW_no c, c⟩)
  have hz : isW 0 = true := rfl
  have hd : d = 0 ∨ (d ≠ 0 ∧ 1 ≤ d ∧ d ≤ 31) ∨ (d ≠ 0 ∧ d < 1) ∨ (d ≠ 0 ∧ 31 < d) := by omega
  rcases hk with rfl | rfl | rfl | rfl | hk
  all_goals rcases hv with rfl | ⟨v0, hw, v1, v2⟩ | ⟨v0, hw, v1⟩
  all_goals rcases hd with rfl | ⟨d0, d1, d2⟩ | ⟨d0, d1⟩ | ⟨d0, d1⟩
  all_goals try have b1 : (v == 0) = false := beq_eq_false_iff_ne.2 v0
  all_goals try have b2 : (d == 0) = false := beq_eq_false_iff_ne.2 d0
  all_goals try have c1 : (k == 1) = false := beq_eq_false_iff_ne.2 (by omega)
  all_goals try have c2 : (k == 2) = false := beq_eq_false_iff_ne.2 (by omega)
  all_goals try have c3 : (k == 3) = false := beq_eq_false_iff_ne.2 (by omega)
  all_goals try have c4 : (k == 4) = false := beq_eq_false_iff_ne.2 (by omega)
  all_goals
    go_enter Tryz.func87, Tryz.ntmps87
    go_wp2_with (go_at_call 116; refine (isW_any _ _).mono ?_; rintro e w' ⟨rfl, rfl⟩)
    all_goals go_ret
    all_goals exact ⟨ret_i (by first | (refine (chE_yes (onOk_mk ?_)).symm; omega) | (refine (chE_no (onOk_no ?_)).symm; omega) | (exfalso; omega) | (exfalso; simp_all; done) | (exfalso; simp_all; omega)), rfl⟩

def rday (y m k d : Int) : Int := if k = 2 then Cal.mlen y m else d
def resE (y m k v d : Int) : Int := if onOk k v d then (if 1 ≤ y ∧ y ≤ 9999 then numE y m (rday y m k d) else 23) else 8
def resV (y m k v d : Int) : Int := if resE y m k v d = 0 then (if k = 2 ∨ k = 4 then Cal.num y m (rday y m k d) - since v (Cal.num y m (rday y m k d)) else if k = 3 then Cal.num y m (rday y m k d) + untl (Cal.num y m (rday y m k d)) v else Cal.num y m (rday y m k d)) else 0
theorem res_8 {y m k v d : Int} (h : onOk k v d = false) : resE y m k v d = 8 ∧ resV y m k v d = 0 := by
  have e : resE y m k v d = 8 := by rw [resE, h]; rfl
  exact ⟨e, by rw [resV, e]; rfl⟩
theorem res_23 {y m k v d : Int} (h : onOk k v d = true) (hy : ¬ (1 ≤ y ∧ y ≤ 9999)) : resE y m k v d = 23 ∧ resV y m k v d = 0 := by
  have e : resE y m k v d = 23 := by rw [resE, if_pos h, if_neg hy]
  exact ⟨e, by rw [resV, e]; rfl⟩
theorem res_4 {y m k v d : Int} (h : onOk k v d = true) (hy : 1 ≤ y ∧ y ≤ 9999) (hn : numE y m (rday y m k d) = 4) : resE y m k v d = 4 ∧ resV y m k v d = 0 := by
  have e : resE y m k v d = 4 := by rw [resE, if_pos h, if_pos hy, hn]
  exact ⟨e, by rw [resV, e]; rfl⟩
theorem res_0 {y m k v d : Int} (h : onOk k v d = true) (hy : 1 ≤ y ∧ y ≤ 9999) (hn : numE y m (rday y m k d) = 0) : resE y m k v d = 0 ∧ resV y m k v d = (if k = 2 ∨ k = 4 then Cal.num y m (rday y m k d) - since v (Cal.num y m (rday y m k d)) else if k = 3 then Cal.num y m (rday y m k d) + untl (Cal.num y m (rday y m k d)) v else Cal.num y m (rday y m k d)) := by
  have e : resE y m k v d = 0 := by rw [resE, if_pos h, if_pos hy, hn]
  exact ⟨e, by rw [resV, if_pos e]⟩
theorem onOk_v {k v d : Int} (h : onOk k v d = true) : (0 ≤ v ∧ v ≤ 6) ∧ (1 ≤ k ∧ k ≤ 4) ∧ (0 ≤ d ∧ d ≤ 31) := by
  have := of_decide_eq_true h
  omega
theorem numE_04 (y m d : Int) : numE y m d = 0 ∨ numE y m d = 4 := by
  unfold numE; split
  · exact Or.inl rfl
  · exact Or.inr rfl
theorem numE_0 {y m d : Int} (h : numE y m d = 0) : numV y m d = Cal.num y m d ∧ -719528 ≤ Cal.num y m d ∧ Cal.num y m d ≤ 2933262 := by
  have hv : 0 ≤ y ∧ y ≤ 10000 ∧ 1 ≤ d ∧ d ≤ Cal.mlen y m := by
    by_cases hv : 0 ≤ y ∧ y ≤ 10000 ∧ 1 ≤ d ∧ d ≤ Cal.mlen y m
    · exact hv
    · have := (numE_no (y := y) (m := m) (d := d) hv).1; omega
  obtain ⟨m1, m2⟩ := Cal.mlen_pos (y := y) (m := m) (by omega)
  obtain ⟨_, b, _, _, e, f⟩ := num_bd hv.1 hv.2.1 m1 m2 hv.2.2.1 hv.2.2.2
  exact ⟨b, e, f⟩
end Wk
end Go.Proofs.YthefgagmjamdkaaGreatDoor
/-
  Contracts of package week, its second part: Resolve.
-/
namespace Go.Proofs.YthefgagmjamdkaaGreatDoor
open Go.RowKit
namespace Wk
open Civ
theorem numE_4 {y m d : Int} (h : numE y m d = 4) : numV y m d = 0 := by
  by_cases hv : Cal.valid y m d = true
  · rw [numE, if_pos hv] at h; omega
  · rw [numV, if_neg hv]
theorem check_at (k v d c : Int) (w : World) (h : Hid (chE k v d = c)) :
    Calls Tryz.prog 87 #[.agg #[.int .i64 k, .int .i64 v, .int .i64 d]] w fun e w' => e = .returned (.int .i64 c) ∧ w.alloc (Obj.cells #[.int .i64 k, .int .i64 v, .int .i64 d] 26) = w' :=
  (check_any k v d w).mono fun _ _ ⟨he, hw⟩ => ⟨by rw [he, h.out], hw⟩
theorem number_at (y m d n c : Int) (w : World) (hA : Ahead w) (i1 : -9223372036854775808 ≤ d) (i2 : d ≤ 9223372036854775807) (h1 : Hid (numV y m d = n)) (h2 : Hid (numE y m d = c)) :
    Calls Tryz.prog 102 #[.agg #[.int .i64 y, .int .i64 m, .int .i64 d]] w fun e w' => e = .returned (.tuple #[.int .i64 n, .int .i64 c]) ∧ ∃ n, w' = (w.alloc (Obj.cells #[.int .i64 y, .int .i64 m, .int .i64 d] 89)).drewN n :=
  (number_w y m d w hA i1 i2).mono fun _ _ ⟨he, hw⟩ => ⟨by rw [he, h1.out, h2.out], hw⟩

set_option maxRecDepth 100000 in
set_option maxHeartbeats 3200000 in
theorem resolve_any (y m k v d : Int) (w : World) (hA : Ahead w) :
    Calls Tryz.prog 81 #[.int .i64 y, .int .i64 m, .agg #[.int .i64 k, .int .i64 v, .int .i64 d]] w fun e w' => e = .returned (.tuple #[.int .i64 (resV y m k v d), .int .i64 (resE y m k v d)]) ∧ Below w.heap.size w w' := by
  have HA := Lib.hid hA
  clear hA
  cases ho : onOk k v d with
  | false =>
    have H := Lib.hid (res_8 (y := y) (m := m) ho)
    have HC := Lib.hid (chE_no ho)
    go_enter Tryz.func81, Tryz.ntmps81
    go_wp2_with (go_at_call 87; refine (check_at _ _ _ _ _ HC).mono ?_; rintro e w' ⟨rfl, rfl⟩)
    go_ret2
    exact ⟨ret_ii H.out.2.symm H.out.1.symm, by repeat (first | exact Below.refl _ _ | refine Below.setCell ?_ (by simp) _ | refine below_drewN ?_ _ | refine Below.drew ?_ | refine Below.alloc ?_ (by simp; try omega) _)⟩
  | true =>
    have HC := Lib.hid (chE_yes ho)
    obtain ⟨⟨v0, v6⟩, ⟨k1, k4⟩, d0, d31⟩ := onOk_v ho
    by_cases hy : 1 ≤ y ∧ y ≤ 9999
    · obtain ⟨y1, y9⟩ := hy
      obtain ⟨D, hD⟩ : ∃ D, rday y m k d = D := ⟨_, rfl⟩
      have bD : 0 ≤ D ∧ D ≤ 31 := by
        rw [← hD, rday]
        have := Cal.mlen_bd y m
        split <;> omega
      rcases numE_04 y m D with hn | hn
      · obtain ⟨g1, g2, g3⟩ := numE_0 hn
        have HR := res_0 ho ⟨y1, y9⟩ (by rw [hD]; exact hn)
        rw [hD] at HR
        obtain ⟨n, hnn⟩ : ∃ n, Cal.num y m D = n := ⟨_, rfl⟩
        rw [hnn] at g1 g2 g3 HR
        have G1 := Lib.hid g1
        have G0 := Lib.hid hn
        have s1 := since_bd v n
        have s2 := untl_bd n v
        have hk : k = 1 ∨ k = 2 ∨ k = 3 ∨ k = 4 := by omega
        clear g1 hn hnn
        rcases hk with rfl | rfl | rfl | rfl
        · rw [if_neg (by decide), if_neg (by decide)] at HR
          have H := Lib.hid HR
          rw [rday, if_neg (by decide)] at hD
          subst hD
          clear HR ho
          go_enter Tryz.func81, Tryz.ntmps81
          go_wp2_with (first | (go_at_call 87; refine (check_at _ _ _ _ _ HC).mono ?_; rintro e w' ⟨rfl, rfl⟩) | (go_at_call 102; refine (number_at _ _ _ _ _ _ (HA.out.stays (by repeat (first | exact Below.refl _ _ | refine Below.setCell ?_ (by simp) _ | refine below_drewN ?_ _ | refine Below.drew ?_ | refine Below.alloc ?_ (by simp; try omega) _))) (by omega) (by omega) G1 G0).mono ?_; rintro e w' ⟨rfl, q, rfl⟩))
          go_ret2
          exact ⟨ret_ii H.out.2.symm H.out.1.symm, by repeat (first | exact Below.refl _ _ | refine Below.setCell ?_ (by simp) _ | refine below_drewN ?_ _ | refine Below.drew ?_ | refine Below.alloc ?_ (by simp; try omega) _)⟩
        · rw [if_pos (by decide)] at HR
          have H := Lib.hid HR
          rw [rday, if_pos (by decide)] at hD
          have HDD := Lib.hid hD
          clear HR ho hD
          go_enter Tryz.func81, Tryz.ntmps81
          go_wp2_with (first | (go_at_call 87; refine (check_at _ _ _ _ _ HC).mono ?_; rintro e w' ⟨rfl, rfl⟩) | (go_at_call 101; refine (len_any _ _ _).mono ?_; rintro e w' ⟨rfl, rfl⟩; rw [HDD.out]) | (go_at_call 102; refine (number_at _ _ _ _ _ _ (HA.out.stays (by repeat (first | exact Below.refl _ _ | refine Below.setCell ?_ (by simp) _ | refine below_drewN ?_ _ | refine Below.drew ?_ | refine Below.alloc ?_ (by simp; try omega) _))) (by omega) (by omega) G1 G0).mono ?_; rintro e w' ⟨rfl, q, rfl⟩) | (go_at_call 103; refine (since_any _ _ _ (by omega) (by omega)).mono ?_; rintro e w' ⟨rfl, rfl⟩))
          go_ret2
          exact ⟨ret_ii H.out.2.symm H.out.1.symm, by repeat (first | exact Below.refl _ _ | refine Below.setCell ?_ (by simp) _ | refine below_drewN ?_ _ | refine Below.drew ?_ | refine Below.alloc ?_ (by simp; try omega) _)⟩
        · rw [if_neg (by decide), if_pos (by decide)] at HR
          have H := Lib.hid HR
          rw [rday, if_neg (by decide)] at hD
          subst hD
          clear HR ho
          go_enter Tryz.func81, Tryz.ntmps81
          go_wp2_with (first | (go_at_call 87; refine (check_at _ _ _ _ _ HC).mono ?_; rintro e w' ⟨rfl, rfl⟩) | (go_at_call 102; refine (number_at _ _ _ _ _ _ (HA.out.stays (by repeat (first | exact Below.refl _ _ | refine Below.setCell ?_ (by simp) _ | refine below_drewN ?_ _ | refine Below.drew ?_ | refine Below.alloc ?_ (by simp; try omega) _))) (by omega) (by omega) G1 G0).mono ?_; rintro e w' ⟨rfl, q, rfl⟩) | (go_at_call 104; refine (until_any _ _ _ (by omega) (by omega)).mono ?_; rintro e w' ⟨rfl, rfl⟩))
          go_ret2
          exact ⟨ret_ii H.out.2.symm H.out.1.symm, by repeat (first | exact Below.refl _ _ | refine Below.setCell ?_ (by simp) _ | refine below_drewN ?_ _ | refine Below.drew ?_ | refine Below.alloc ?_ (by simp; try omega) _)⟩
        · rw [if_pos (by decide)] at HR
          have H := Lib.hid HR
          rw [rday, if_neg (by decide)] at hD
          subst hD
          clear HR ho
          go_enter Tryz.func81, Tryz.ntmps81
          go_wp2_with (first | (go_at_call 87; refine (check_at _ _ _ _ _ HC).mono ?_; rintro e w' ⟨rfl, rfl⟩) | (go_at_call 102; refine (number_at _ _ _ _ _ _ (HA.out.stays (by repeat (first | exact Below.refl _ _ | refine Below.setCell ?_ (by simp) _ | refine below_drewN ?_ _ | refine Below.drew ?_ | refine Below.alloc ?_ (by simp; try omega) _))) (by omega) (by omega) G1 G0).mono ?_; rintro e w' ⟨rfl, q, rfl⟩) | (go_at_call 103; refine (since_any _ _ _ (by omega) (by omega)).mono ?_; rintro e w' ⟨rfl, rfl⟩))
          go_ret2
          exact ⟨ret_ii H.out.2.symm H.out.1.symm, by repeat (first | exact Below.refl _ _ | refine Below.setCell ?_ (by simp) _ | refine below_drewN ?_ _ | refine Below.drew ?_ | refine Below.alloc ?_ (by simp; try omega) _)⟩
      · have H := Lib.hid (res_4 ho ⟨y1, y9⟩ (by rw [hD]; exact hn))
        have G1 : Hid (numV y m D = 0) := Lib.hid (numE_4 hn)
        have G0 := Lib.hid hn
        clear hn ho
        by_cases h2 : k = 2
        · subst h2
          rw [rday, if_pos (by decide)] at hD
          have HDD := Lib.hid hD
          clear hD
          go_enter Tryz.func81, Tryz.ntmps81
          go_wp2_with (first | (go_at_call 87; refine (check_at _ _ _ _ _ HC).mono ?_; rintro e w' ⟨rfl, rfl⟩) | (go_at_call 101; refine (len_any _ _ _).mono ?_; rintro e w' ⟨rfl, rfl⟩; rw [HDD.out]) | (go_at_call 102; refine (number_at _ _ _ _ _ _ (HA.out.stays (by repeat (first | exact Below.refl _ _ | refine Below.setCell ?_ (by simp) _ | refine below_drewN ?_ _ | refine Below.drew ?_ | refine Below.alloc ?_ (by simp; try omega) _))) (by omega) (by omega) G1 G0).mono ?_; rintro e w' ⟨rfl, q, rfl⟩))
          go_ret2
          exact ⟨ret_ii H.out.2.symm H.out.1.symm, by repeat (first | exact Below.refl _ _ | refine Below.setCell ?_ (by simp) _ | refine below_drewN ?_ _ | refine Below.drew ?_ | refine Below.alloc ?_ (by simp; try omega) _)⟩
        · rw [rday, if_neg h2] at hD
          subst hD
          have b2 : (k == 2) = false := beq_eq_false_iff_ne.2 h2
          clear h2
          go_enter Tryz.func81, Tryz.ntmps81
          go_wp2_with (first | (go_at_call 87; refine (check_at _ _ _ _ _ HC).mono ?_; rintro e w' ⟨rfl, rfl⟩) | (go_at_call 102; refine (number_at _ _ _ _ _ _ (HA.out.stays (by repeat (first | exact Below.refl _ _ | refine Below.setCell ?_ (by simp) _ | refine below_drewN ?_ _ | refine Below.drew ?_ | refine Below.alloc ?_ (by simp; try omega) _))) (by omega) (by omega) G1 G0).mono ?_; rintro e w' ⟨rfl, q, rfl⟩))
          go_ret2
          exact ⟨ret_ii H.out.2.symm H.out.1.symm, by repeat (first | exact Below.refl _ _ | refine Below.setCell ?_ (by simp) _ | refine below_drewN ?_ _ | refine Below.drew ?_ | refine Below.alloc ?_ (by simp; try omega) _)⟩
    · have H := Lib.hid (res_23 (m := m) ho hy)
      by_cases hy1 : y < 1
      · clear hy ho
        go_enter Tryz.func81, Tryz.ntmps81
        go_wp2_with (go_at_call 87; refine (check_at _ _ _ _ _ HC).mono ?_; rintro e w' ⟨rfl, rfl⟩)
        go_ret2
        exact ⟨ret_ii H.out.2.symm H.out.1.symm, by repeat (first | exact Below.refl _ _ | refine Below.setCell ?_ (by simp) _ | refine below_drewN ?_ _ | refine Below.drew ?_ | refine Below.alloc ?_ (by simp; try omega) _)⟩
      · have hy2 : 9999 < y := by omega
        clear hy ho
        go_enter Tryz.func81, Tryz.ntmps81
        go_wp2_with (go_at_call 87; refine (check_at _ _ _ _ _ HC).mono ?_; rintro e w' ⟨rfl, rfl⟩)
        go_ret2
        exact ⟨ret_ii H.out.2.symm H.out.1.symm, by repeat (first | exact Below.refl _ _ | refine Below.setCell ?_ (by simp) _ | refine below_drewN ?_ _ | refine Below.drew ?_ | refine Below.alloc ?_ (by simp; try omega) _)⟩
end Wk
end Go.Proofs.YthefgagmjamdkaaGreatDoor
