/-
  Several texts in one (RefCiv, RefCiv2, RefCiv3).
-/
import Derived.Test.YthefgagmjamdkaaGreatDoorBdD
/-
  Contracts of the reference's calls on the calendar: Div, In, Long, Len.
-/
namespace Go.Proofs.YthefgagmjamdkaaGreatDoor
open Go.RowKit
namespace Civ
theorem rtq_neg {a b : Int} (hb : 1 ≤ b) (h : a.tmod b < 0) : a / b = a.tdiv b - 1 ∧ a % b = a.tmod b + b := by
  have h1 := Int.tdiv_eq_ediv (a := a) (b := b)
  have h2 := Int.tmod_eq_emod (a := a) (b := b)
  have h3 := Int.emod_nonneg a (show b ≠ 0 by omega)
  have hs : b.sign = 1 := Int.sign_eq_one_of_pos (by omega)
  split at h2
  · omega
  · rename_i hn
    rw [if_neg hn, hs] at h1
    omega
theorem rtq_nn {a b : Int} (hb : 1 ≤ b) (h : ¬ a.tmod b < 0) : a / b = a.tdiv b ∧ a % b = a.tmod b := by
  have h1 := Int.tdiv_eq_ediv (a := a) (b := b)
  have h2 := Int.tmod_eq_emod (a := a) (b := b)
  have h3 := Int.emod_lt_of_pos a (show 0 < b by omega)
  split at h2
  · rename_i hn
    rw [if_pos hn] at h1
    omega
  · omega
theorem rtq_bd {a b : Int} (hb : 1 ≤ b) (h1 : -9223372036854775808 ≤ a) (h2 : a ≤ 9223372036854775807) :
    (-9223372036854775808 ≤ a.tdiv b ∧ a.tdiv b ≤ 9223372036854775807) ∧ (-b < a.tmod b ∧ a.tmod b < b) ∧ (a.tmod b < 0 → -9223372036854775807 ≤ a.tdiv b) := by
  have k := Int.natAbs_tdiv_le_natAbs a b
  have m1 := Int.tmod_lt_of_pos a (show 0 < b by omega)
  have m2 := Int.lt_tmod_of_pos a (show 0 < b by omega)
  have e := rtq_neg (a := a) hb
  have lo : -9223372036854775808 ≤ a / b := by
    have := Int.le_ediv_of_mul_le (a := -9223372036854775808) (b := a) (c := b) (by omega) (by omega)
    exact this
  have hi : a.tdiv b ≤ 9223372036854775807 := by
    by_cases ha : 0 ≤ a
    · omega
    · have k2 := Int.ediv_neg_of_neg_of_pos (a := a) (b := b) (by omega) (by omega)
      by_cases hr : a.tmod b < 0
      · have := (e hr).1; omega
      · have := (rtq_nn hb hr).1; omega
  refine ⟨⟨by omega, hi⟩, ⟨by omega, m1⟩, fun h => by have := (e h).1; omega⟩
theorem ret_ii' {a a' b b' : Int} (h : a = a') (k : b = b') : Ending.returned (.tuple #[.int .i64 a, .int .i64 b]) = .returned (.tuple #[.int .i64 a', .int .i64 b']) := by rw [h, k]

set_option maxHeartbeats 400000 in
theorem rdiv_any (a b : Int) (w : World) (h1 : 1 ≤ b) (hb : b ≤ 4611686018427387904) (a1 : -9223372036854775808 ≤ a) (a2 : a ≤ 9223372036854775807) :
    Calls Tryz.prog 91 #[.int .i64 a, .int .i64 b] w fun e w' => e = .returned (.tuple #[.int .i64 (a / b), .int .i64 (a % b)]) ∧ ∃ n, w' = w.drewN n := by
  obtain ⟨⟨t1, t2⟩, ⟨t3, t4⟩, t5⟩ := rtq_bd h1 a1 a2
  by_cases hr : a.tmod b < 0
  · have K := Lib.hid (rtq_neg h1 hr)
    have t6 := t5 hr
    have hn : ¬ 0 ≤ a := fun h => by have := Int.tmod_nonneg b h; omega
    clear t5
    go_enter Tryz.func91, Tryz.ntmps91
    go_wp2_with fail
    go_quiet (fail)
    go_wp2
    go_ret2
    exact ⟨ret_ii' K.out.1.symm K.out.2.symm, _, rfl⟩
  · have K := Lib.hid (rtq_nn h1 hr)
    have hm := Int.emod_nonneg a (show b ≠ 0 by omega)
    clear t5
    by_cases hn : 0 ≤ a
    · go_enter Tryz.func91, Tryz.ntmps91
      go_wp2_with fail
      go_quiet (fail)
      go_wp2
      go_ret2
      exact ⟨ret_ii' K.out.1.symm rfl, _, rfl⟩
    · go_enter Tryz.func91, Tryz.ntmps91
      go_wp2_with fail
      go_quiet (fail)
      go_wp2
      go_ret2
      exact ⟨ret_ii' K.out.1.symm K.out.2.symm, _, rfl⟩

theorem rin_any (n lo hi : Int) (w : World) :
    Calls Tryz.prog 70 #[.int .i64 n, .int .i64 lo, .int .i64 hi] w fun e w' => e = .returned (.bool (decide (lo ≤ n ∧ n ≤ hi))) ∧ w = w' := by
  by_cases h1 : lo ≤ n
  · by_cases h2 : n ≤ hi
    · have H := Lib.hid (decide_eq_true (show lo ≤ n ∧ n ≤ hi from ⟨h1, h2⟩))
      go_enter Tryz.func70, Tryz.ntmps70
      go_wp2
      go_ret
      exact ⟨ret_b H.out.symm, rfl⟩
    · have H := Lib.hid (decide_eq_false (show ¬ (lo ≤ n ∧ n ≤ hi) from fun h => h2 h.2))
      go_enter Tryz.func70, Tryz.ntmps70
      go_wp2
      go_ret
      exact ⟨ret_b (decide_eq_false (by omega)).symm, rfl⟩
  · have H := Lib.hid (decide_eq_false (show ¬ (lo ≤ n ∧ n ≤ hi) from fun h => h1 h.1))
    go_enter Tryz.func70, Tryz.ntmps70
    go_wp2
    go_ret
    exact ⟨ret_b (by rw [decide_eq_false (show ¬ lo ≤ n by omega)]; rfl), rfl⟩

theorem rin_yes (n lo hi : Int) (w : World) (h : lo ≤ n ∧ n ≤ hi) :
    Calls Tryz.prog 70 #[.int .i64 n, .int .i64 lo, .int .i64 hi] w fun e w' => e = .returned (.bool true) ∧ w = w' :=
  (rin_any n lo hi w).mono fun _ _ ⟨he, hw⟩ => ⟨by rw [he, decide_eq_true h], hw⟩
theorem rin_no (n lo hi : Int) (w : World) (h : ¬ (lo ≤ n ∧ n ≤ hi)) :
    Calls Tryz.prog 70 #[.int .i64 n, .int .i64 lo, .int .i64 hi] w fun e w' => e = .returned (.bool false) ∧ w = w' :=
  (rin_any n lo hi w).mono fun _ _ ⟨he, hw⟩ => ⟨by rw [he, decide_eq_false h], hw⟩

set_option maxHeartbeats 800000 in
theorem rlong_any (y : Int) (w : World) (a1 : -9223372036854775808 ≤ y) (a2 : y ≤ 9223372036854775807) :
    Calls Tryz.prog 90 #[.int .i64 y] w fun e w' => e = .returned (.bool (Cal.long y)) ∧ ∃ n, w' = w.drewN n := by
  have e4 := em y 4
  have e100 := em_ne y 100
  have e400 := em y 400
  have H : Hid (Cal.long y = (decide (y % 4 = 0) && (!decide (y % 100 = 0) || decide (y % 400 = 0)))) := Lib.hid (by
    rw [Cal.long, Bool.eq_iff_iff]; simp)
  obtain ⟨c4, h4⟩ : ∃ c, decide (y % 4 = 0) = c := ⟨_, rfl⟩
  obtain ⟨c100, h100⟩ : ∃ c, decide (y % 100 = 0) = c := ⟨_, rfl⟩
  obtain ⟨c400, h400⟩ : ∃ c, decide (y % 400 = 0) = c := ⟨_, rfl⟩
  rw [h4] at e4 H
  rw [h100] at e100 H
  rw [h400] at e400 H
  clear h4 h100 h400
  go_enter Tryz.func90, Tryz.ntmps90
  go_wp2_with fail
  refine (rdiv_any _ _ _ (by omega) (by omega) (by omega) (by omega)).mono ?_
  rintro e w1 ⟨rfl, n1, rfl⟩
  go_wp2_with fail
  refine (rdiv_any _ _ _ (by omega) (by omega) (by omega) (by omega)).mono ?_
  rintro e w1 ⟨rfl, n2, rfl⟩
  go_wp2_with fail
  refine (rdiv_any _ _ _ (by omega) (by omega) (by omega) (by omega)).mono ?_
  rintro e w1 ⟨rfl, n3, rfl⟩
  generalize y % 4 = r4 at *
  generalize y % 100 = r100 at *
  generalize y % 400 = r400 at *
  cases c4 <;> cases c100 <;> cases c400
  all_goals
    go_wp2
    go_ret
    exact ⟨ret_b (by rw [H.out]; rfl), _, rfl⟩

set_option maxHeartbeats 1600000 in
theorem rlen_any (y m : Int) (w : World) (a1 : -9223372036854775808 ≤ y) (a2 : y ≤ 9223372036854775807) :
    Calls Tryz.prog 71 #[.int .i64 y, .int .i64 m] w fun e w' => e = .returned (.int .i64 (Cal.mlen y m)) ∧ ∃ n, w' = w.drewN n := by
  by_cases hm : 1 ≤ m ∧ m ≤ 12
  · by_cases h2 : m = 2
    · subst h2
      cases hl : Cal.long y with
      | true =>
        have H : Hid (Cal.mlen y 2 = 29) := Lib.hid (by rw [Cal.mlen, if_pos rfl, lp_yes hl]; rfl)
        go_enter Tryz.func71, Tryz.ntmps71
        go_wp2_with (first | (go_at_call 70; refine (rin_yes _ _ _ _ (by omega)).mono ?_; rintro e w' ⟨rfl, rfl⟩) | (go_at_call 90; refine (rlong_any _ _ a1 a2).mono ?_; rintro e w' ⟨rfl, n, rfl⟩))
        go_ret
        exact ⟨ret_i H.out.symm, _, rfl⟩
      | false =>
        have H : Hid (Cal.mlen y 2 = 28) := Lib.hid (by rw [Cal.mlen, if_pos rfl, lp_no hl]; rfl)
        go_enter Tryz.func71, Tryz.ntmps71
        go_wp2_with (first | (go_at_call 70; refine (rin_yes _ _ _ _ (by omega)).mono ?_; rintro e w' ⟨rfl, rfl⟩) | (go_at_call 90; refine (rlong_any _ _ a1 a2).mono ?_; rintro e w' ⟨rfl, n, rfl⟩))
        go_ret
        exact ⟨ret_i H.out.symm, _, rfl⟩
    · have hv : m = 1 ∨ m = 3 ∨ m = 4 ∨ m = 5 ∨ m = 6 ∨ m = 7 ∨ m = 8 ∨ m = 9 ∨ m = 10 ∨ m = 11 ∨ m = 12 := by omega
      clear hm h2
      rcases hv with h | h | h | h | h | h | h | h | h | h | h <;> subst h
      all_goals
        go_enter Tryz.func71, Tryz.ntmps71
        go_wp2_with (go_at_call 70; refine (rin_yes _ _ _ _ (by omega)).mono ?_; rintro e w' ⟨rfl, rfl⟩)
        go_ret
        exact ⟨rfl, 0, rfl⟩
  · have H := Lib.hid (mlen_out (y := y) hm)
    go_enter Tryz.func71, Tryz.ntmps71
    go_wp2_with (go_at_call 70; refine (rin_no _ _ _ _ hm).mono ?_; rintro e w' ⟨rfl, rfl⟩)
    go_ret
    exact ⟨ret_i H.out.symm, 0, rfl⟩

end Civ
end Go.Proofs.YthefgagmjamdkaaGreatDoor
/-
  Contracts of the reference's calls on the calendar, second part: Weekday, Right, Number, Least, Most.
-/
namespace Go.Proofs.YthefgagmjamdkaaGreatDoor
open Go.RowKit
namespace Civ
theorem quiet_drew {P : Program} {f : FuncId} {args : Array Value} {w : World} {n : Nat} {v : Value}
    (h : Calls P f args (w.drewN n) fun e w' => e = .returned v ∧ ∃ k, w' = (w.drewN n).drewN k) : Calls P f args (w.drewN n) fun e w'' => e = .returned v ∧ ∃ m, w'' = w.drewN m :=
  h.mono fun _ _ ⟨he, k, hk⟩ => ⟨he, n + k, by rw [hk, World.drewN_drewN]⟩

theorem rweekday_any (n : Int) (w : World) (a1 : -9223372036854775808 ≤ n) (a2 : n ≤ 9223372036854775807) :
    Calls Tryz.prog 73 #[.int .i64 n] w fun e w' => e = .returned (.int .i64 (Cal.wday n)) ∧ ∃ q, w' = w.drewN q := by
  have H := Lib.hid (show (n % 7 + 4) % 7 = Cal.wday n by unfold Cal.wday; omega)
  go_enter Tryz.func73, Tryz.ntmps73
  go_wp2_with fail
  refine (rdiv_any _ _ _ (by omega) (by omega) (by omega) (by omega)).mono ?_
  rintro e w1 ⟨rfl, q1, rfl⟩
  have r0 : 0 ≤ n % 7 := by omega
  have r1 : n % 7 < 7 := by omega
  go_wp2
  go_ret
  exact ⟨ret_i H.out, _, rfl⟩

set_option maxHeartbeats 1600000 in
theorem rnum_w (y m d : Int) (w : World) (y0 : 0 ≤ y) (y1 : y ≤ 10000) (m0 : 1 ≤ m) (m1 : m ≤ 12) (d0 : 1 ≤ d) (d1 : d ≤ 31) :
    Calls Tryz.prog 72 #[.agg #[.int .i64 y, .int .i64 m, .int .i64 d]] w fun e w' => e = .returned (.int .i64 (Cal.num y m d)) ∧ ∃ q, w' = (w.alloc (Obj.cells #[.int .i64 y, .int .i64 m, .int .i64 d] 89)).drewN q := by
  have HN := Lib.hid (show Cal.num y m d = Cal.ny y + Cal.cum y m + d - 1 from rfl)
  have HY : Hid (365 * y + (y + 3) / 4 - (y + 99) / 100 + (y + 399) / 400 = Cal.ny y + 719528) := Lib.hid (by unfold Cal.ny; omega)
  have HC := Lib.hid (fun k (a : 1 ≤ k) (b : k ≤ 12) => Cal.cum_bd (y := y) a b)
  have HS := Lib.hid (fun k (a : 1 ≤ k) (b : k ≤ 11) => Cal.cum_succ (y := y) a b)
  obtain ⟨n1, n2⟩ := Cal.ny_bd (y := y) y0 (by omega)
  have lp := Cal.lp_01 y
  go_enter Tryz.func72, Tryz.ntmps72
  go_wp2
  go_loopw [4, 5] (fun n i wr => ∃ k : Int, 1 ≤ k ∧ k ≤ m ∧ i = .int .i64 k ∧ n = .int .i64 (Cal.ny y + 719528 + Cal.cum y k) ∧ ∃ q, wr = (w.alloc (Obj.cells #[.int .i64 y, .int .i64 m, .int .i64 d] 89)).drewN q) (fun _ i _ => (m - intOf i).toNat)
  case atStart => exact ⟨1, by omega, by omega, rfl, congrArg _ (by rw [Cal.cum_1, HY.out]; omega), 0, rfl⟩
  case round =>
    obtain ⟨k, k0, k1, rfl, rfl, q, rfl⟩ := hrel
    obtain ⟨c0, c1⟩ := HC.out k k0 (by omega)
    have lb := Cal.mlen_bd y k
    by_cases hk : k < m
    · have hs := Lib.hid (HS.out k k0 (by omega))
      go_wp2_with fail
      refine (rlen_any _ _ _ (by omega) (by omega)).mono ?_
      rintro e w1 ⟨rfl, q1, rfl⟩
      go_wp2
      go_roundw
      case rel => exact ⟨k + 1, by omega, by omega, rfl, congrArg _ (by rw [hs.out]; omega), _, rfl⟩
      case measure => simp [intOf]; omega
    · obtain rfl : k = m := by omega
      go_wp2
      go_ret
      exact ⟨ret_i (by rw [HN.out]; omega), _, rfl⟩
theorem rnum_any (y m d : Int) (w : World) (y0 : 0 ≤ y) (y1 : y ≤ 10000) (m0 : 1 ≤ m) (m1 : m ≤ 12) (d0 : 1 ≤ d) (d1 : d ≤ 31) :
    Calls Tryz.prog 72 #[.agg #[.int .i64 y, .int .i64 m, .int .i64 d]] w fun e w' => e = .returned (.int .i64 (Cal.num y m d)) ∧ Below w.heap.size w w' :=
  (rnum_w y m d w y0 y1 m0 m1 d0 d1).mono fun _ _ ⟨he, q, hw⟩ => ⟨he, by rw [hw]; exact below_drewN ((Below.refl _ _).alloc (Nat.le_refl _) _) _⟩

theorem num_least : Cal.num 0 1 1 = -719528 := by decide +kernel
theorem num_most : Cal.num 10000 12 31 = 2933262 := by decide +kernel
end Civ
end Go.Proofs.YthefgagmjamdkaaGreatDoor
/-
  Contracts of the reference's calls on the calendar, third part: Date, YearDay.
-/
namespace Go.Proofs.YthefgagmjamdkaaGreatDoor
open Go.RowKit
namespace Civ
theorem below_block {w : World} {o : Obj} {wr : World} (h : Below (w.alloc o).heap.size (w.alloc o) wr) : Below w.heap.size w wr :=
  ((Below.refl _ _).alloc (Nat.le_refl _) o).trans (h.mono (by simp))
theorem guess366 {n : Int} (h0 : -719528 ≤ n) : 0 ≤ (n + 719528) / 366 ∧ Cal.ny ((n + 719528) / 366) ≤ n := by
  have k : 366 * ((n + 719528) / 366) ≤ n + 719528 := by omega
  have k0 : 0 ≤ (n + 719528) / 366 := by omega
  generalize (n + 719528) / 366 = g at *
  unfold Cal.ny; omega
/-- What holds at the head of the walk over the months: the month reached, and either the first of it with what is left, or the day. -/
def RD (y r : Int) (m dd l : Int) : Prop := (dd = 1 ∧ l = r - Cal.cum y m ∧ 0 ≤ l ∧ 1 ≤ m ∧ m ≤ 12 ∧ m ≤ Cal.mon y r) ∨ (l = 0 ∧ m = Cal.mon y r ∧ dd = r - Cal.cum y m + 1)
theorem rd_next {y r m dd l : Int} (r0 : 0 ≤ r) (r1 : r < 365 + Cal.lp y) (h : RD y r m dd l) (hl : 0 < l) (hc : Cal.mlen y m ≤ l) : RD y r (m + 1) dd (l - Cal.mlen y m) ∧ m ≤ 11 := by
  rcases h with ⟨e1, e2, e3, e4, e5, e6⟩ | ⟨e1, _⟩
  · obtain ⟨s1, s2, s3, s4⟩ := Cal.mon_spec (y := y) (r := r) r0 r1
    have hlt : m < Cal.mon y r := by
      rcases Int.lt_or_le m (Cal.mon y r) with k | k
      · exact k
      · have e : m = Cal.mon y r := by omega
        rw [← e] at s4; omega
    have hs := Cal.cum_succ (y := y) (m := m) e4 (by omega)
    exact ⟨Or.inl ⟨e1, by omega, by omega, by omega, by omega, by omega⟩, by omega⟩
  · omega
theorem rd_last {y r m dd l : Int} (h : RD y r m dd l) (hl : 0 < l) (hc : ¬ Cal.mlen y m ≤ l) : RD y r m (l + 1) 0 := by
  rcases h with ⟨e1, e2, e3, e4, e5, e6⟩ | ⟨e1, _⟩
  · have hm : Cal.mon y r = m := Cal.mon_of e4 e5 (by omega) (by omega)
    exact Or.inr ⟨rfl, hm.symm, by omega⟩
  · omega
theorem rd_end {y r m dd l : Int} (h : RD y r m dd l) (hl : ¬ 0 < l) : m = Cal.mon y r ∧ dd = r - Cal.cum y (Cal.mon y r) + 1 := by
  rcases h with ⟨e1, e2, e3, e4, e5, e6⟩ | ⟨e1, e2, e3⟩
  · have l28 := Cal.mlen_28 (y := y) e4 e5
    have hm : Cal.mon y r = m := Cal.mon_of e4 e5 (by omega) (by omega)
    exact ⟨hm.symm, by rw [hm]; omega⟩
  · exact ⟨e2, by rw [e3, e2]⟩
theorem rd_bd {y r m dd l : Int} (r0 : 0 ≤ r) (r1 : r < 365 + Cal.lp y) (h : RD y r m dd l) : 0 ≤ l ∧ l ≤ 366 ∧ 1 ≤ m ∧ m ≤ 12 := by
  have lp := Cal.lp_01 y
  obtain ⟨s1, s2, s3, s4⟩ := Cal.mon_spec (y := y) (r := r) r0 r1
  rcases h with ⟨e1, e2, e3, e4, e5, e6⟩ | ⟨e1, e2, e3⟩
  · have c := Cal.cum_bd (y := y) e4 e5
    exact ⟨e3, by omega, e4, e5⟩
  · omega
theorem rd_start {y r : Int} (r0 : 0 ≤ r) (r1 : r < 365 + Cal.lp y) : RD y r 1 1 r := by
  obtain ⟨s1, s2, s3, s4⟩ := Cal.mon_spec (y := y) (r := r) r0 r1
  exact Or.inl ⟨rfl, by rw [Cal.cum_1]; omega, r0, by omega, by omega, s1⟩
/-- The cells of a date that may be written. -/
def DC (a : Nat) (y m d : Int) (w : World) : Prop := w.cell? ⟨a, 0, none⟩ = some (.int .i64 y) ∧ w.cell? ⟨a, 1, none⟩ = some (.int .i64 m) ∧ w.cell? ⟨a, 2, none⟩ = some (.int .i64 d) ∧
  w.frozen? ⟨a, 0, none⟩ = false ∧ w.frozen? ⟨a, 1, none⟩ = false ∧ w.frozen? ⟨a, 2, none⟩ = false ∧ a < w.heap.size

end Civ
end Go.Proofs.YthefgagmjamdkaaGreatDoor
