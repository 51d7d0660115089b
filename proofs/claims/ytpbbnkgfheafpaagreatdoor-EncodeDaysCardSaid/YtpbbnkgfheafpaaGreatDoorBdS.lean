/-
  Several texts in one (RefCiv, RefCiv2, RefCiv3).
-/
import Derived.Test.YtpbbnkgfheafpaaGreatDoorBdD
/-
  Contracts of the reference's calls on the calendar: Div, In, Long, Len.
-/
namespace Go.Proofs.YtpbbnkgfheafpaaGreatDoor
open Go.RowKit
namespace Civ
theorem rtq_neg {a b : Int} (hb : 1 ≤ b) (h : a.tmod b < 0) : a / b = a.tdiv b - 1 ∧ a % b = a.tmod b + b := by
  have h1 := Int.tdiv_eq_ediv (a := a) (b := b)
  have h2 := Int.tmod_eq_emod (a := a) (b := b)
  have h3 := Int.emod_nonneg a (show b ≠ 0 by omega)
  have hs : b.sign = 1 := Int.sign_eq_one_of_pos (by omega)
  split at h2
  · omega
  · rename_i hn
    rw [if_neg hn, hs] at h1
    omega
theorem rtq_nn {a b : Int} (hb : 1 ≤ b) (h : ¬ a.tmod b < 0) : a / b = a.tdiv b ∧ a % b = a.tmod b := by
  have h1 := Int.tdiv_eq_ediv (a := a) (b := b)
  have h2 := Int.tmod_eq_emod (a := a) (b := b)
  have h3 := Int.emod_lt_of_pos a (show 0 < b by omega)
  split at h2
  · rename_i hn
    rw [if_pos hn] at h1
    omega
  · omega
theorem rtq_bd {a b : Int} (hb : 1 ≤ b) (h1 : -9223372036854775808 ≤ a) (h2 : a ≤ 9223372036854775807) :
    (-9223372036854775808 ≤ a.tdiv b ∧ a.tdiv b ≤ 9223372036854775807) ∧ (-b < a.tmod b ∧ a.tmod b < b) ∧ (a.tmod b < 0 → -9223372036854775807 ≤ a.tdiv b) := by
  have k := Int.natAbs_tdiv_le_natAbs a b
  have m1 := Int.tmod_lt_of_pos a (show 0 < b by omega)
  have m2 := Int.lt_tmod_of_pos a (show 0 < b by omega)
  have e := rtq_neg (a := a) hb
  have lo : -9223372036854775808 ≤ a / b := by
    have := Int.le_ediv_of_mul_le (a := -9223372036854775808) (b := a) (c := b) (by omega) (by omega)
    exact this
  have hi : a.tdiv b ≤ 9223372036854775807 := by
    by_cases ha : 0 ≤ a
    · omega
    · have k2 := Int.ediv_neg_of_neg_of_pos (a := a) (b := b) (by omega) (by omega)
      by_cases hr : a.tmod b < 0
      · have := (e hr).1; omega
      · have := (rtq_nn hb hr).1; omega
  refine ⟨⟨by omega, hi⟩, ⟨by omega, m1⟩, fun h => by have := (e h).1; omega⟩
theorem ret_ii' {a a' b b' : Int} (h : a = a') (k : b = b') : Ending.returned (.tuple #[.int .i64 a, .int .i64 b]) = .returned (.tuple #[.int .i64 a', .int .i64 b']) := by rw [h, k]

end Civ
end Go.Proofs.YtpbbnkgfheafpaaGreatDoor
/-
  Contracts of the reference's calls on the calendar, second part: Weekday, Right, Number, Least, Most.
-/
namespace Go.Proofs.YtpbbnkgfheafpaaGreatDoor
open Go.RowKit
namespace Civ
theorem quiet_drew {P : Program} {f : FuncId} {args : Array Value} {w : World} {n : Nat} {v : Value}
    (h : Calls P f args (w.drewN n) fun e w' => e = .returned v ∧ ∃ k, w' = (w.drewN n).drewN k) : Calls P f args (w.drewN n) fun e w'' => e = .returned v ∧ ∃ m, w'' = w.drewN m :=
  h.mono fun _ _ ⟨he, k, hk⟩ => ⟨he, n + k, by rw [hk, World.drewN_drewN]⟩

theorem num_least : Cal.num 0 1 1 = -719528 := by decide +kernel
theorem num_most : Cal.num 10000 12 31 = 2933262 := by decide +kernel
end Civ
end Go.Proofs.YtpbbnkgfheafpaaGreatDoor
/-
  Contracts of the reference's calls on the calendar, third part: Date, YearDay.
-/
namespace Go.Proofs.YtpbbnkgfheafpaaGreatDoor
open Go.RowKit
namespace Civ
theorem below_block {w : World} {o : Obj} {wr : World} (h : Below (w.alloc o).heap.size (w.alloc o) wr) : Below w.heap.size w wr :=
  ((Below.refl _ _).alloc (Nat.le_refl _) o).trans (h.mono (by simp))
theorem guess366 {n : Int} (h0 : -719528 ≤ n) : 0 ≤ (n + 719528) / 366 ∧ Cal.ny ((n + 719528) / 366) ≤ n := by
  have k : 366 * ((n + 719528) / 366) ≤ n + 719528 := by omega
  have k0 : 0 ≤ (n + 719528) / 366 := by omega
  generalize (n + 719528) / 366 = g at *
  unfold Cal.ny; omega
/-- What holds at the head of the walk over the months: the month reached, and either the first of it with what is left, or the day. -/
def RD (y r : Int) (m dd l : Int) : Prop := (dd = 1 ∧ l = r - Cal.cum y m ∧ 0 ≤ l ∧ 1 ≤ m ∧ m ≤ 12 ∧ m ≤ Cal.mon y r) ∨ (l = 0 ∧ m = Cal.mon y r ∧ dd = r - Cal.cum y m + 1)
theorem rd_next {y r m dd l : Int} (r0 : 0 ≤ r) (r1 : r < 365 + Cal.lp y) (h : RD y r m dd l) (hl : 0 < l) (hc : Cal.mlen y m ≤ l) : RD y r (m + 1) dd (l - Cal.mlen y m) ∧ m ≤ 11 := by
  rcases h with ⟨e1, e2, e3, e4, e5, e6⟩ | ⟨e1, _⟩
  · obtain ⟨s1, s2, s3, s4⟩ := Cal.mon_spec (y := y) (r := r) r0 r1
    have hlt : m < Cal.mon y r := by
      rcases Int.lt_or_le m (Cal.mon y r) with k | k
      · exact k
      · have e : m = Cal.mon y r := by omega
        rw [← e] at s4; omega
    have hs := Cal.cum_succ (y := y) (m := m) e4 (by omega)
    exact ⟨Or.inl ⟨e1, by omega, by omega, by omega, by omega, by omega⟩, by omega⟩
  · omega
theorem rd_last {y r m dd l : Int} (h : RD y r m dd l) (hl : 0 < l) (hc : ¬ Cal.mlen y m ≤ l) : RD y r m (l + 1) 0 := by
  rcases h with ⟨e1, e2, e3, e4, e5, e6⟩ | ⟨e1, _⟩
  · have hm : Cal.mon y r = m := Cal.mon_of e4 e5 (by omega) (by omega)
    exact Or.inr ⟨rfl, hm.symm, by omega⟩
  · omega
theorem rd_end {y r m dd l : Int} (h : RD y r m dd l) (hl : ¬ 0 < l) : m = Cal.mon y r ∧ dd = r - Cal.cum y (Cal.mon y r) + 1 := by
  rcases h with ⟨e1, e2, e3, e4, e5, e6⟩ | ⟨e1, e2, e3⟩
  · have l28 := Cal.mlen_28 (y := y) e4 e5
    have hm : Cal.mon y r = m := Cal.mon_of e4 e5 (by omega) (by omega)
    exact ⟨hm.symm, by rw [hm]; omega⟩
  · exact ⟨e2, by rw [e3, e2]⟩
theorem rd_bd {y r m dd l : Int} (r0 : 0 ≤ r) (r1 : r < 365 + Cal.lp y) (h : RD y r m dd l) : 0 ≤ l ∧ l ≤ 366 ∧ 1 ≤ m ∧ m ≤ 12 := by
  have lp := Cal.lp_01 y
  obtain ⟨s1, s2, s3, s4⟩ := Cal.mon_spec (y := y) (r := r) r0 r1
  rcases h with ⟨e1, e2, e3, e4, e5, e6⟩ | ⟨e1, e2, e3⟩
  · have c := Cal.cum_bd (y := y) e4 e5
    exact ⟨e3, by omega, e4, e5⟩
  · omega
theorem rd_start {y r : Int} (r0 : 0 ≤ r) (r1 : r < 365 + Cal.lp y) : RD y r 1 1 r := by
  obtain ⟨s1, s2, s3, s4⟩ := Cal.mon_spec (y := y) (r := r) r0 r1
  exact Or.inl ⟨rfl, by rw [Cal.cum_1]; omega, r0, by omega, by omega, s1⟩
/-- The cells of a date that may be written. -/
def DC (a : Nat) (y m d : Int) (w : World) : Prop := w.cell? ⟨a, 0, none⟩ = some (.int .i64 y) ∧ w.cell? ⟨a, 1, none⟩ = some (.int .i64 m) ∧ w.cell? ⟨a, 2, none⟩ = some (.int .i64 d) ∧
  w.frozen? ⟨a, 0, none⟩ = false ∧ w.frozen? ⟨a, 1, none⟩ = false ∧ w.frozen? ⟨a, 2, none⟩ = false ∧ a < w.heap.size

end Civ
end Go.Proofs.YtpbbnkgfheafpaaGreatDoor
