/-
  Contracts of the reference's calls on the calendar: Div, In, Long, Len.
-/
import Derived.Test.YtikjlnkpcjjigaaDoorCiv3
namespace Go.Proofs.YtikjlnkpcjjigaaDoor
open Go.RowKit
namespace Civ
theorem rtq_neg {a b : Int} (hb : 1 ≤ b) (h : a.tmod b < 0) : a / b = a.tdiv b - 1 ∧ a % b = a.tmod b + b := by
  have h1 := Int.tdiv_eq_ediv (a := a) (b := b)
  have h2 := Int.tmod_eq_emod (a := a) (b := b)
  have h3 := Int.emod_nonneg a (show b ≠ 0 by omega)
  have hs : b.sign = 1 := Int.sign_eq_one_of_pos (by omega)
  split at h2
  · omega
  · rename_i hn
    rw [if_neg hn, hs] at h1
    omega
theorem rtq_nn {a b : Int} (hb : 1 ≤ b) (h : ¬ a.tmod b < 0) : a / b = a.tdiv b ∧ a % b = a.tmod b := by
  have h1 := Int.tdiv_eq_ediv (a := a) (b := b)
  have h2 := Int.tmod_eq_emod (a := a) (b := b)
  have h3 := Int.emod_lt_of_pos a (show 0 < b by omega)
  split at h2
  · rename_i hn
    rw [if_pos hn] at h1
    omega
  · omega
theorem rtq_bd {a b : Int} (hb : 1 ≤ b) (h1 : -9223372036854775808 ≤ a) (h2 : a ≤ 9223372036854775807) :
    (-9223372036854775808 ≤ a.tdiv b ∧ a.tdiv b ≤ 9223372036854775807) ∧ (-b < a.tmod b ∧ a.tmod b < b) ∧ (a.tmod b < 0 → -9223372036854775807 ≤ a.tdiv b) := by
  have k := Int.natAbs_tdiv_le_natAbs a b
  have m1 := Int.tmod_lt_of_pos a (show 0 < b by omega)
  have m2 := Int.lt_tmod_of_pos a (show 0 < b by omega)
  have e := rtq_neg (a := a) hb
  have lo : -9223372036854775808 ≤ a / b := by
    have := Int.le_ediv_of_mul_le (a := -9223372036854775808) (b := a) (c := b) (by omega) (by omega)
    exact this
  have hi : a.tdiv b ≤ 9223372036854775807 := by
    by_cases ha : 0 ≤ a
    · omega
    · have k2 := Int.ediv_neg_of_neg_of_pos (a := a) (b := b) (by omega) (by omega)
      by_cases hr : a.tmod b < 0
      · have := (e hr).1; omega
      · have := (rtq_nn hb hr).1; omega
  refine ⟨⟨by omega, hi⟩, ⟨by omega, m1⟩, fun h => by have := (e h).1; omega⟩
theorem ret_ii' {a a' b b' : Int} (h : a = a') (k : b = b') : Ending.returned (.tuple #[.int .i64 a, .int .i64 b]) = .returned (.tuple #[.int .i64 a', .int .i64 b']) := by rw [h, k]

theorem rin_any (n lo hi : Int) (w : World) :
    Calls Tryd.prog 21 #[.int .i64 n, .int .i64 lo, .int .i64 hi] w fun e w' => e = .returned (.bool (decide (lo ≤ n ∧ n ≤ hi))) ∧ w = w' := by
  by_cases h1 : lo ≤ n
  · by_cases h2 : n ≤ hi
    · have H := Lib.hid (decide_eq_true (show lo ≤ n ∧ n ≤ hi from ⟨h1, h2⟩))
      go_enter Tryd.func21, Tryd.ntmps21
      go_wp2
      go_ret
      exact ⟨ret_b H.out.symm, rfl⟩
    · have H := Lib.hid (decide_eq_false (show ¬ (lo ≤ n ∧ n ≤ hi) from fun h => h2 h.2))
      go_enter Tryd.func21, Tryd.ntmps21
      go_wp2
      go_ret
      exact ⟨ret_b (decide_eq_false (by omega)).symm, rfl⟩
  · have H := Lib.hid (decide_eq_false (show ¬ (lo ≤ n ∧ n ≤ hi) from fun h => h1 h.1))
    go_enter Tryd.func21, Tryd.ntmps21
    go_wp2
    go_ret
    exact ⟨ret_b (by rw [decide_eq_false (show ¬ lo ≤ n by omega)]; rfl), rfl⟩

theorem rin_yes (n lo hi : Int) (w : World) (h : lo ≤ n ∧ n ≤ hi) :
    Calls Tryd.prog 21 #[.int .i64 n, .int .i64 lo, .int .i64 hi] w fun e w' => e = .returned (.bool true) ∧ w = w' :=
  (rin_any n lo hi w).mono fun _ _ ⟨he, hw⟩ => ⟨by rw [he, decide_eq_true h], hw⟩
theorem rin_no (n lo hi : Int) (w : World) (h : ¬ (lo ≤ n ∧ n ≤ hi)) :
    Calls Tryd.prog 21 #[.int .i64 n, .int .i64 lo, .int .i64 hi] w fun e w' => e = .returned (.bool false) ∧ w = w' :=
  (rin_any n lo hi w).mono fun _ _ ⟨he, hw⟩ => ⟨by rw [he, decide_eq_false h], hw⟩

end Civ
end Go.Proofs.YtikjlnkpcjjigaaDoor
