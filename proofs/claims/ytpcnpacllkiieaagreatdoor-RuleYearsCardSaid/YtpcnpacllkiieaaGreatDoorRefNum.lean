/-
  Contracts of the reference's calls on numbers: In, Bound, Div, digit, Digits, Value.
-/
import Derived.Test.YtpcnpacllkiieaaGreatDoorPow
namespace Go.Proofs.YtpcnpacllkiieaaGreatDoor
open Go.RowKit
namespace RNum
theorem ret_ii {a a' b b' : Int} (h : a = a') (k : b = b') : Ending.returned (.tuple #[.int .i64 a, .int .i64 b]) = .returned (.tuple #[.int .i64 a', .int .i64 b']) := by rw [h, k]
theorem rin_any (n lo hi : Int) (b : Bool) (w : World) (h : Hid (b = decide (lo ≤ n ∧ n ≤ hi))) :
    Calls Tryz.prog 101 #[.int .i64 n, .int .i64 lo, .int .i64 hi] w fun e w' => e = .returned (.bool b) ∧ w = w' := by
  by_cases h1 : lo ≤ n
  · by_cases h2 : n ≤ hi
    · have H := Lib.hid (h.out.trans (decide_eq_true (show lo ≤ n ∧ n ≤ hi from ⟨h1, h2⟩)))
      go_enter Tryz.func101, Tryz.ntmps101
      go_wp2
      go_ret
      exact ⟨ret_b H.out.symm, rfl⟩
    · have H := Lib.hid (h.out.trans (decide_eq_false (show ¬ (lo ≤ n ∧ n ≤ hi) from fun h => h2 h.2)))
      go_enter Tryz.func101, Tryz.ntmps101
      go_wp2
      go_ret
      exact ⟨ret_b H.out.symm, rfl⟩
  · have H := Lib.hid (h.out.trans (decide_eq_false (show ¬ (lo ≤ n ∧ n ≤ hi) from fun h => h1 h.1)))
    go_enter Tryz.func101, Tryz.ntmps101
    go_wp2
    go_ret
    exact ⟨ret_b H.out.symm, rfl⟩

set_option maxHeartbeats 400000 in
theorem rdiv_any (a b : Int) (w : World) (h1 : 1 ≤ b) (b2 : b ≤ 4611686018427387904) (a1 : -4611686018427387904 ≤ a) (a2 : a ≤ 4611686018427387904) :
    Calls Tryz.prog 138 #[.int .i64 a, .int .i64 b] w fun e w' => e = .returned (.tuple #[.int .i64 (a / b), .int .i64 (a % b)]) ∧ ∃ n, w' = w.drewN n := by
  obtain ⟨⟨t1, t2⟩, t3, t4⟩ := tq_bd h1 a1 a2
  by_cases hr : a.tmod b < 0
  · have K := Lib.hid (tq_neg h1 hr)
    have hn : ¬ 0 ≤ a := fun h => by have := Int.tmod_nonneg b h; omega
    go_enter Tryz.func138, Tryz.ntmps138
    go_wp2_with fail
    go_quiet (fail)
    go_wp2
    go_ret2
    exact ⟨ret_ii K.out.1.symm K.out.2.symm, _, rfl⟩
  · have K := Lib.hid (tq_nn h1 hr)
    have hm := Int.emod_nonneg a (show b ≠ 0 by omega)
    by_cases hn : 0 ≤ a
    · go_enter Tryz.func138, Tryz.ntmps138
      go_wp2_with fail
      go_quiet (fail)
      go_wp2
      go_ret2
      exact ⟨ret_ii K.out.1.symm rfl, _, rfl⟩
    · go_enter Tryz.func138, Tryz.ntmps138
      go_wp2_with fail
      go_quiet (fail)
      go_wp2
      go_ret2
      exact ⟨ret_ii K.out.1.symm K.out.2.symm, _, rfl⟩

theorem rdigit_any (c : UInt8) (w : World) :
    Calls Tryz.prog 114 #[.int .u8 (c.toNat : Int)] w fun e w' => e = .returned (.bool (Sol.isDig c)) ∧ w = w' := by
  by_cases h1 : 48 ≤ (c.toNat : Int)
  · by_cases h2 : (c.toNat : Int) ≤ 57
    · have H := Lib.hid ((Sol.isDig_iff c).2 ⟨h1, h2⟩)
      go_enter Tryz.func114, Tryz.ntmps114
      go_wp2
      go_ret
      exact ⟨ret_b H.out.symm, rfl⟩
    · have H := Lib.hid (Sol.isDig_hi h2)
      go_enter Tryz.func114, Tryz.ntmps114
      go_wp2
      go_ret
      exact ⟨ret_b H.out.symm, rfl⟩
  · have H := Lib.hid (Sol.isDig_lo h1)
    go_enter Tryz.func114, Tryz.ntmps114
    go_wp2
    go_ret
    exact ⟨ret_b H.out.symm, rfl⟩
end RNum
end Go.Proofs.YtpcnpacllkiieaaGreatDoor
