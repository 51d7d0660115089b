/-
  Contracts of the reference's calls on numbers: In, Bound, Div, digit, Digits, Value.
-/
import Derived.Test.YtikjlnkpcjjigaaDoorPow
namespace Go.Proofs.YtikjlnkpcjjigaaDoor
open Go.RowKit
namespace RNum
theorem ret_ii {a a' b b' : Int} (h : a = a') (k : b = b') : Ending.returned (.tuple #[.int .i64 a, .int .i64 b]) = .returned (.tuple #[.int .i64 a', .int .i64 b']) := by rw [h, k]
theorem rin_any (n lo hi : Int) (b : Bool) (w : World) (h : Hid (b = decide (lo ≤ n ∧ n ≤ hi))) :
    Calls Tryd.prog 21 #[.int .i64 n, .int .i64 lo, .int .i64 hi] w fun e w' => e = .returned (.bool b) ∧ w = w' := by
  by_cases h1 : lo ≤ n
  · by_cases h2 : n ≤ hi
    · have H := Lib.hid (h.out.trans (decide_eq_true (show lo ≤ n ∧ n ≤ hi from ⟨h1, h2⟩)))
      go_enter Tryd.func21, Tryd.ntmps21
      go_wp2
      go_ret
      exact ⟨ret_b H.out.symm, rfl⟩
    · have H := Lib.hid (h.out.trans (decide_eq_false (show ¬ (lo ≤ n ∧ n ≤ hi) from fun h => h2 h.2)))
      go_enter Tryd.func21, Tryd.ntmps21
      go_wp2
      go_ret
      exact ⟨ret_b H.out.symm, rfl⟩
  · have H := Lib.hid (h.out.trans (decide_eq_false (show ¬ (lo ≤ n ∧ n ≤ hi) from fun h => h1 h.1)))
    go_enter Tryd.func21, Tryd.ntmps21
    go_wp2
    go_ret
    exact ⟨ret_b H.out.symm, rfl⟩

theorem rbound_any (n : Int) (w : World) :
    Calls Tryd.prog 20 #[.int .i64 n] w fun e w' => e = .returned (.bool (Sol.inB n)) ∧ w = w' := by
  have H : Hid (Sol.inB n = decide (-4611686018427387904 ≤ n ∧ n ≤ 4611686018427387904)) := Lib.hid rfl
  go_enter Tryd.func20, Tryd.ntmps20
  go_wp2_with (go_at_call 21; refine (rin_any _ _ _ _ _ H).mono ?_; rintro e w' ⟨rfl, rfl⟩)
  go_ret
  exact ⟨rfl, rfl⟩

theorem rdigit_any (c : UInt8) (w : World) :
    Calls Tryd.prog 58 #[.int .u8 (c.toNat : Int)] w fun e w' => e = .returned (.bool (Sol.isDig c)) ∧ w = w' := by
  by_cases h1 : 48 ≤ (c.toNat : Int)
  · by_cases h2 : (c.toNat : Int) ≤ 57
    · have H := Lib.hid ((Sol.isDig_iff c).2 ⟨h1, h2⟩)
      go_enter Tryd.func58, Tryd.ntmps58
      go_wp2
      go_ret
      exact ⟨ret_b H.out.symm, rfl⟩
    · have H := Lib.hid (Sol.isDig_hi h2)
      go_enter Tryd.func58, Tryd.ntmps58
      go_wp2
      go_ret
      exact ⟨ret_b H.out.symm, rfl⟩
  · have H := Lib.hid (Sol.isDig_lo h1)
    go_enter Tryd.func58, Tryd.ntmps58
    go_wp2
    go_ret
    exact ⟨ret_b H.out.symm, rfl⟩
end RNum
end Go.Proofs.YtikjlnkpcjjigaaDoor
