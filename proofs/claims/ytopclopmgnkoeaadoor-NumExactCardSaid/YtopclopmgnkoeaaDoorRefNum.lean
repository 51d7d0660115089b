/-
  Contracts of the reference's calls on numbers: In, Bound, Add, Mul, Div, digit, Digits, Value.
-/
import Derived.Test.YtopclopmgnkoeaaDoorNum4
namespace Go.Proofs.YtopclopmgnkoeaaDoor
open Go.RowKit
namespace RNum
theorem ret_ii {a a' b b' : Int} (h : a = a') (k : b = b') : Ending.returned (.tuple #[.int .i64 a, .int .i64 b]) = .returned (.tuple #[.int .i64 a', .int .i64 b']) := by rw [h, k]
theorem rin_any (n lo hi : Int) (b : Bool) (w : World) (h : Hid (b = decide (lo ≤ n ∧ n ≤ hi))) :
    Calls Tryd.prog 60 #[.int .i64 n, .int .i64 lo, .int .i64 hi] w fun e w' => e = .returned (.bool b) ∧ w = w' := by
  by_cases h1 : lo ≤ n
  · by_cases h2 : n ≤ hi
    · have H := Lib.hid (h.out.trans (decide_eq_true (show lo ≤ n ∧ n ≤ hi from ⟨h1, h2⟩)))
      go_enter Tryd.func60, Tryd.ntmps60
      go_wp2
      go_ret
      exact ⟨ret_b H.out.symm, rfl⟩
    · have H := Lib.hid (h.out.trans (decide_eq_false (show ¬ (lo ≤ n ∧ n ≤ hi) from fun h => h2 h.2)))
      go_enter Tryd.func60, Tryd.ntmps60
      go_wp2
      go_ret
      exact ⟨ret_b H.out.symm, rfl⟩
  · have H := Lib.hid (h.out.trans (decide_eq_false (show ¬ (lo ≤ n ∧ n ≤ hi) from fun h => h1 h.1)))
    go_enter Tryd.func60, Tryd.ntmps60
    go_wp2
    go_ret
    exact ⟨ret_b H.out.symm, rfl⟩

theorem rbound_any (n : Int) (w : World) :
    Calls Tryd.prog 23 #[.int .i64 n] w fun e w' => e = .returned (.bool (Sol.inB n)) ∧ w = w' := by
  have H : Hid (Sol.inB n = decide (-4611686018427387904 ≤ n ∧ n ≤ 4611686018427387904)) := Lib.hid rfl
  go_enter Tryd.func23, Tryd.ntmps23
  go_wp2_with (go_at_call 60; refine (rin_any _ _ _ _ _ H).mono ?_; rintro e w' ⟨rfl, rfl⟩)
  go_ret
  exact ⟨rfl, rfl⟩

set_option maxHeartbeats 400000 in
theorem radd_any (a b : Int) (w : World) :
    Calls Tryd.prog 19 #[.int .i64 a, .int .i64 b] w fun e w' => e = .returned (.tuple #[.int .i64 (Sol.addV a b), .bool (Sol.addB a b)]) ∧ w = w' := by
  cases ha : Sol.inB a with
  | false =>
    have H := Lib.hid (Sol.addB_a (b := b) ha)
    go_enter Tryd.func19, Tryd.ntmps19
    go_wp2_with (go_at_call 23; refine (rbound_any _ _).mono ?_; rintro e w' ⟨rfl, rfl⟩)
    go_ret2
    exact ⟨ret_ib (Sol.addV_no H.out).symm H.out.symm, rfl⟩
  | true =>
    cases hb : Sol.inB b with
    | false =>
      have H := Lib.hid (Sol.addB_b (a := a) hb)
      go_enter Tryd.func19, Tryd.ntmps19
      go_wp2_with (go_at_call 23; refine (rbound_any _ _).mono ?_; rintro e w' ⟨rfl, rfl⟩)
      go_ret2
      exact ⟨ret_ib (Sol.addV_no H.out).symm H.out.symm, rfl⟩
    | true =>
      have ba := (Sol.inB_iff a).1 ha
      have bb := (Sol.inB_iff b).1 hb
      by_cases h1 : -4611686018427387904 ≤ a + b
      · by_cases h2 : a + b ≤ 4611686018427387904
        · have H := Lib.hid (Sol.addB_mk ha hb ((Sol.inB_iff _).2 ⟨h1, h2⟩))
          by_cases h3 : 0 < b
          · go_enter Tryd.func19, Tryd.ntmps19
            go_wp2_with (go_at_call 23; refine (rbound_any _ _).mono ?_; rintro e w' ⟨rfl, rfl⟩)
            go_ret2
            exact ⟨ret_ib (Sol.addV_yes H.out).symm H.out.symm, rfl⟩
          · go_enter Tryd.func19, Tryd.ntmps19
            go_wp2_with (go_at_call 23; refine (rbound_any _ _).mono ?_; rintro e w' ⟨rfl, rfl⟩)
            all_goals go_ret2
            all_goals exact ⟨ret_ib (Sol.addV_yes H.out).symm H.out.symm, rfl⟩
        · have H := Lib.hid (Sol.addB_s (Sol.inB_hi h2))
          have h3 : 0 < b := by omega
          go_enter Tryd.func19, Tryd.ntmps19
          go_wp2_with (go_at_call 23; refine (rbound_any _ _).mono ?_; rintro e w' ⟨rfl, rfl⟩)
          go_ret2
          exact ⟨ret_ib (Sol.addV_no H.out).symm H.out.symm, rfl⟩
      · have H := Lib.hid (Sol.addB_s (Sol.inB_lo h1))
        have h3 : b < 0 := by omega
        go_enter Tryd.func19, Tryd.ntmps19
        go_wp2_with (go_at_call 23; refine (rbound_any _ _).mono ?_; rintro e w' ⟨rfl, rfl⟩)
        go_ret2
        exact ⟨ret_ib (Sol.addV_no H.out).symm H.out.symm, rfl⟩

set_option maxHeartbeats 800000 in
theorem rmul_any (a b : Int) (w : World) :
    Calls Tryd.prog 20 #[.int .i64 a, .int .i64 b] w fun e w' => e = .returned (.tuple #[.int .i64 (Sol.mulV a b), .bool (Sol.mulB a b)]) ∧ w = w' := by
  cases ha : Sol.inB a with
  | false =>
    have H := Lib.hid (Sol.mulB_a (b := b) ha)
    go_enter Tryd.func20, Tryd.ntmps20
    go_wp2_with (go_at_call 23; refine (rbound_any _ _).mono ?_; rintro e w' ⟨rfl, rfl⟩)
    go_ret2
    exact ⟨ret_ib (Sol.mulV_no H.out).symm H.out.symm, rfl⟩
  | true =>
    cases hb : Sol.inB b with
    | false =>
      have H := Lib.hid (Sol.mulB_b (a := a) hb)
      go_enter Tryd.func20, Tryd.ntmps20
      go_wp2_with (go_at_call 23; refine (rbound_any _ _).mono ?_; rintro e w' ⟨rfl, rfl⟩)
      go_ret2
      exact ⟨ret_ib (Sol.mulV_no H.out).symm H.out.symm, rfl⟩
    | true =>
      obtain ⟨a1, a2⟩ := (Sol.inB_iff a).1 ha
      obtain ⟨b1, b2⟩ := (Sol.inB_iff b).1 hb
      by_cases h0 : a = 0
      · subst h0
        have H : Hid (Sol.mulB 0 b = true) := Lib.hid (Sol.mulB_mk ha hb ((Sol.inB_iff _).2 (by rw [Int.zero_mul]; omega)))
        go_enter Tryd.func20, Tryd.ntmps20
        go_wp2_with (go_at_call 23; refine (rbound_any _ _).mono ?_; rintro e w' ⟨rfl, rfl⟩)
        go_ret2
        exact ⟨ret_ib ((Sol.mulV_yes H.out).trans (Int.zero_mul b)).symm H.out.symm, rfl⟩
      · have n0 : (a == 0) = false := beq_eq_false_iff_ne.2 h0
        by_cases hb0 : b = 0
        · subst hb0
          have H : Hid (Sol.mulB a 0 = true) := Lib.hid (Sol.mulB_mk ha hb ((Sol.inB_iff _).2 (by rw [Int.mul_zero]; omega)))
          clear h0
          go_enter Tryd.func20, Tryd.ntmps20
          go_wp2_with (go_at_call 23; refine (rbound_any _ _).mono ?_; rintro e w' ⟨rfl, rfl⟩)
          go_ret2
          exact ⟨ret_ib ((Sol.mulV_yes H.out).trans (Int.mul_zero a)).symm H.out.symm, rfl⟩
        · have m0 : (b == 0) = false := beq_eq_false_iff_ne.2 hb0
          have ea : max a (-a) = (a.natAbs : Int) := by omega
          have eb : max b (-b) = (b.natAbs : Int) := by omega
          have hpos : 0 < b.natAbs := by omega
          have hq := div_abs hpos
          have k := mul_le (y := a.natAbs) hpos
          have k1 : 1 ≤ max b (-b) := by omega
          by_cases hm : b.natAbs * a.natAbs ≤ 4611686018427387904
          · have hle : max a (-a) ≤ (4611686018427387904 : Int) / max b (-b) := by
              rw [ea, eb, hq]; have := k.2 hm; omega
            have hin := abs_in.2 (show (a * b).natAbs ≤ 4611686018427387904 by rw [Int.natAbs_mul, Nat.mul_comm]; exact hm)
            obtain ⟨c1, c2⟩ := hin
            have H := Lib.hid (Sol.mulB_mk ha hb ((Sol.inB_iff _).2 ⟨c1, c2⟩))
            clear k hm ea eb hq h0 hb0
            go_enter Tryd.func20, Tryd.ntmps20
            go_wp2_with (go_at_call 23; refine (rbound_any _ _).mono ?_; rintro e w' ⟨rfl, rfl⟩)
            go_ret2
            exact ⟨ret_ib (Sol.mulV_yes H.out).symm H.out.symm, rfl⟩
          · have hle : (4611686018427387904 : Int) / max b (-b) < max a (-a) := by
              rw [ea, eb, hq]; have := fun h => hm (k.1 h); omega
            have H := Lib.hid (Sol.mulB_s (a := a) (b := b) (Sol.inB_no (fun h => hm (by have := abs_in.1 h; rwa [Int.natAbs_mul, Nat.mul_comm] at this))))
            clear k hm ea eb hq h0 hb0
            go_enter Tryd.func20, Tryd.ntmps20
            go_wp2_with (go_at_call 23; refine (rbound_any _ _).mono ?_; rintro e w' ⟨rfl, rfl⟩)
            go_ret2
            exact ⟨ret_ib (Sol.mulV_no H.out).symm H.out.symm, rfl⟩

set_option maxHeartbeats 400000 in
theorem rdiv_any (a b : Int) (w : World) (h1 : 1 ≤ b) (b2 : b ≤ 4611686018427387904) (a1 : -4611686018427387904 ≤ a) (a2 : a ≤ 4611686018427387904) :
    Calls Tryd.prog 24 #[.int .i64 a, .int .i64 b] w fun e w' => e = .returned (.tuple #[.int .i64 (a / b), .int .i64 (a % b)]) ∧ ∃ n, w' = w.drewN n := by
  obtain ⟨⟨t1, t2⟩, t3, t4⟩ := tq_bd h1 a1 a2
  by_cases hr : a.tmod b < 0
  · have K := Lib.hid (tq_neg h1 hr)
    have hn : ¬ 0 ≤ a := fun h => by have := Int.tmod_nonneg b h; omega
    go_enter Tryd.func24, Tryd.ntmps24
    go_wp2_with fail
    go_quiet (fail)
    go_wp2
    go_ret2
    exact ⟨ret_ii K.out.1.symm K.out.2.symm, _, rfl⟩
  · have K := Lib.hid (tq_nn h1 hr)
    have hm := Int.emod_nonneg a (show b ≠ 0 by omega)
    by_cases hn : 0 ≤ a
    · go_enter Tryd.func24, Tryd.ntmps24
      go_wp2_with fail
      go_quiet (fail)
      go_wp2
      go_ret2
      exact ⟨ret_ii K.out.1.symm rfl, _, rfl⟩
    · go_enter Tryd.func24, Tryd.ntmps24
      go_wp2_with fail
      go_quiet (fail)
      go_wp2
      go_ret2
      exact ⟨ret_ii K.out.1.symm K.out.2.symm, _, rfl⟩

theorem rdigit_any (c : UInt8) (w : World) :
    Calls Tryd.prog 61 #[.int .u8 (c.toNat : Int)] w fun e w' => e = .returned (.bool (Sol.isDig c)) ∧ w = w' := by
  by_cases h1 : 48 ≤ (c.toNat : Int)
  · by_cases h2 : (c.toNat : Int) ≤ 57
    · have H := Lib.hid ((Sol.isDig_iff c).2 ⟨h1, h2⟩)
      go_enter Tryd.func61, Tryd.ntmps61
      go_wp2
      go_ret
      exact ⟨ret_b H.out.symm, rfl⟩
    · have H := Lib.hid (Sol.isDig_hi h2)
      go_enter Tryd.func61, Tryd.ntmps61
      go_wp2
      go_ret
      exact ⟨ret_b H.out.symm, rfl⟩
  · have H := Lib.hid (Sol.isDig_lo h1)
    go_enter Tryd.func61, Tryd.ntmps61
    go_wp2
    go_ret
    exact ⟨ret_b H.out.symm, rfl⟩
end RNum
end Go.Proofs.YtopclopmgnkoeaaDoor
