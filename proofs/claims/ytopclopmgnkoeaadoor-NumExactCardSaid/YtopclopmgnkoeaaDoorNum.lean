/-
  Contracts of package num: what Add, Mul, Div, within, size answer, for every two integers.
-/
import Derived.Test.YtopclopmgnkoeaaDoorRows
import Derived.WalkKit
import Derived.WalkSpells
import Derived.WalkLawsBesides
import Derived.Deep.QuietTactic
import Derived.BigQuiet
import Derived.Lib.Hide
namespace Go.Proofs.YtopclopmgnkoeaaDoor
open Go.RowKit
namespace Sol
def inB (a : Int) : Bool := decide (-4611686018427387904 ≤ a ∧ a ≤ 4611686018427387904)
def addB (a b : Int) : Bool := inB a && inB b && inB (a + b)
def addV (a b : Int) : Int := if addB a b then a + b else 0
def mulB (a b : Int) : Bool := inB a && inB b && inB (a * b)
def mulV (a b : Int) : Int := if mulB a b then a * b else 0
def divB (a b : Int) : Bool := decide (1 ≤ b) && inB a && inB b
def divQ (a b : Int) : Int := if divB a b then a / b else 0
def divR (a b : Int) : Int := if divB a b then a % b else 0
theorem inB_iff (a : Int) : inB a = true ↔ -4611686018427387904 ≤ a ∧ a ≤ 4611686018427387904 := by simp [inB]
theorem inB_no {a : Int} (h : ¬ (-4611686018427387904 ≤ a ∧ a ≤ 4611686018427387904)) : inB a = false := by
  cases e : inB a with
  | false => rfl
  | true => exact absurd ((inB_iff a).1 e) h
theorem inB_lo {a : Int} (h : ¬ -4611686018427387904 ≤ a) : inB a = false := inB_no (fun x => h x.1)
theorem inB_hi {a : Int} (h : ¬ a ≤ 4611686018427387904) : inB a = false := inB_no (fun x => h x.2)
theorem addB_a {a b : Int} (h : inB a = false) : addB a b = false := by simp [addB, h]
theorem addB_b {a b : Int} (h : inB b = false) : addB a b = false := by simp [addB, h]
theorem addB_s {a b : Int} (h : inB (a + b) = false) : addB a b = false := by simp [addB, h]
theorem addB_mk {a b : Int} (ha : inB a = true) (hb : inB b = true) (h : inB (a + b) = true) : addB a b = true := by simp [addB, ha, hb, h]
theorem addV_no {a b : Int} (h : addB a b = false) : addV a b = 0 := by simp [addV, h]
theorem addV_yes {a b : Int} (h : addB a b = true) : addV a b = a + b := by simp [addV, h]
theorem mulB_a {a b : Int} (h : inB a = false) : mulB a b = false := by simp [mulB, h]
theorem mulB_b {a b : Int} (h : inB b = false) : mulB a b = false := by simp [mulB, h]
theorem mulB_s {a b : Int} (h : inB (a * b) = false) : mulB a b = false := by simp [mulB, h]
theorem mulB_mk {a b : Int} (ha : inB a = true) (hb : inB b = true) (h : inB (a * b) = true) : mulB a b = true := by simp [mulB, ha, hb, h]
theorem mulV_no {a b : Int} (h : mulB a b = false) : mulV a b = 0 := by simp [mulV, h]
theorem mulV_yes {a b : Int} (h : mulB a b = true) : mulV a b = a * b := by simp [mulV, h]
theorem divB_1 {a b : Int} (h : ¬ 1 ≤ b) : divB a b = false := by simp [divB, h]
theorem divB_a {a b : Int} (h : inB a = false) : divB a b = false := by simp [divB, h]
theorem divB_b {a b : Int} (h : inB b = false) : divB a b = false := by simp [divB, h]
theorem divB_mk {a b : Int} (h : 1 ≤ b) (ha : inB a = true) (hb : inB b = true) : divB a b = true := by simp [divB, ha, hb, h]
theorem divQ_no {a b : Int} (h : divB a b = false) : divQ a b = 0 := by simp [divQ, h]
theorem divR_no {a b : Int} (h : divB a b = false) : divR a b = 0 := by simp [divR, h]
theorem divQ_yes {a b : Int} (h : divB a b = true) : divQ a b = a / b := by simp [divQ, h]
theorem divR_yes {a b : Int} (h : divB a b = true) : divR a b = a % b := by simp [divR, h]
end Sol

theorem ret_ib {a a' : Int} {b b' : Bool} (h : a = a') (k : b = b') : Ending.returned (.tuple #[.int .i64 a, .bool b]) = .returned (.tuple #[.int .i64 a', .bool b']) := by rw [h, k]
theorem ret_iib {a a' c c' : Int} {b b' : Bool} (h : a = a') (h' : c = c') (k : b = b') : Ending.returned (.tuple #[.int .i64 a, .int .i64 c, .bool b]) = .returned (.tuple #[.int .i64 a', .int .i64 c', .bool b']) := by rw [h, h', k]
theorem ret_b {b b' : Bool} (k : b = b') : Ending.returned (.bool b) = .returned (.bool b') := by rw [k]
theorem ret_i {b b' : Int} (k : b = b') : Ending.returned (.int .i64 b) = .returned (.int .i64 b') := by rw [k]

set_option maxHeartbeats 400000 in
theorem within_any (a : Int) (w : World) :
    Calls Tryd.prog 56 #[.int .i64 a] w fun e w' => e = .returned (.bool (Sol.inB a)) ∧ w = w' := by
  by_cases h1 : -4611686018427387904 ≤ a
  · by_cases h2 : a ≤ 4611686018427387904
    · have H := Lib.hid ((Sol.inB_iff a).2 ⟨h1, h2⟩)
      go_enter Tryd.func56, Tryd.ntmps56
      go_wp2
      go_ret
      exact ⟨ret_b H.out.symm, rfl⟩
    · have H := Lib.hid (Sol.inB_hi h2)
      go_enter Tryd.func56, Tryd.ntmps56
      go_wp2
      go_ret
      exact ⟨ret_b H.out.symm, rfl⟩
  · have H := Lib.hid (Sol.inB_lo h1)
    go_enter Tryd.func56, Tryd.ntmps56
    go_wp2
    go_ret
    exact ⟨ret_b H.out.symm, rfl⟩

set_option maxHeartbeats 400000 in
theorem add_any (a b : Int) (w : World) :
    Calls Tryd.prog 15 #[.int .i64 a, .int .i64 b] w fun e w' => e = .returned (.tuple #[.int .i64 (Sol.addV a b), .bool (Sol.addB a b)]) ∧ w = w' := by
  cases ha : Sol.inB a with
  | false =>
    have H := Lib.hid (Sol.addB_a (b := b) ha)
    go_enter Tryd.func15, Tryd.ntmps15
    go_wp2_with (go_at_call 56; refine (within_any _ _).mono ?_; rintro e w' ⟨rfl, rfl⟩)
    go_ret2
    exact ⟨ret_ib (Sol.addV_no H.out).symm H.out.symm, rfl⟩
  | true =>
    cases hb : Sol.inB b with
    | false =>
      have H := Lib.hid (Sol.addB_b (a := a) hb)
      go_enter Tryd.func15, Tryd.ntmps15
      go_wp2_with (go_at_call 56; refine (within_any _ _).mono ?_; rintro e w' ⟨rfl, rfl⟩)
      go_ret2
      exact ⟨ret_ib (Sol.addV_no H.out).symm H.out.symm, rfl⟩
    | true =>
      have ba := (Sol.inB_iff a).1 ha
      have bb := (Sol.inB_iff b).1 hb
      by_cases h1 : -4611686018427387904 ≤ a + b
      · by_cases h2 : a + b ≤ 4611686018427387904
        · have H := Lib.hid (Sol.addB_mk ha hb ((Sol.inB_iff _).2 ⟨h1, h2⟩))
          by_cases h3 : 0 < b
          · go_enter Tryd.func15, Tryd.ntmps15
            go_wp2_with (go_at_call 56; refine (within_any _ _).mono ?_; rintro e w' ⟨rfl, rfl⟩)
            go_ret2
            exact ⟨ret_ib (Sol.addV_yes H.out).symm H.out.symm, rfl⟩
          · go_enter Tryd.func15, Tryd.ntmps15
            go_wp2_with (go_at_call 56; refine (within_any _ _).mono ?_; rintro e w' ⟨rfl, rfl⟩)
            all_goals go_ret2
            all_goals exact ⟨ret_ib (Sol.addV_yes H.out).symm H.out.symm, rfl⟩
        · have H := Lib.hid (Sol.addB_s (Sol.inB_hi h2))
          have h3 : 0 < b := by omega
          go_enter Tryd.func15, Tryd.ntmps15
          go_wp2_with (go_at_call 56; refine (within_any _ _).mono ?_; rintro e w' ⟨rfl, rfl⟩)
          go_ret2
          exact ⟨ret_ib (Sol.addV_no H.out).symm H.out.symm, rfl⟩
      · have H := Lib.hid (Sol.addB_s (Sol.inB_lo h1))
        have h3 : b < 0 := by omega
        go_enter Tryd.func15, Tryd.ntmps15
        go_wp2_with (go_at_call 56; refine (within_any _ _).mono ?_; rintro e w' ⟨rfl, rfl⟩)
        go_ret2
        exact ⟨ret_ib (Sol.addV_no H.out).symm H.out.symm, rfl⟩

set_option maxHeartbeats 400000 in
theorem size_any (a : Int) (w : World) (h1 : -4611686018427387904 ≤ a) (h2 : a ≤ 4611686018427387904) :
    Calls Tryd.prog 57 #[.int .i64 a] w fun e w' => e = .returned (.int .i64 (a.natAbs : Int)) ∧ w = w' := by
  by_cases h : a < 0
  · go_enter Tryd.func57, Tryd.ntmps57
    go_wp2
    go_ret
    exact ⟨ret_i (by omega), rfl⟩
  · go_enter Tryd.func57, Tryd.ntmps57
    go_wp2
    go_ret
    exact ⟨ret_i (by omega), rfl⟩

theorem mul_le {x y : Nat} (hx : 0 < x) : y ≤ 4611686018427387904 / x ↔ x * y ≤ 4611686018427387904 := by
  rw [Nat.le_div_iff_mul_le hx, Nat.mul_comm]
theorem abs_in {z : Int} : (-4611686018427387904 ≤ z ∧ z ≤ 4611686018427387904) ↔ z.natAbs ≤ 4611686018427387904 := by omega
theorem div_abs {a : Int} (_ha : 0 < a.natAbs) : (4611686018427387904 : Int) / (a.natAbs : Int) = ((4611686018427387904 / a.natAbs : Nat) : Int) := by
  rw [Int.natCast_ediv]; rfl

set_option maxHeartbeats 400000 in
theorem mul_any (a b : Int) (w : World) :
    Calls Tryd.prog 16 #[.int .i64 a, .int .i64 b] w fun e w' => e = .returned (.tuple #[.int .i64 (Sol.mulV a b), .bool (Sol.mulB a b)]) ∧ w = w' := by
  cases ha : Sol.inB a with
  | false =>
    have H := Lib.hid (Sol.mulB_a (b := b) ha)
    go_enter Tryd.func16, Tryd.ntmps16
    go_wp2_with (go_at_call 56; refine (within_any _ _).mono ?_; rintro e w' ⟨rfl, rfl⟩)
    go_ret2
    exact ⟨ret_ib (Sol.mulV_no H.out).symm H.out.symm, rfl⟩
  | true =>
    cases hb : Sol.inB b with
    | false =>
      have H := Lib.hid (Sol.mulB_b (a := a) hb)
      go_enter Tryd.func16, Tryd.ntmps16
      go_wp2_with (go_at_call 56; refine (within_any _ _).mono ?_; rintro e w' ⟨rfl, rfl⟩)
      go_ret2
      exact ⟨ret_ib (Sol.mulV_no H.out).symm H.out.symm, rfl⟩
    | true =>
      obtain ⟨a1, a2⟩ := (Sol.inB_iff a).1 ha
      obtain ⟨b1, b2⟩ := (Sol.inB_iff b).1 hb
      by_cases h0 : a = 0
      · subst h0
        have H : Hid (Sol.mulB 0 b = true) := Lib.hid (Sol.mulB_mk ha hb ((Sol.inB_iff _).2 (by rw [Int.zero_mul]; omega)))
        go_enter Tryd.func16, Tryd.ntmps16
        go_wp2_with (go_at_call 56; refine (within_any _ _).mono ?_; rintro e w' ⟨rfl, rfl⟩)
        go_ret2
        exact ⟨ret_ib ((Sol.mulV_yes H.out).trans (Int.zero_mul b)).symm H.out.symm, rfl⟩
      · have hpos : 0 < a.natAbs := by omega
        have hq := Lib.hid (div_abs hpos)
        have k := mul_le (y := b.natAbs) hpos
        have k0 : 0 ≤ (4611686018427387904 : Int) / (a.natAbs : Int)   := by rw [hq.out]; exact Int.natCast_nonneg _
        have k1 : (4611686018427387904 : Int) / (a.natAbs : Int) ≤ 4611686018427387904 := by
          rw [hq.out]; have := Nat.div_le_self 4611686018427387904 a.natAbs; omega
        have hne : (a != 0) = true := by simp [h0]
        have hp : 1 ≤ (a.natAbs : Int) := by omega
        by_cases hm : a.natAbs * b.natAbs ≤ 4611686018427387904
        · have hle : (b.natAbs : Int) ≤ (4611686018427387904 : Int) / (a.natAbs : Int) := by
            rw [hq.out]; have := k.2 hm; omega
          have hin := abs_in.2 (show (a * b).natAbs ≤ 4611686018427387904 by rw [Int.natAbs_mul]; exact hm)
          obtain ⟨c1, c2⟩ := hin
          have H := Lib.hid (Sol.mulB_mk ha hb ((Sol.inB_iff _).2 ⟨c1, c2⟩))
          clear k hm
          go_enter Tryd.func16, Tryd.ntmps16
          go_wp2_with (first | (go_at_call 56; refine (within_any _ _).mono ?_; rintro e w' ⟨rfl, rfl⟩) | (go_at_call 57; refine (size_any _ _ (by omega) (by omega)).mono ?_; rintro e w' ⟨rfl, rfl⟩))
          go_ret2
          exact ⟨ret_ib (Sol.mulV_yes H.out).symm H.out.symm, rfl⟩
        · have hle : (4611686018427387904 : Int) / (a.natAbs : Int) < (b.natAbs : Int) := by
            rw [hq.out]; have := fun h => hm (k.1 h); omega
          have H := Lib.hid (Sol.mulB_s (a := a) (b := b) (Sol.inB_no (fun h => hm (by have := abs_in.1 h; rwa [Int.natAbs_mul] at this))))
          clear k hm
          go_enter Tryd.func16, Tryd.ntmps16
          go_wp2_with (first | (go_at_call 56; refine (within_any _ _).mono ?_; rintro e w' ⟨rfl, rfl⟩) | (go_at_call 57; refine (size_any _ _ (by omega) (by omega)).mono ?_; rintro e w' ⟨rfl, rfl⟩))
          go_ret2
          exact ⟨ret_ib (Sol.mulV_no H.out).symm H.out.symm, rfl⟩

theorem tq_neg {a b : Int} (hb : 1 ≤ b) (h : a.tmod b < 0) : a / b = a.tdiv b - 1 ∧ a % b = a.tmod b + b := by
  have h1 := Int.tdiv_eq_ediv (a := a) (b := b)
  have h2 := Int.tmod_eq_emod (a := a) (b := b)
  have h3 := Int.emod_nonneg a (show b ≠ 0 by omega)
  have hs : b.sign = 1 := Int.sign_eq_one_of_pos (by omega)
  split at h2
  · omega
  · rename_i hn
    rw [if_neg hn, hs] at h1
    omega
theorem tq_nn {a b : Int} (hb : 1 ≤ b) (h : ¬ a.tmod b < 0) : a / b = a.tdiv b ∧ a % b = a.tmod b := by
  have h1 := Int.tdiv_eq_ediv (a := a) (b := b)
  have h2 := Int.tmod_eq_emod (a := a) (b := b)
  have h3 := Int.emod_lt_of_pos a (show 0 < b by omega)
  split at h2
  · rename_i hn
    rw [if_pos hn] at h1
    omega
  · omega
theorem tq_bd {a b : Int} (hb : 1 ≤ b) (h1 : -4611686018427387904 ≤ a) (h2 : a ≤ 4611686018427387904) :
    (-4611686018427387904 ≤ a.tdiv b ∧ a.tdiv b ≤ 4611686018427387904) ∧ (-b < a.tmod b ∧ a.tmod b < b) := by
  have k := Int.natAbs_tdiv_le_natAbs a b
  have m1 := Int.tmod_lt_of_pos a (show 0 < b by omega)
  have m2 := Int.lt_tmod_of_pos a (show 0 < b by omega)
  omega

set_option maxHeartbeats 400000 in
theorem div_any (a b : Int) (w : World) (i1 : -9223372036854775808 ≤ b) (i2 : b ≤ 9223372036854775807) :
    Calls Tryd.prog 17 #[.int .i64 a, .int .i64 b] w fun e w' => e = .returned (.tuple #[.int .i64 (Sol.divQ a b), .int .i64 (Sol.divR a b), .bool (Sol.divB a b)]) ∧ ∃ n, w' = w.drewN n := by
  by_cases h1 : 1 ≤ b
  · cases ha : Sol.inB a with
    | false =>
      have H := Lib.hid (Sol.divB_a (b := b) ha)
      go_enter Tryd.func17, Tryd.ntmps17
      go_wp2_with (go_at_call 56; refine (within_any _ _).mono ?_; rintro e w' ⟨rfl, rfl⟩)
      go_ret3
      exact ⟨ret_iib (Sol.divQ_no H.out).symm (Sol.divR_no H.out).symm H.out.symm, 0, rfl⟩
    | true =>
      cases hb : Sol.inB b with
      | false =>
        have H := Lib.hid (Sol.divB_b (a := a) hb)
        go_enter Tryd.func17, Tryd.ntmps17
        go_wp2_with (go_at_call 56; refine (within_any _ _).mono ?_; rintro e w' ⟨rfl, rfl⟩)
        go_ret3
        exact ⟨ret_iib (Sol.divQ_no H.out).symm (Sol.divR_no H.out).symm H.out.symm, 0, rfl⟩
      | true =>
        obtain ⟨a1, a2⟩ := (Sol.inB_iff a).1 ha
        obtain ⟨b1, b2⟩ := (Sol.inB_iff b).1 hb
        obtain ⟨⟨t1, t2⟩, t3, t4⟩ := tq_bd h1 a1 a2
        have H := Lib.hid (Sol.divB_mk h1 ha hb)
        by_cases hr : a.tmod b < 0
        · have K := Lib.hid (tq_neg h1 hr)
          have hn : ¬ 0 ≤ a := fun h => by have := Int.tmod_nonneg b h; omega
          go_enter Tryd.func17, Tryd.ntmps17
          go_wp2_with (go_at_call 56; refine (within_any _ _).mono ?_; rintro e w' ⟨rfl, rfl⟩)
          go_quiet (fail)
          go_wp2
          go_ret3
          exact ⟨ret_iib ((Sol.divQ_yes H.out).trans K.out.1).symm ((Sol.divR_yes H.out).trans K.out.2).symm H.out.symm, _, rfl⟩
        · have K := Lib.hid (tq_nn h1 hr)
          have hm := Int.emod_nonneg a (show b ≠ 0 by omega)
          by_cases hn : 0 ≤ a
          · go_enter Tryd.func17, Tryd.ntmps17
            go_wp2_with (go_at_call 56; refine (within_any _ _).mono ?_; rintro e w' ⟨rfl, rfl⟩)
            go_quiet (fail)
            go_wp2
            go_ret3
            exact ⟨ret_iib ((Sol.divQ_yes H.out).trans K.out.1).symm (Sol.divR_yes H.out).symm H.out.symm, _, rfl⟩
          · go_enter Tryd.func17, Tryd.ntmps17
            go_wp2_with (go_at_call 56; refine (within_any _ _).mono ?_; rintro e w' ⟨rfl, rfl⟩)
            go_quiet (fail)
            go_wp2
            go_ret3
            exact ⟨ret_iib ((Sol.divQ_yes H.out).trans K.out.1).symm ((Sol.divR_yes H.out).trans K.out.2).symm H.out.symm, _, rfl⟩
  · have H := Lib.hid (Sol.divB_1 (a := a) h1)
    go_enter Tryd.func17, Tryd.ntmps17
    go_wp2_with (go_at_call 56; refine (within_any _ _).mono ?_; rintro e w' ⟨rfl, rfl⟩)
    go_ret3
    exact ⟨ret_iib (Sol.divQ_no H.out).symm (Sol.divR_no H.out).symm H.out.symm, 0, rfl⟩
end Go.Proofs.YtopclopmgnkoeaaDoor
