/-
  NumEdges and NumBack: the laws answer true at every input, in whatever world that holds the table of powers of ten.
-/
import Derived.Test.YtopclopmgnkoeaaDoorNum4
namespace Go.Proofs.YtopclopmgnkoeaaDoor
open Go.RowKit

theorem e_add {a b : Int} (ha : -4611686018427387904 ≤ a ∧ a ≤ 4611686018427387904) (hb : -4611686018427387904 ≤ b ∧ b ≤ 4611686018427387904) (h : -4611686018427387904 ≤ a + b ∧ a + b ≤ 4611686018427387904) :
    Sol.addB a b = true ∧ Sol.addV a b = a + b :=
  have k := Sol.addB_mk ((Sol.inB_iff a).2 ha) ((Sol.inB_iff b).2 hb) ((Sol.inB_iff _).2 h)
  ⟨k, Sol.addV_yes k⟩
theorem e_mulno {a b : Int} (h : 4611686018427387904 < a * b) : Sol.mulB a b = false := Sol.mulB_s (Sol.inB_hi (by omega))
theorem e_mul {a b : Int} (ha : -4611686018427387904 ≤ a ∧ a ≤ 4611686018427387904) (hb : -4611686018427387904 ≤ b ∧ b ≤ 4611686018427387904) (h : -4611686018427387904 ≤ a * b ∧ a * b ≤ 4611686018427387904) :
    Sol.mulB a b = true ∧ Sol.mulV a b = a * b :=
  have k := Sol.mulB_mk ((Sol.inB_iff a).2 ha) ((Sol.inB_iff b).2 hb) ((Sol.inB_iff _).2 h)
  ⟨k, Sol.mulV_yes k⟩
theorem e_quo {m : Int} (h1 : 1 ≤ m) : 4611686018427387904 < (4611686018427387904 / m + 1) * m ∧ 0 ≤ 4611686018427387904 / m * m ∧ 4611686018427387904 / m * m ≤ 4611686018427387904 ∧ 0 ≤ 4611686018427387904 / m ∧ 4611686018427387904 / m ≤ 4611686018427387904 := by
  have k1 := Int.lt_ediv_add_one_mul_self 4611686018427387904 (show 0 < m by omega)
  have k2 := Int.ediv_mul_le 4611686018427387904 (show m ≠ 0 by omega)
  have k3 := Int.ediv_nonneg (a := 4611686018427387904) (b := m) (by omega) (by omega)
  have k4 := Int.mul_nonneg k3 (show 0 ≤ m by omega)
  have k5 := Int.ediv_le_self (a := 4611686018427387904) m (by omega)
  exact ⟨k1, k4, k2, k3, k5⟩

theorem u64_nn (n : Int) : 0 ≤ IntKind.u64.wrap n := by
  have h : IntKind.u64.wrap n = n % 18446744073709551616 := by
    simp [IntKind.wrap, IntKind.bits, IntKind.signed]
  rw [h]; omega

set_option maxHeartbeats 400000 in
theorem edges_any (n : Int) (w : World) (hp : Pow w) :
    Calls Tryd.prog 6 #[.int .i64 n] w fun e w' => e = .returned (.bool true) ∧ Below w.heap.size w w' := by
  have HP := Lib.hid hp
  clear hp
  have m0 : 0 ≤ (IntKind.u64.wrap n).tmod 1000000 := Int.tmod_nonneg _ (u64_nn n)
  have m1 : (IntKind.u64.wrap n).tmod 1000000 < 1000000 := Int.tmod_lt_of_pos _ (by omega)
  go_enter Tryd.func6, Tryd.ntmps6
  go_wp2_with fail
  generalize (IntKind.u64.wrap n).tmod 1000000 = m at *
  have p1 : 1 ≤ 1 + m := by omega
  have p2 : 1 + m ≤ 1000000 := by omega
  clear m0 m1
  generalize 1 + m = p at *
  have F1 := Lib.hid (e_add (a := 4611686018427387904 - p) (b := p) (by omega) (by omega) (by omega))
  have F2 : Hid (Sol.addB (4611686018427387904 - p) (p + 1) = false) := Lib.hid (Sol.addB_s (Sol.inB_hi (by omega)))
  have F3 := Lib.hid (e_add (a := p - 4611686018427387904) (b := -p) (by omega) (by omega) (by omega))
  have F4 : Hid (Sol.addB (p - 4611686018427387904) (-p - 1) = false) := Lib.hid (Sol.addB_s (Sol.inB_lo (by omega)))
  obtain ⟨q1, q2, q3, q4, q5⟩ := e_quo p1
  have F5 := Lib.hid (e_mulno q1)
  have F6 := Lib.hid (e_mul (a := 4611686018427387904 / p) (b := p) (by omega) (by omega) (by omega))
  have F7 := Lib.hid q3
  have E1 : Hid (4611686018427387904 - p + p = 4611686018427387904) := Lib.hid (by omega)
  have E3 : Hid (p - 4611686018427387904 + -p = -4611686018427387904) := Lib.hid (by omega)
  clear q1 q2 q3
  refine (add_any _ _ _).mono ?_
  rintro e w1 ⟨rfl, rfl⟩
  rw [F1.out.1, F1.out.2, E1.out]
  go_wp2_with fail
  refine (add_any _ _ _).mono ?_
  rintro e w1 ⟨rfl, rfl⟩
  rw [F2.out]
  go_wp2_with fail
  refine (add_any _ _ _).mono ?_
  rintro e w1 ⟨rfl, rfl⟩
  rw [F3.out.1, F3.out.2, E3.out]
  go_wp2_with fail
  refine (add_any _ _ _).mono ?_
  rintro e w1 ⟨rfl, rfl⟩
  rw [F4.out]
  go_wp2_with fail
  refine (mul_any _ _ _).mono ?_
  rintro e w1 ⟨rfl, rfl⟩
  rw [F5.out]
  go_wp2_with fail
  refine (mul_any _ _ _).mono ?_
  rintro e w1 ⟨rfl, rfl⟩
  rw [F6.out.1, F6.out.2]
  have k7 := F7.out
  go_wp2_with (go_at_call 26; refine (wakes1_any _ HP.out).mono ?_; rintro e w2 ⟨rfl, hb⟩)
  go_ret
  exact ⟨rfl, hb⟩
end Go.Proofs.YtopclopmgnkoeaaDoor
