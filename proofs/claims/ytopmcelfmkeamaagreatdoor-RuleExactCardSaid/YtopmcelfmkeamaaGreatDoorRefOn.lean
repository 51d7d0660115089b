/-
  Contracts of the reference's calls on forms of a day: On, OnText.
-/
import Derived.Test.YtopmcelfmkeamaaGreatDoorOnMath
import Derived.Test.YtopmcelfmkeamaaGreatDoorBdR
import Derived.Deep.RegionWith
import Derived.Deep.DrawnRows
namespace Go.Proofs.YtopmcelfmkeamaaGreatDoor
open Go.RowKit
attribute [local go_sem ↓] Go.wp_at_zero Go.wp_at_succ
namespace Onf
open Sol Wrd Clk Wk
def inb (lo hi n : Int) : Bool := decide (lo ≤ n ∧ n ≤ hi)
theorem inb_yes {lo hi n : Int} (h : lo ≤ n ∧ n ≤ hi) : inb lo hi n = true := decide_eq_true h
theorem inb_no {lo hi n : Int} (h : ¬ (lo ≤ n ∧ n ≤ hi)) : inb lo hi n = false := decide_eq_false h
theorem rin_b (n lo hi : Int) (w : World) :
    Calls Tryz.prog 92 #[.int .i64 n, .int .i64 lo, .int .i64 hi] w fun e w' => e = .returned (.bool (inb lo hi n)) ∧ w = w' := RNum.rin_any n lo hi _ w (Lib.hid rfl)
theorem inb_cases (lo hi n : Int) : (inb lo hi n = true ∧ lo ≤ n ∧ n ≤ hi) ∨ (inb lo hi n = false ∧ ¬ (lo ≤ n ∧ n ≤ hi)) := by
  by_cases h : lo ≤ n ∧ n ≤ hi
  · exact Or.inl ⟨inb_yes h, h⟩
  · exact Or.inr ⟨inb_no h, h⟩

set_option maxHeartbeats 1600000 in
theorem ron_any (k v d : Int) (w : World) :
    Calls Tryz.prog 52 #[.agg #[.int .i64 k, .int .i64 v, .int .i64 d]] w fun e w' => e = .returned (.bool (onOk k v d)) ∧ w.alloc (Obj.cells #[.int .i64 k, .int .i64 v, .int .i64 d] 23) = w' := by
  have hk : k = 1 ∨ k = 2 ∨ k = 3 ∨ k = 4 ∨ ¬ (k = 1 ∨ k = 2 ∨ k = 3 ∨ k = 4) := by omega
  have hv := inb_cases 0 6 v
  have hd := inb_cases 1 31 d
  have hz1 : v = 0 ∨ (v ≠ 0 ∧ (v == 0) = false) := by by_cases h : v = 0; exact Or.inl h; exact Or.inr ⟨h, beq_eq_false_iff_ne.2 h⟩
  have hz2 : d = 0 ∨ (d ≠ 0 ∧ (d == 0) = false) := by by_cases h : d = 0; exact Or.inl h; exact Or.inr ⟨h, beq_eq_false_iff_ne.2 h⟩
  rcases hk with rfl | rfl | rfl | rfl | hk
  · clear hv hz2
    rcases hd with ⟨b1, b2⟩ | ⟨b1, b2⟩ <;> rcases hz1 with rfl | ⟨c1, c2⟩
    all_goals
      go_enter Tryz.func52, Tryz.ntmps52
      go_wp2_with (go_at_call 92; refine (rin_b _ _ _ _).mono ?_; rintro e w' ⟨rfl, rfl⟩)
      go_ret
      exact ⟨ret_b (by first | (refine (onOk_mk ?_).symm; omega) | (refine (onOk_no ?_).symm; omega)), rfl⟩
  · clear hd hz1
    rcases hv with ⟨b1, b2⟩ | ⟨b1, b2⟩ <;> rcases hz2 with rfl | ⟨c1, c2⟩
    all_goals
      go_enter Tryz.func52, Tryz.ntmps52
      go_wp2_with (go_at_call 92; refine (rin_b _ _ _ _).mono ?_; rintro e w' ⟨rfl, rfl⟩)
      go_ret
      exact ⟨ret_b (by first | (refine (onOk_mk ?_).symm; omega) | (refine (onOk_no ?_).symm; omega)), rfl⟩
  · clear hz1 hz2
    rcases hv with ⟨b1, b2⟩ | ⟨b1, b2⟩ <;> rcases hd with ⟨c1, c2⟩ | ⟨c1, c2⟩
    all_goals
      go_enter Tryz.func52, Tryz.ntmps52
      go_wp2_with (go_at_call 92; refine (rin_b _ _ _ _).mono ?_; rintro e w' ⟨rfl, rfl⟩)
      go_ret
      exact ⟨ret_b (by first | (refine (onOk_mk ?_).symm; omega) | (refine (onOk_no ?_).symm; omega)), rfl⟩
  · clear hz1 hz2
    rcases hv with ⟨b1, b2⟩ | ⟨b1, b2⟩ <;> rcases hd with ⟨c1, c2⟩ | ⟨c1, c2⟩
    all_goals
      go_enter Tryz.func52, Tryz.ntmps52
      go_wp2_with (go_at_call 92; refine (rin_b _ _ _ _).mono ?_; rintro e w' ⟨rfl, rfl⟩)
      go_ret
      exact ⟨ret_b (by first | (refine (onOk_mk ?_).symm; omega) | (refine (onOk_no ?_).symm; omega)), rfl⟩
  · clear hz1 hz2 hv hd
    have c1 : (k == 1) = false := beq_eq_false_iff_ne.2 (by omega)
    have c2 : (k == 2) = false := beq_eq_false_iff_ne.2 (by omega)
    have c3 : (k == 3) = false := beq_eq_false_iff_ne.2 (by omega)
    have c4 : (k == 4) = false := beq_eq_false_iff_ne.2 (by omega)
    have H := Lib.hid (onOk_no (k := k) (w := v) (d := d) (by omega))
    clear hk
    go_enter Tryz.func52, Tryz.ntmps52
    go_wp2
    go_ret
    exact ⟨ret_b H.out.symm, rfl⟩


end Onf
end Go.Proofs.YtopmcelfmkeamaaGreatDoor
