/-
  Contracts of the reference's calls on weekdays: Nth, Resolve, FirstWeek, No, Weeks.
-/
import Derived.Test.YtpkknhbhliapcaaDoorRefWk
import Derived.IntWalk
namespace Go.Proofs.YtpkknhbhliapcaaDoor
open Go.RowKit
namespace Wk
open Civ
theorem gap_untl (f k : Int) : (k - Cal.wday f) % 7 = untl f k := by unfold untl; omega
theorem gap_since (k t : Int) : (Cal.wday t - k) % 7 = since k t := by unfold since; omega
theorem wrap_neg {x : Int} (h1 : 9223372036854775807 < x) (h2 : x ≤ 18446744073709551615) : ∃ X : Int, IntKind.i64.wrap x = X ∧ wrap64 x = X ∧ -9223372036854775808 ≤ X ∧ X < 0 := by
  refine ⟨wrap64 x, IntWalk.i64_left x, rfl, ?_, ?_⟩ <;> unfold wrap64 <;> omega

set_option maxHeartbeats 3200000 in
theorem rnth_any (f t num k : Int) (w : World) (f1 : -9223372036854775808 ≤ f) (f2 : f ≤ 9223372036854775807) (t1 : -9223372036854775808 ≤ t) (t2 : t ≤ 9223372036854775807) :
    Calls Tryd.prog 31 #[.int .i64 f, .int .i64 t, .int .i64 num, .int .i64 k] w fun e w' => e = .returned (.tuple #[.int .i64 (nthV f t num k), .bool (nthB f t num k)]) ∧ ∃ q, w' = w.drewN q := by
  have ub := untl_bd f k
  have sb := since_bd k t
  have wf := wday_bd f
  have wt := wday_bd t
  rcases inb_cases 0 6 k with ⟨b1, k0, k6⟩ | ⟨b1, b2⟩
  · by_cases h0 : num = 0
    · subst h0
      have H := Lib.hid (nth_no (f := f) (t := t) (num := 0) (k := k) (by omega))
      go_enter Tryd.func31, Tryd.ntmps31
      go_wp2_with (go_at_call 49; refine (rin_b _ _ _ _).mono ?_; rintro e w' ⟨rfl, rfl⟩)
      go_ret2
      exact ⟨ret_ib H.out.2.symm H.out.1.symm, 0, rfl⟩
    · have n0 : (num == 0) = false := beq_eq_false_iff_ne.2 h0
      rcases inb_cases (-1000) 1000 num with ⟨d1, m0, m1⟩ | ⟨d1, d2⟩
      · by_cases hft : t < f
        · have H := Lib.hid (nth_no (f := f) (t := t) (num := num) (k := k) (by omega))
          clear h0
          go_enter Tryd.func31, Tryd.ntmps31
          go_wp2_with (go_at_call 49; refine (rin_b _ _ _ _).mono ?_; rintro e w' ⟨rfl, rfl⟩)
          go_ret2
          exact ⟨ret_ib H.out.2.symm H.out.1.symm, 0, rfl⟩
        · have hle : f ≤ t := by omega
          by_cases hp : 0 < num
          · have G := Lib.hid (gap_untl f k)
            by_cases hin : t - f ≤ 9223372036854775807
            · have hge : 0 ≤ t - f := by omega
              by_cases hc : untl f k ≤ t - f ∧ num - 1 ≤ (t - f - untl f k) / 7
              · have H := Lib.hid (nth_pos (f := f) (t := t) (num := num) (k := k) (by omega) hp (by omega))
                go_enter Tryd.func31, Tryd.ntmps31
                go_wp2_with (go_at_call 49; refine (rin_b _ _ _ _).mono ?_; rintro e w' ⟨rfl, rfl⟩)
                refine (rweekday_any _ _ (by omega) (by omega)).mono ?_
                rintro e w1 ⟨rfl, q1, rfl⟩
                go_wp2_with fail
                refine (rdiv_any _ _ _ (by omega) (by omega) (by omega) (by omega)).mono ?_
                rintro e w1 ⟨rfl, q2, rfl⟩
                rw [G.out]
                go_wp2_with fail
                refine (inth_yes _ _ _ _ _ (by omega) (by omega) (by omega) (by omega) (by omega) (by omega) hc.1 hc.2 (by omega)).mono ?_
                rintro e w1 ⟨rfl, rfl⟩
                go_wp2
                go_ret2
                exact ⟨ret_ib (by rw [H.out.2]; omega) H.out.1.symm, _, rfl⟩
              · have H := Lib.hid (nth_no (f := f) (t := t) (num := num) (k := k) (by omega))
                go_enter Tryd.func31, Tryd.ntmps31
                go_wp2_with (go_at_call 49; refine (rin_b _ _ _ _).mono ?_; rintro e w' ⟨rfl, rfl⟩)
                refine (rweekday_any _ _ (by omega) (by omega)).mono ?_
                rintro e w1 ⟨rfl, q1, rfl⟩
                go_wp2_with fail
                refine (rdiv_any _ _ _ (by omega) (by omega) (by omega) (by omega)).mono ?_
                rintro e w1 ⟨rfl, q2, rfl⟩
                rw [G.out]
                go_wp2_with fail
                refine (inth_no _ _ _ _ _ (by omega) (by omega) (by omega) (by omega) (by omega) (by omega) hc).mono ?_
                rintro e w1 ⟨rfl, rfl⟩
                go_wp2
                go_ret2
                exact ⟨ret_ib H.out.2.symm H.out.1.symm, _, rfl⟩
            · obtain ⟨X, x1, x2, x3, x4⟩ := wrap_neg (x := t - f) (by omega) (by omega)
              have H := Lib.hid (nth_pos (f := f) (t := t) (num := num) (k := k) (by omega) hp (by omega))
              have hf : f < 0 := by omega
              clear hin
              go_enter Tryd.func31, Tryd.ntmps31
              go_wp2_with (go_at_call 49; refine (rin_b _ _ _ _).mono ?_; rintro e w' ⟨rfl, rfl⟩)
              refine (rweekday_any _ _ (by omega) (by omega)).mono ?_
              rintro e w1 ⟨rfl, q1, rfl⟩
              go_wp2_with fail
              refine (rdiv_any _ _ _ (by omega) (by omega) (by omega) (by omega)).mono ?_
              rintro e w1 ⟨rfl, q2, rfl⟩
              rw [G.out]
              go_wp2_with fail
              refine (inth_yes _ _ _ _ _ (by omega) (by omega) (by omega) (by omega) (by omega) (by omega) (by omega) (by omega) (by omega)).mono ?_
              rintro e w1 ⟨rfl, rfl⟩
              go_wp2
              go_ret2
              exact ⟨ret_ib (by rw [H.out.2]; omega) H.out.1.symm, _, rfl⟩
          · have hneg : num < 0 := by omega
            have G := Lib.hid (gap_since k t)
            by_cases hin : t - f ≤ 9223372036854775807
            · have hge : 0 ≤ t - f := by omega
              by_cases hg : since k t ≤ t - f
              · have hr : 0 ≤ t - f - since k t := by omega
                by_cases hc : -num - 1 ≤ (t - f - since k t) / 7
                · have H := Lib.hid (nth_neg (f := f) (t := t) (num := num) (k := k) (by omega) hneg (by omega))
                  go_enter Tryd.func31, Tryd.ntmps31
                  go_wp2_with (go_at_call 49; refine (rin_b _ _ _ _).mono ?_; rintro e w' ⟨rfl, rfl⟩)
                  refine (rweekday_any _ _ (by omega) (by omega)).mono ?_
                  rintro e w1 ⟨rfl, q1, rfl⟩
                  go_wp2_with fail
                  refine (rdiv_any _ _ _ (by omega) (by omega) (by omega) (by omega)).mono ?_
                  rintro e w1 ⟨rfl, q2, rfl⟩
                  rw [G.out]
                  go_wp2
                  go_ret2
                  exact ⟨ret_ib (by rw [H.out.2]; omega) H.out.1.symm, _, rfl⟩
                · have H := Lib.hid (nth_no (f := f) (t := t) (num := num) (k := k) (by omega))
                  go_enter Tryd.func31, Tryd.ntmps31
                  go_wp2_with (go_at_call 49; refine (rin_b _ _ _ _).mono ?_; rintro e w' ⟨rfl, rfl⟩)
                  refine (rweekday_any _ _ (by omega) (by omega)).mono ?_
                  rintro e w1 ⟨rfl, q1, rfl⟩
                  go_wp2_with fail
                  refine (rdiv_any _ _ _ (by omega) (by omega) (by omega) (by omega)).mono ?_
                  rintro e w1 ⟨rfl, q2, rfl⟩
                  rw [G.out]
                  go_wp2
                  go_ret2
                  exact ⟨ret_ib H.out.2.symm H.out.1.symm, _, rfl⟩
              · have H := Lib.hid (nth_no (f := f) (t := t) (num := num) (k := k) (by omega))
                go_enter Tryd.func31, Tryd.ntmps31
                go_wp2_with (go_at_call 49; refine (rin_b _ _ _ _).mono ?_; rintro e w' ⟨rfl, rfl⟩)
                refine (rweekday_any _ _ (by omega) (by omega)).mono ?_
                rintro e w1 ⟨rfl, q1, rfl⟩
                go_wp2_with fail
                refine (rdiv_any _ _ _ (by omega) (by omega) (by omega) (by omega)).mono ?_
                rintro e w1 ⟨rfl, q2, rfl⟩
                rw [G.out]
                go_wp2
                go_ret2
                exact ⟨ret_ib H.out.2.symm H.out.1.symm, _, rfl⟩
            · obtain ⟨X, x1, x2, x3, x4⟩ := wrap_neg (x := t - f) (by omega) (by omega)
              have H := Lib.hid (nth_neg (f := f) (t := t) (num := num) (k := k) (by omega) hneg (by omega))
              have hf : 0 ≤ t := by omega
              clear hin
              go_enter Tryd.func31, Tryd.ntmps31
              go_wp2_with (go_at_call 49; refine (rin_b _ _ _ _).mono ?_; rintro e w' ⟨rfl, rfl⟩)
              refine (rweekday_any _ _ (by omega) (by omega)).mono ?_
              rintro e w1 ⟨rfl, q1, rfl⟩
              go_wp2_with fail
              refine (rdiv_any _ _ _ (by omega) (by omega) (by omega) (by omega)).mono ?_
              rintro e w1 ⟨rfl, q2, rfl⟩
              rw [G.out]
              go_wp2
              go_ret2
              exact ⟨ret_ib (by rw [H.out.2]; omega) H.out.1.symm, _, rfl⟩
      · have H := Lib.hid (nth_no (f := f) (t := t) (num := num) (k := k) (by omega))
        clear h0
        go_enter Tryd.func31, Tryd.ntmps31
        go_wp2_with (go_at_call 49; refine (rin_b _ _ _ _).mono ?_; rintro e w' ⟨rfl, rfl⟩)
        go_ret2
        exact ⟨ret_ib H.out.2.symm H.out.1.symm, 0, rfl⟩
  · have H := Lib.hid (nth_no (f := f) (t := t) (num := num) (k := k) (by omega))
    go_enter Tryd.func31, Tryd.ntmps31
    go_wp2_with (go_at_call 49; refine (rin_b _ _ _ _).mono ?_; rintro e w' ⟨rfl, rfl⟩)
    go_ret2
    exact ⟨ret_ib H.out.2.symm H.out.1.symm, 0, rfl⟩
end Wk
end Go.Proofs.YtpkknhbhliapcaaDoor
