/-
  Contracts of package week, its third part: Nth, No, Weeks.
-/
import Derived.Test.YtpkknhbhliapcaaDoorWeek2
namespace Go.Proofs.YtpkknhbhliapcaaDoor
open Go.RowKit
namespace Wk
open Civ
theorem ret_ib {a a' : Int} {b b' : Bool} (h : a = a') (k : b = b') : Ending.returned (.tuple #[.int .i64 a, .bool b]) = .returned (.tuple #[.int .i64 a', .bool b']) := by rw [h, k]
def nthB (f t num k : Int) : Bool := decide ((num ≠ 0 ∧ -1000 ≤ num ∧ num ≤ 1000 ∧ 0 ≤ k ∧ k ≤ 6) ∧ (0 < num → f + (untl f k + 7 * (num - 1)) ≤ t) ∧ (num < 0 → f ≤ t - (since k t + 7 * (-num - 1))))
def nthV (f t num k : Int) : Int := if nthB f t num k then (if 0 < num then f + (untl f k + 7 * (num - 1)) else t - (since k t + 7 * (-num - 1))) else 0
theorem nth_no {f t num k : Int} (h : ¬ ((num ≠ 0 ∧ -1000 ≤ num ∧ num ≤ 1000 ∧ 0 ≤ k ∧ k ≤ 6) ∧ (0 < num → f + (untl f k + 7 * (num - 1)) ≤ t) ∧ (num < 0 → f ≤ t - (since k t + 7 * (-num - 1))))) : nthB f t num k = false ∧ nthV f t num k = 0 := by
  have e : nthB f t num k = false := decide_eq_false h
  exact ⟨e, by rw [nthV, e]; rfl⟩
theorem nth_pos {f t num k : Int} (h1 : num ≠ 0 ∧ -1000 ≤ num ∧ num ≤ 1000 ∧ 0 ≤ k ∧ k ≤ 6) (h0 : 0 < num) (h : f + (untl f k + 7 * (num - 1)) ≤ t) : nthB f t num k = true ∧ nthV f t num k = f + (untl f k + 7 * (num - 1)) := by
  have e : nthB f t num k = true := decide_eq_true ⟨h1, fun _ => h, fun h2 => by omega⟩
  exact ⟨e, by rw [nthV, if_pos e, if_pos h0]⟩
theorem nth_neg {f t num k : Int} (h1 : num ≠ 0 ∧ -1000 ≤ num ∧ num ≤ 1000 ∧ 0 ≤ k ∧ k ≤ 6) (h0 : num < 0) (h : f ≤ t - (since k t + 7 * (-num - 1))) : nthB f t num k = true ∧ nthV f t num k = t - (since k t + 7 * (-num - 1)) := by
  have e : nthB f t num k = true := decide_eq_true ⟨h1, fun h2 => by omega, fun _ => h⟩
  exact ⟨e, by rw [nthV, if_pos e, if_neg (by omega)]⟩

set_option maxHeartbeats 1600000 in
theorem nth_any (f t num k : Int) (w : World) (f1 : -9223372036854775808 ≤ f) (f2 : f ≤ 9223372036854775807) (t1 : -9223372036854775808 ≤ t) (t2 : t ≤ 9223372036854775807) :
    Calls Tryd.prog 26 #[.int .i64 f, .int .i64 t, .int .i64 num, .int .i64 k] w fun e w' => e = .returned (.tuple #[.int .i64 (nthV f t num k), .bool (nthB f t num k)]) ∧ w = w' := by
  by_cases hk : 0 ≤ k ∧ k ≤ 6
  · have hw := isW_yes hk
    obtain ⟨k0, k6⟩ := hk
    by_cases h0 : num = 0
    · subst h0
      have H := Lib.hid (nth_no (f := f) (t := t) (num := 0) (k := k) (by omega))
      go_enter Tryd.func26, Tryd.ntmps26
      go_wp2_with (go_at_call 52; refine (isW_any _ _).mono ?_; rintro e w' ⟨rfl, rfl⟩)
      go_ret2
      exact ⟨ret_ib H.out.2.symm H.out.1.symm, rfl⟩
    · have n0 : (num == 0) = false := beq_eq_false_iff_ne.2 h0
      by_cases h1 : -1000 ≤ num
      · by_cases h2 : num ≤ 1000
        · have hall : num ≠ 0 ∧ -1000 ≤ num ∧ num ≤ 1000 ∧ 0 ≤ k ∧ k ≤ 6 := ⟨h0, h1, h2, k0, k6⟩
          by_cases hp : 0 < num
          · have ub := untl_bd f k
            by_cases hc : f + (untl f k + 7 * (num - 1)) ≤ t
            · have H := Lib.hid (nth_pos hall hp hc)
              clear hall h0
              go_enter Tryd.func26, Tryd.ntmps26
              go_wp2_with (first | (go_at_call 52; refine (isW_any _ _).mono ?_; rintro e w' ⟨rfl, rfl⟩) | (go_at_call 51; refine (until_any _ _ _ k0 k6).mono ?_; rintro e w' ⟨rfl, rfl⟩))
              go_ret2
              exact ⟨ret_ib H.out.2.symm H.out.1.symm, rfl⟩
            · have H := Lib.hid (nth_no (f := f) (t := t) (num := num) (k := k) (fun h => hc (h.2.1 hp)))
              clear hall h0
              by_cases hx : f ≤ 9223372036854775807 - (untl f k + 7 * (num - 1))
              · go_enter Tryd.func26, Tryd.ntmps26
                go_wp2_with (first | (go_at_call 52; refine (isW_any _ _).mono ?_; rintro e w' ⟨rfl, rfl⟩) | (go_at_call 51; refine (until_any _ _ _ k0 k6).mono ?_; rintro e w' ⟨rfl, rfl⟩))
                go_ret2
                exact ⟨ret_ib H.out.2.symm H.out.1.symm, rfl⟩
              · go_enter Tryd.func26, Tryd.ntmps26
                go_wp2_with (first | (go_at_call 52; refine (isW_any _ _).mono ?_; rintro e w' ⟨rfl, rfl⟩) | (go_at_call 51; refine (until_any _ _ _ k0 k6).mono ?_; rintro e w' ⟨rfl, rfl⟩))
                go_ret2
                exact ⟨ret_ib H.out.2.symm H.out.1.symm, rfl⟩
          · have hneg : num < 0 := by omega
            have sb := since_bd k t
            by_cases hc : f ≤ t - (since k t + 7 * (-num - 1))
            · have H := Lib.hid (nth_neg hall hneg hc)
              clear hall h0
              go_enter Tryd.func26, Tryd.ntmps26
              go_wp2_with (first | (go_at_call 52; refine (isW_any _ _).mono ?_; rintro e w' ⟨rfl, rfl⟩) | (go_at_call 50; refine (since_any _ _ _ k0 k6).mono ?_; rintro e w' ⟨rfl, rfl⟩))
              go_ret2
              exact ⟨ret_ib H.out.2.symm H.out.1.symm, rfl⟩
            · have H := Lib.hid (nth_no (f := f) (t := t) (num := num) (k := k) (fun h => hc (h.2.2 hneg)))
              clear hall h0
              by_cases hx : -9223372036854775808 + (since k t + 7 * (-num - 1)) ≤ t
              · go_enter Tryd.func26, Tryd.ntmps26
                go_wp2_with (first | (go_at_call 52; refine (isW_any _ _).mono ?_; rintro e w' ⟨rfl, rfl⟩) | (go_at_call 50; refine (since_any _ _ _ k0 k6).mono ?_; rintro e w' ⟨rfl, rfl⟩))
                go_ret2
                exact ⟨ret_ib H.out.2.symm H.out.1.symm, rfl⟩
              · go_enter Tryd.func26, Tryd.ntmps26
                go_wp2_with (first | (go_at_call 52; refine (isW_any _ _).mono ?_; rintro e w' ⟨rfl, rfl⟩) | (go_at_call 50; refine (since_any _ _ _ k0 k6).mono ?_; rintro e w' ⟨rfl, rfl⟩))
                go_ret2
                exact ⟨ret_ib H.out.2.symm H.out.1.symm, rfl⟩
        · have H := Lib.hid (nth_no (f := f) (t := t) (num := num) (k := k) (fun h => h2 h.1.2.2.1))
          clear h0
          go_enter Tryd.func26, Tryd.ntmps26
          go_wp2_with (go_at_call 52; refine (isW_any _ _).mono ?_; rintro e w' ⟨rfl, rfl⟩)
          go_ret2
          exact ⟨ret_ib H.out.2.symm H.out.1.symm, rfl⟩
      · have H := Lib.hid (nth_no (f := f) (t := t) (num := num) (k := k) (fun h => h1 h.1.2.1))
        clear h0
        go_enter Tryd.func26, Tryd.ntmps26
        go_wp2_with (go_at_call 52; refine (isW_any _ _).mono ?_; rintro e w' ⟨rfl, rfl⟩)
        go_ret2
        exact ⟨ret_ib H.out.2.symm H.out.1.symm, rfl⟩
  · have hw := isW_no hk
    have H := Lib.hid (nth_no (f := f) (t := t) (num := num) (k := k) (fun h => hk h.1.2.2.2))
    clear hk
    by_cases h0 : num = 0
    · subst h0
      go_enter Tryd.func26, Tryd.ntmps26
      go_wp2_with (go_at_call 52; refine (isW_any _ _).mono ?_; rintro e w' ⟨rfl, rfl⟩)
      all_goals go_ret2
      all_goals exact ⟨ret_ib H.out.2.symm H.out.1.symm, rfl⟩
    · have n0 : (num == 0) = false := beq_eq_false_iff_ne.2 h0
      clear h0
      go_enter Tryd.func26, Tryd.ntmps26
      go_wp2_with (go_at_call 52; refine (isW_any _ _).mono ?_; rintro e w' ⟨rfl, rfl⟩)
      all_goals go_ret2
      all_goals exact ⟨ret_ib H.out.2.symm H.out.1.symm, rfl⟩
end Wk
end Go.Proofs.YtpkknhbhliapcaaDoor
