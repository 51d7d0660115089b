/-
  Several texts in one (Week3, Week4, RefWk).
-/
import Derived.Test.YthefgagmjamdkaaGreatDoorBdD
import Derived.Test.YthefgagmjamdkaaGreatDoorBdS
/-
  Contracts of package week, its third part: Nth, No, Weeks.
-/
namespace Go.Proofs.YthefgagmjamdkaaGreatDoor
open Go.RowKit
namespace Wk
open Civ
theorem ret_ib {a a' : Int} {b b' : Bool} (h : a = a') (k : b = b') : Ending.returned (.tuple #[.int .i64 a, .bool b]) = .returned (.tuple #[.int .i64 a', .bool b']) := by rw [h, k]
def nthB (f t num k : Int) : Bool := decide ((num ≠ 0 ∧ -1000 ≤ num ∧ num ≤ 1000 ∧ 0 ≤ k ∧ k ≤ 6) ∧ (0 < num → f + (untl f k + 7 * (num - 1)) ≤ t) ∧ (num < 0 → f ≤ t - (since k t + 7 * (-num - 1))))
def nthV (f t num k : Int) : Int := if nthB f t num k then (if 0 < num then f + (untl f k + 7 * (num - 1)) else t - (since k t + 7 * (-num - 1))) else 0
theorem nth_no {f t num k : Int} (h : ¬ ((num ≠ 0 ∧ -1000 ≤ num ∧ num ≤ 1000 ∧ 0 ≤ k ∧ k ≤ 6) ∧ (0 < num → f + (untl f k + 7 * (num - 1)) ≤ t) ∧ (num < 0 → f ≤ t - (since k t + 7 * (-num - 1))))) : nthB f t num k = false ∧ nthV f t num k = 0 := by
  have e : nthB f t num k = false := decide_eq_false h
  exact ⟨e, by rw [nthV, e]; rfl⟩
theorem nth_pos {f t num k : Int} (h1 : num ≠ 0 ∧ -1000 ≤ num ∧ num ≤ 1000 ∧ 0 ≤ k ∧ k ≤ 6) (h0 : 0 < num) (h : f + (untl f k + 7 * (num - 1)) ≤ t) : nthB f t num k = true ∧ nthV f t num k = f + (untl f k + 7 * (num - 1)) := by
  have e : nthB f t num k = true := decide_eq_true ⟨h1, fun _ => h, fun h2 => by omega⟩
  exact ⟨e, by rw [nthV, if_pos e, if_pos h0]⟩
theorem nth_neg {f t num k : Int} (h1 : num ≠ 0 ∧ -1000 ≤ num ∧ num ≤ 1000 ∧ 0 ≤ k ∧ k ≤ 6) (h0 : num < 0) (h : f ≤ t - (since k t + 7 * (-num - 1))) : nthB f t num k = true ∧ nthV f t num k = t - (since k t + 7 * (-num - 1)) := by
  have e : nthB f t num k = true := decide_eq_true ⟨h1, fun h2 => by omega, fun _ => h⟩
  exact ⟨e, by rw [nthV, if_pos e, if_neg (by omega)]⟩

end Wk
end Go.Proofs.YthefgagmjamdkaaGreatDoor
/-
  Contracts of package week, its fourth part: firstWeek, Weeks, No.
-/
namespace Go.Proofs.YthefgagmjamdkaaGreatDoor
open Go.RowKit
namespace Wk
open Civ
def n4 (y : Int) : Int := Cal.num y 1 4
def fw (y k : Int) : Int := n4 y - since k (n4 y)
theorem n4_ok {y : Int} (h0 : 0 ≤ y) (h1 : y ≤ 10000) : numV y 1 4 = n4 y ∧ numE y 1 4 = 0 ∧ -719528 ≤ n4 y ∧ n4 y ≤ 2933262 := by
  have l := Cal.mlen_28 (y := y) (m := 1) (by decide) (by decide)
  obtain ⟨a, b, _, _, c, d⟩ := num_bd h0 h1 (M := 1) (D := 4) (by decide) (by decide) (by decide) (by omega)
  exact ⟨b, a, c, d⟩
def wkE (y k : Int) : Int := if 0 ≤ k ∧ k ≤ 6 then (if 1 ≤ y ∧ y ≤ 9999 then 0 else 23) else 1
def wkV (y k : Int) : Int := if (0 ≤ k ∧ k ≤ 6) ∧ (1 ≤ y ∧ y ≤ 9999) then (fw (y + 1) k - fw y k) / 7 else 0
theorem fw_bd {y k : Int} (h0 : 0 ≤ y) (h1 : y ≤ 10000) : -719600 ≤ fw y k ∧ fw y k ≤ 2933262 := by
  obtain ⟨_, _, c, d⟩ := n4_ok h0 h1
  have := since_bd k (n4 y)
  unfold fw; omega
theorem fw_le {y k : Int} (_h0 : 0 ≤ y) (_h1 : y + 1 ≤ 10000) : 0 ≤ fw (y + 1) k - fw y k := by
  have s1 := since_bd k (n4 (y + 1))
  have s2 := since_bd k (n4 y)
  have e : n4 y + 365 ≤ n4 (y + 1) := by
    have := Cal.ny_succ y
    have := Cal.lp_01 y
    have c1 := Cal.cum_1 y
    have c2 := Cal.cum_1 (y + 1)
    unfold n4 Cal.num; omega
  unfold fw; omega

def mid (n k : Int) : Int := n - since k n + 3
def noOk (n k : Int) : Bool := decide ((0 ≤ k ∧ k ≤ 6) ∧ (-719528 ≤ n ∧ n ≤ 2933262) ∧ 1 ≤ Cal.yr n ∧ Cal.yr n ≤ 9999)
def noE (n k : Int) : Int := if 0 ≤ k ∧ k ≤ 6 then (if noOk n k then 0 else 23) else 1
def noY (n k : Int) : Int := if noOk n k then Cal.yr (mid n k) else 0
def noN (n k : Int) : Int := if noOk n k then (mid n k - Cal.ny (Cal.yr (mid n k))) / 7 + 1 else 0
theorem ret_iii {a a' b b' c c' : Int} (h : a = a') (h2 : b = b') (h3 : c = c') : Ending.returned (.tuple #[.int .i64 a, .int .i64 b, .int .i64 c]) = .returned (.tuple #[.int .i64 a', .int .i64 b', .int .i64 c']) := by rw [h, h2, h3]
theorem no_1 {n k : Int} (h : ¬ (0 ≤ k ∧ k ≤ 6)) : noE n k = 1 ∧ noY n k = 0 ∧ noN n k = 0 := by
  have e : noOk n k = false := decide_eq_false (fun x => h x.1)
  exact ⟨by rw [noE, if_neg h], by rw [noY, e]; rfl, by rw [noN, e]; rfl⟩
theorem no_23 {n k : Int} (hk : 0 ≤ k ∧ k ≤ 6) (h : ¬ ((-719528 ≤ n ∧ n ≤ 2933262) ∧ 1 ≤ Cal.yr n ∧ Cal.yr n ≤ 9999)) : noE n k = 23 ∧ noY n k = 0 ∧ noN n k = 0 := by
  have e : noOk n k = false := decide_eq_false (fun x => h x.2)
  exact ⟨by rw [noE, if_pos hk, e]; rfl, by rw [noY, e]; rfl, by rw [noN, e]; rfl⟩
theorem no_0 {n k : Int} (hk : 0 ≤ k ∧ k ≤ 6) (h : (-719528 ≤ n ∧ n ≤ 2933262) ∧ 1 ≤ Cal.yr n ∧ Cal.yr n ≤ 9999) : noE n k = 0 ∧ noY n k = Cal.yr (mid n k) ∧ noN n k = (mid n k - Cal.ny (Cal.yr (mid n k))) / 7 + 1 := by
  have e : noOk n k = true := decide_eq_true ⟨hk, h⟩
  exact ⟨by rw [noE, if_pos hk, if_pos e], by rw [noY, if_pos e], by rw [noN, if_pos e]⟩
theorem mid_in {n k : Int} (h : -719528 ≤ n ∧ n ≤ 2933262) (h1 : 1 ≤ Cal.yr n) (h2 : Cal.yr n ≤ 9999) : -719528 ≤ mid n k ∧ mid n k ≤ 2933262 := by
  obtain ⟨a, b, _, _⟩ := Cal.yr_spec h.1 h.2
  have s := since_bd k n
  have m1 := Cal.ny_mono (a := 1) (b := Cal.yr n) h1
  have m2 := Cal.ny_mono (a := Cal.yr n + 1) (b := 10000) (by omega)
  have e1 : Cal.ny 1 = -719162 := rfl
  have e2 : Cal.ny 10000 = 2932897 := rfl
  unfold mid; omega

end Wk
end Go.Proofs.YthefgagmjamdkaaGreatDoor
/-
  Contracts of the reference's calls on weekdays: On, nth, Nth.
-/
namespace Go.Proofs.YthefgagmjamdkaaGreatDoor
open Go.RowKit
namespace Wk
open Civ
def inb (lo hi n : Int) : Bool := decide (lo ≤ n ∧ n ≤ hi)
theorem inb_yes {lo hi n : Int} (h : lo ≤ n ∧ n ≤ hi) : inb lo hi n = true := decide_eq_true h
theorem inb_no {lo hi n : Int} (h : ¬ (lo ≤ n ∧ n ≤ hi)) : inb lo hi n = false := decide_eq_false h
theorem rin_b (n lo hi : Int) (w : World) :
    Calls Tryz.prog 70 #[.int .i64 n, .int .i64 lo, .int .i64 hi] w fun e w' => e = .returned (.bool (inb lo hi n)) ∧ w = w' := rin_any n lo hi w
theorem inb_cases (lo hi n : Int) : (inb lo hi n = true ∧ lo ≤ n ∧ n ≤ hi) ∨ (inb lo hi n = false ∧ ¬ (lo ≤ n ∧ n ≤ hi)) := by
  by_cases h : lo ≤ n ∧ n ≤ hi
  · exact Or.inl ⟨inb_yes h, h⟩
  · exact Or.inr ⟨inb_no h, h⟩

set_option maxHeartbeats 1600000 in
theorem ron_any (k v d : Int) (w : World) :
    Calls Tryz.prog 40 #[.agg #[.int .i64 k, .int .i64 v, .int .i64 d]] w fun e w' => e = .returned (.bool (onOk k v d)) ∧ w.alloc (Obj.cells #[.int .i64 k, .int .i64 v, .int .i64 d] 26) = w' := by
  have hk : k = 1 ∨ k = 2 ∨ k = 3 ∨ k = 4 ∨ ¬ (k = 1 ∨ k = 2 ∨ k = 3 ∨ k = 4) := by omega
  have hv := inb_cases 0 6 v
  have hd := inb_cases 1 31 d
  have hz1 : v = 0 ∨ (v ≠ 0 ∧ (v == 0) = false) := by by_cases h : v = 0; exact Or.inl h; exact Or.inr ⟨h, beq_eq_false_iff_ne.2 h⟩
  have hz2 : d = 0 ∨ (d ≠ 0 ∧ (d == 0) = false) := by by_cases h : d = 0; exact Or.inl h; exact Or.inr ⟨h, beq_eq_false_iff_ne.2 h⟩
  rcases hk with rfl | rfl | rfl | rfl | hk
  · clear hv hz2
    rcases hd with ⟨b1, b2⟩ | ⟨b1, b2⟩ <;> rcases hz1 with rfl | ⟨c1, c2⟩
    all_goals
      go_enter Tryz.func40, Tryz.ntmps40
      go_wp2_with (go_at_call 70; refine (rin_b _ _ _ _).mono ?_; rintro e w' ⟨rfl, rfl⟩)
      go_ret
      exact ⟨ret_b (by first | (refine (onOk_mk ?_).symm; omega) | (refine (onOk_no ?_).symm; omega)), rfl⟩
  · clear hd hz1
    rcases hv with ⟨b1, b2⟩ | ⟨b1, b2⟩ <;> rcases hz2 with rfl | ⟨c1, c2⟩
    all_goals
      go_enter Tryz.func40, Tryz.ntmps40
      go_wp2_with (go_at_call 70; refine (rin_b _ _ _ _).mono ?_; rintro e w' ⟨rfl, rfl⟩)
      go_ret
      exact ⟨ret_b (by first | (refine (onOk_mk ?_).symm; omega) | (refine (onOk_no ?_).symm; omega)), rfl⟩
  · clear hz1 hz2
    rcases hv with ⟨b1, b2⟩ | ⟨b1, b2⟩ <;> rcases hd with ⟨c1, c2⟩ | ⟨c1, c2⟩
    all_goals
      go_enter Tryz.func40, Tryz.ntmps40
      go_wp2_with (go_at_call 70; refine (rin_b _ _ _ _).mono ?_; rintro e w' ⟨rfl, rfl⟩)
      go_ret
      exact ⟨ret_b (by first | (refine (onOk_mk ?_).symm; omega) | (refine (onOk_no ?_).symm; omega)), rfl⟩
  · clear hz1 hz2
    rcases hv with ⟨b1, b2⟩ | ⟨b1, b2⟩ <;> rcases hd with ⟨c1, c2⟩ | ⟨c1, c2⟩
    all_goals
      go_enter Tryz.func40, Tryz.ntmps40
      go_wp2_with (go_at_call 70; refine (rin_b _ _ _ _).mono ?_; rintro e w' ⟨rfl, rfl⟩)
      go_ret
      exact ⟨ret_b (by first | (refine (onOk_mk ?_).symm; omega) | (refine (onOk_no ?_).symm; omega)), rfl⟩
  · clear hz1 hz2 hv hd
    have c1 : (k == 1) = false := beq_eq_false_iff_ne.2 (by omega)
    have c2 : (k == 2) = false := beq_eq_false_iff_ne.2 (by omega)
    have c3 : (k == 3) = false := beq_eq_false_iff_ne.2 (by omega)
    have c4 : (k == 4) = false := beq_eq_false_iff_ne.2 (by omega)
    have H := Lib.hid (onOk_no (k := k) (w := v) (d := d) (by omega))
    clear hk
    go_enter Tryz.func40, Tryz.ntmps40
    go_wp2
    go_ret
    exact ⟨ret_b H.out.symm, rfl⟩

end Wk
end Go.Proofs.YthefgagmjamdkaaGreatDoor
