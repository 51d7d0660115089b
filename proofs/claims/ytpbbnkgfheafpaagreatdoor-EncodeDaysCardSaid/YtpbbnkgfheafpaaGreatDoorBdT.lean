/-
  Several texts in one (Week3, Week4, RefWk).
-/
import Derived.Test.YtpbbnkgfheafpaaGreatDoorBdD
import Derived.Test.YtpbbnkgfheafpaaGreatDoorBdS
/-
  Contracts of package week, its third part: Nth, No, Weeks.
-/
namespace Go.Proofs.YtpbbnkgfheafpaaGreatDoor
open Go.RowKit
namespace Wk
open Civ
theorem ret_ib {a a' : Int} {b b' : Bool} (h : a = a') (k : b = b') : Ending.returned (.tuple #[.int .i64 a, .bool b]) = .returned (.tuple #[.int .i64 a', .bool b']) := by rw [h, k]
def nthB (f t num k : Int) : Bool := decide ((num ≠ 0 ∧ -1000 ≤ num ∧ num ≤ 1000 ∧ 0 ≤ k ∧ k ≤ 6) ∧ (0 < num → f + (untl f k + 7 * (num - 1)) ≤ t) ∧ (num < 0 → f ≤ t - (since k t + 7 * (-num - 1))))
def nthV (f t num k : Int) : Int := if nthB f t num k then (if 0 < num then f + (untl f k + 7 * (num - 1)) else t - (since k t + 7 * (-num - 1))) else 0
theorem nth_no {f t num k : Int} (h : ¬ ((num ≠ 0 ∧ -1000 ≤ num ∧ num ≤ 1000 ∧ 0 ≤ k ∧ k ≤ 6) ∧ (0 < num → f + (untl f k + 7 * (num - 1)) ≤ t) ∧ (num < 0 → f ≤ t - (since k t + 7 * (-num - 1))))) : nthB f t num k = false ∧ nthV f t num k = 0 := by
  have e : nthB f t num k = false := decide_eq_false h
  exact ⟨e, by rw [nthV, e]; rfl⟩
theorem nth_pos {f t num k : Int} (h1 : num ≠ 0 ∧ -1000 ≤ num ∧ num ≤ 1000 ∧ 0 ≤ k ∧ k ≤ 6) (h0 : 0 < num) (h : f + (untl f k + 7 * (num - 1)) ≤ t) : nthB f t num k = true ∧ nthV f t num k = f + (untl f k + 7 * (num - 1)) := by
  have e : nthB f t num k = true := decide_eq_true ⟨h1, fun _ => h, fun h2 => by omega⟩
  exact ⟨e, by rw [nthV, if_pos e, if_pos h0]⟩
theorem nth_neg {f t num k : Int} (h1 : num ≠ 0 ∧ -1000 ≤ num ∧ num ≤ 1000 ∧ 0 ≤ k ∧ k ≤ 6) (h0 : num < 0) (h : f ≤ t - (since k t + 7 * (-num - 1))) : nthB f t num k = true ∧ nthV f t num k = t - (since k t + 7 * (-num - 1)) := by
  have e : nthB f t num k = true := decide_eq_true ⟨h1, fun h2 => by omega, fun _ => h⟩
  exact ⟨e, by rw [nthV, if_pos e, if_neg (by omega)]⟩

set_option maxHeartbeats 1600000 in
theorem nth_any (f t num k : Int) (w : World) (f1 : -9223372036854775808 ≤ f) (f2 : f ≤ 9223372036854775807) (t1 : -9223372036854775808 ≤ t) (t2 : t ≤ 9223372036854775807) :
    Calls Tryz.prog 96 #[.int .i64 f, .int .i64 t, .int .i64 num, .int .i64 k] w fun e w' => e = .returned (.tuple #[.int .i64 (nthV f t num k), .bool (nthB f t num k)]) ∧ w = w' := by
  by_cases hk : 0 ≤ k ∧ k ≤ 6
  · have hw := isW_yes hk
    obtain ⟨k0, k6⟩ := hk
    by_cases h0 : num = 0
    · subst h0
      have H := Lib.hid (nth_no (f := f) (t := t) (num := 0) (k := k) (by omega))
      go_enter Tryz.func96, Tryz.ntmps96
      go_wp2_with (go_at_call 35; refine (isW_any _ _).mono ?_; rintro e w' ⟨rfl, rfl⟩)
      go_ret2
      exact ⟨ret_ib H.out.2.symm H.out.1.symm, rfl⟩
    · have n0 : (num == 0) = false := beq_eq_false_iff_ne.2 h0
      by_cases h1 : -1000 ≤ num
      · by_cases h2 : num ≤ 1000
        · have hall : num ≠ 0 ∧ -1000 ≤ num ∧ num ≤ 1000 ∧ 0 ≤ k ∧ k ≤ 6 := ⟨h0, h1, h2, k0, k6⟩
          by_cases hp : 0 < num
          · have ub := untl_bd f k
            by_cases hc : f + (untl f k + 7 * (num - 1)) ≤ t
            · have H := Lib.hid (nth_pos hall hp hc)
              clear hall h0
              go_enter Tryz.func96, Tryz.ntmps96
              go_wp2_with (first | (go_at_call 35; refine (isW_any _ _).mono ?_; rintro e w' ⟨rfl, rfl⟩) | (go_at_call 18; refine (until_any _ _ _ k0 k6).mono ?_; rintro e w' ⟨rfl, rfl⟩))
              go_ret2
              exact ⟨ret_ib H.out.2.symm H.out.1.symm, rfl⟩
            · have H := Lib.hid (nth_no (f := f) (t := t) (num := num) (k := k) (fun h => hc (h.2.1 hp)))
              clear hall h0
              by_cases hx : f ≤ 9223372036854775807 - (untl f k + 7 * (num - 1))
              · go_enter Tryz.func96, Tryz.ntmps96
                go_wp2_with (first | (go_at_call 35; refine (isW_any _ _).mono ?_; rintro e w' ⟨rfl, rfl⟩) | (go_at_call 18; refine (until_any _ _ _ k0 k6).mono ?_; rintro e w' ⟨rfl, rfl⟩))
                go_ret2
                exact ⟨ret_ib H.out.2.symm H.out.1.symm, rfl⟩
              · go_enter Tryz.func96, Tryz.ntmps96
                go_wp2_with (first | (go_at_call 35; refine (isW_any _ _).mono ?_; rintro e w' ⟨rfl, rfl⟩) | (go_at_call 18; refine (until_any _ _ _ k0 k6).mono ?_; rintro e w' ⟨rfl, rfl⟩))
                go_ret2
                exact ⟨ret_ib H.out.2.symm H.out.1.symm, rfl⟩
          · have hneg : num < 0 := by omega
            have sb := since_bd k t
            by_cases hc : f ≤ t - (since k t + 7 * (-num - 1))
            · have H := Lib.hid (nth_neg hall hneg hc)
              clear hall h0
              go_enter Tryz.func96, Tryz.ntmps96
              go_wp2_with (first | (go_at_call 35; refine (isW_any _ _).mono ?_; rintro e w' ⟨rfl, rfl⟩) | (go_at_call 17; refine (since_any _ _ _ k0 k6).mono ?_; rintro e w' ⟨rfl, rfl⟩))
              go_ret2
              exact ⟨ret_ib H.out.2.symm H.out.1.symm, rfl⟩
            · have H := Lib.hid (nth_no (f := f) (t := t) (num := num) (k := k) (fun h => hc (h.2.2 hneg)))
              clear hall h0
              by_cases hx : -9223372036854775808 + (since k t + 7 * (-num - 1)) ≤ t
              · go_enter Tryz.func96, Tryz.ntmps96
                go_wp2_with (first | (go_at_call 35; refine (isW_any _ _).mono ?_; rintro e w' ⟨rfl, rfl⟩) | (go_at_call 17; refine (since_any _ _ _ k0 k6).mono ?_; rintro e w' ⟨rfl, rfl⟩))
                go_ret2
                exact ⟨ret_ib H.out.2.symm H.out.1.symm, rfl⟩
              · go_enter Tryz.func96, Tryz.ntmps96
                go_wp2_with (first | (go_at_call 35; refine (isW_any _ _).mono ?_; rintro e w' ⟨rfl, rfl⟩) | (go_at_call 17; refine (since_any _ _ _ k0 k6).mono ?_; rintro e w' ⟨rfl, rfl⟩))
                go_ret2
                exact ⟨ret_ib H.out.2.symm H.out.1.symm, rfl⟩
        · have H := Lib.hid (nth_no (f := f) (t := t) (num := num) (k := k) (fun h => h2 h.1.2.2.1))
          clear h0
          go_enter Tryz.func96, Tryz.ntmps96
          go_wp2_with (go_at_call 35; refine (isW_any _ _).mono ?_; rintro e w' ⟨rfl, rfl⟩)
          go_ret2
          exact ⟨ret_ib H.out.2.symm H.out.1.symm, rfl⟩
      · have H := Lib.hid (nth_no (f := f) (t := t) (num := num) (k := k) (fun h => h1 h.1.2.1))
        clear h0
        go_enter Tryz.func96, Tryz.ntmps96
        go_wp2_with (go_at_call 35; refine (isW_any _ _).mono ?_; rintro e w' ⟨rfl, rfl⟩)
        go_ret2
        exact ⟨ret_ib H.out.2.symm H.out.1.symm, rfl⟩
  · have hw := isW_no hk
    have H := Lib.hid (nth_no (f := f) (t := t) (num := num) (k := k) (fun h => hk h.1.2.2.2))
    clear hk
    by_cases h0 : num = 0
    · subst h0
      go_enter Tryz.func96, Tryz.ntmps96
      go_wp2_with (go_at_call 35; refine (isW_any _ _).mono ?_; rintro e w' ⟨rfl, rfl⟩)
      all_goals go_ret2
      all_goals exact ⟨ret_ib H.out.2.symm H.out.1.symm, rfl⟩
    · have n0 : (num == 0) = false := beq_eq_false_iff_ne.2 h0
      clear h0
      go_enter Tryz.func96, Tryz.ntmps96
      go_wp2_with (go_at_call 35; refine (isW_any _ _).mono ?_; rintro e w' ⟨rfl, rfl⟩)
      all_goals go_ret2
      all_goals exact ⟨ret_ib H.out.2.symm H.out.1.symm, rfl⟩
end Wk
end Go.Proofs.YtpbbnkgfheafpaaGreatDoor
/-
  Contracts of package week, its fourth part: firstWeek, Weeks, No.
-/
namespace Go.Proofs.YtpbbnkgfheafpaaGreatDoor
open Go.RowKit
namespace Wk
open Civ
def n4 (y : Int) : Int := Cal.num y 1 4
def fw (y k : Int) : Int := n4 y - since k (n4 y)
theorem n4_ok {y : Int} (h0 : 0 ≤ y) (h1 : y ≤ 10000) : numV y 1 4 = n4 y ∧ numE y 1 4 = 0 ∧ -719528 ≤ n4 y ∧ n4 y ≤ 2933262 := by
  have l := Cal.mlen_28 (y := y) (m := 1) (by decide) (by decide)
  obtain ⟨a, b, _, _, c, d⟩ := num_bd h0 h1 (M := 1) (D := 4) (by decide) (by decide) (by decide) (by omega)
  exact ⟨b, a, c, d⟩
theorem first_any (y k : Int) (w : World) (hA : Ahead w) (h0 : 0 ≤ y) (h1 : y ≤ 10000) (k0 : 0 ≤ k) (k6 : k ≤ 6) :
    Calls Tryz.prog 103 #[.int .i64 y, .int .i64 k] w fun e w' => e = .returned (.tuple #[.int .i64 (fw y k), .int .i64 0]) ∧ Below w.heap.size w w' := by
  obtain ⟨a, b, c, d⟩ := n4_ok h0 h1
  have G1 := Lib.hid a
  have G0 := Lib.hid b
  have HA := Lib.hid hA
  have HF := Lib.hid (show fw y k = n4 y - since k (n4 y) from rfl)
  generalize n4 y = n at *
  have sb := since_bd k n
  clear a b hA
  go_enter Tryz.func103, Tryz.ntmps103
  go_wp2_with fail
  refine (number_at _ _ _ _ _ _ HA.out (by omega) (by omega) G1 G0).mono ?_
  rintro e w1 ⟨rfl, q, rfl⟩
  go_wp2_with fail
  refine (since_any _ _ _ k0 k6).mono ?_
  rintro e w1 ⟨rfl, rfl⟩
  go_wp2
  go_ret2
  exact ⟨ret_ii HF.out.symm rfl, by repeat (first | exact Below.refl _ _ | refine Below.setCell ?_ (by simp) _ | refine below_drewN ?_ _ | refine Below.drew ?_ | refine Below.alloc ?_ (by simp; try omega) _)⟩

def wkE (y k : Int) : Int := if 0 ≤ k ∧ k ≤ 6 then (if 1 ≤ y ∧ y ≤ 9999 then 0 else 23) else 1
def wkV (y k : Int) : Int := if (0 ≤ k ∧ k ≤ 6) ∧ (1 ≤ y ∧ y ≤ 9999) then (fw (y + 1) k - fw y k) / 7 else 0
theorem fw_bd {y k : Int} (h0 : 0 ≤ y) (h1 : y ≤ 10000) : -719600 ≤ fw y k ∧ fw y k ≤ 2933262 := by
  obtain ⟨_, _, c, d⟩ := n4_ok h0 h1
  have := since_bd k (n4 y)
  unfold fw; omega
theorem fw_le {y k : Int} (_h0 : 0 ≤ y) (_h1 : y + 1 ≤ 10000) : 0 ≤ fw (y + 1) k - fw y k := by
  have s1 := since_bd k (n4 (y + 1))
  have s2 := since_bd k (n4 y)
  have e : n4 y + 365 ≤ n4 (y + 1) := by
    have := Cal.ny_succ y
    have := Cal.lp_01 y
    have c1 := Cal.cum_1 y
    have c2 := Cal.cum_1 (y + 1)
    unfold n4 Cal.num; omega
  unfold fw; omega

set_option maxHeartbeats 800000 in
theorem weeks_any (y k : Int) (w : World) (hA : Ahead w) :
    Calls Tryz.prog 95 #[.int .i64 y, .int .i64 k] w fun e w' => e = .returned (.tuple #[.int .i64 (wkV y k), .int .i64 (wkE y k)]) ∧ Below w.heap.size w w' := by
  have HA := Lib.hid hA
  clear hA
  by_cases hk : 0 ≤ k ∧ k ≤ 6
  · have hw := isW_yes hk
    by_cases hy : 1 ≤ y ∧ y ≤ 9999
    · have HE : Hid (wkE y k = 0) := Lib.hid (by rw [wkE, if_pos hk, if_pos hy])
      have HV : Hid (wkV y k = (fw (y + 1) k - fw y k) / 7) := Lib.hid (by rw [wkV, if_pos ⟨hk, hy⟩])
      obtain ⟨k0, k6⟩ := hk
      obtain ⟨y1, y9⟩ := hy
      have f1 := fw_bd (y := y) (k := k) (by omega) (by omega)
      have f2 := fw_bd (y := y + 1) (k := k) (by omega) (by omega)
      have f3 := fw_le (y := y) (k := k) (by omega) (by omega)
      go_enter Tryz.func95, Tryz.ntmps95
      go_wp2_with (go_at_call 35; refine (isW_any _ _).mono ?_; rintro e w' ⟨rfl, rfl⟩)
      refine (first_any _ _ _ HA.out (by omega) (by omega) k0 k6).mono ?_
      rintro e w1 ⟨rfl, hb1⟩
      go_wp2_with fail
      refine (first_any _ _ _ (HA.out.stays hb1) (by omega) (by omega) k0 k6).mono ?_
      rintro e w2 ⟨rfl, hb2⟩
      go_wp2
      go_ret2
      exact ⟨ret_ii HV.out.symm HE.out.symm, hb1.trans (hb2.mono hb1.size)⟩
    · have HE : Hid (wkE y k = 23) := Lib.hid (by rw [wkE, if_pos hk, if_neg hy])
      have HV : Hid (wkV y k = 0) := Lib.hid (by rw [wkV, if_neg (fun h => hy h.2)])
      by_cases hy1 : y < 1
      · clear hy hk
        go_enter Tryz.func95, Tryz.ntmps95
        go_wp2_with (go_at_call 35; refine (isW_any _ _).mono ?_; rintro e w' ⟨rfl, rfl⟩)
        go_ret2
        exact ⟨ret_ii HV.out.symm HE.out.symm, Below.refl _ _⟩
      · have hy2 : 9999 < y := by omega
        clear hy hk
        go_enter Tryz.func95, Tryz.ntmps95
        go_wp2_with (go_at_call 35; refine (isW_any _ _).mono ?_; rintro e w' ⟨rfl, rfl⟩)
        go_ret2
        exact ⟨ret_ii HV.out.symm HE.out.symm, Below.refl _ _⟩
  · have hw := isW_no hk
    have HE : Hid (wkE y k = 1) := Lib.hid (by rw [wkE, if_neg hk])
    have HV : Hid (wkV y k = 0) := Lib.hid (by rw [wkV, if_neg (fun h => hk h.1)])
    clear hk
    go_enter Tryz.func95, Tryz.ntmps95
    go_wp2_with (go_at_call 35; refine (isW_any _ _).mono ?_; rintro e w' ⟨rfl, rfl⟩)
    go_ret2
    exact ⟨ret_ii HV.out.symm HE.out.symm, Below.refl _ _⟩

def mid (n k : Int) : Int := n - since k n + 3
def noOk (n k : Int) : Bool := decide ((0 ≤ k ∧ k ≤ 6) ∧ (-719528 ≤ n ∧ n ≤ 2933262) ∧ 1 ≤ Cal.yr n ∧ Cal.yr n ≤ 9999)
def noE (n k : Int) : Int := if 0 ≤ k ∧ k ≤ 6 then (if noOk n k then 0 else 23) else 1
def noY (n k : Int) : Int := if noOk n k then Cal.yr (mid n k) else 0
def noN (n k : Int) : Int := if noOk n k then (mid n k - Cal.ny (Cal.yr (mid n k))) / 7 + 1 else 0
theorem ret_iii {a a' b b' c c' : Int} (h : a = a') (h2 : b = b') (h3 : c = c') : Ending.returned (.tuple #[.int .i64 a, .int .i64 b, .int .i64 c]) = .returned (.tuple #[.int .i64 a', .int .i64 b', .int .i64 c']) := by rw [h, h2, h3]
theorem no_1 {n k : Int} (h : ¬ (0 ≤ k ∧ k ≤ 6)) : noE n k = 1 ∧ noY n k = 0 ∧ noN n k = 0 := by
  have e : noOk n k = false := decide_eq_false (fun x => h x.1)
  exact ⟨by rw [noE, if_neg h], by rw [noY, e]; rfl, by rw [noN, e]; rfl⟩
theorem no_23 {n k : Int} (hk : 0 ≤ k ∧ k ≤ 6) (h : ¬ ((-719528 ≤ n ∧ n ≤ 2933262) ∧ 1 ≤ Cal.yr n ∧ Cal.yr n ≤ 9999)) : noE n k = 23 ∧ noY n k = 0 ∧ noN n k = 0 := by
  have e : noOk n k = false := decide_eq_false (fun x => h x.2)
  exact ⟨by rw [noE, if_pos hk, e]; rfl, by rw [noY, e]; rfl, by rw [noN, e]; rfl⟩
theorem no_0 {n k : Int} (hk : 0 ≤ k ∧ k ≤ 6) (h : (-719528 ≤ n ∧ n ≤ 2933262) ∧ 1 ≤ Cal.yr n ∧ Cal.yr n ≤ 9999) : noE n k = 0 ∧ noY n k = Cal.yr (mid n k) ∧ noN n k = (mid n k - Cal.ny (Cal.yr (mid n k))) / 7 + 1 := by
  have e : noOk n k = true := decide_eq_true ⟨hk, h⟩
  exact ⟨by rw [noE, if_pos hk, if_pos e], by rw [noY, if_pos e], by rw [noN, if_pos e]⟩
theorem mid_in {n k : Int} (h : -719528 ≤ n ∧ n ≤ 2933262) (h1 : 1 ≤ Cal.yr n) (h2 : Cal.yr n ≤ 9999) : -719528 ≤ mid n k ∧ mid n k ≤ 2933262 := by
  obtain ⟨a, b, _, _⟩ := Cal.yr_spec h.1 h.2
  have s := since_bd k n
  have m1 := Cal.ny_mono (a := 1) (b := Cal.yr n) h1
  have m2 := Cal.ny_mono (a := Cal.yr n + 1) (b := 10000) (by omega)
  have e1 : Cal.ny 1 = -719162 := rfl
  have e2 : Cal.ny 10000 = 2932897 := rfl
  unfold mid; omega

set_option maxHeartbeats 1600000 in
theorem no_any (n k : Int) (w : World) (hA : Ahead w) :
    Calls Tryz.prog 48 #[.int .i64 n, .int .i64 k] w fun e w' => e = .returned (.tuple #[.int .i64 (noY n k), .int .i64 (noN n k), .int .i64 (noE n k)]) ∧ Below w.heap.size w w' := by
  have HA := Lib.hid hA
  clear hA
  by_cases hk : 0 ≤ k ∧ k ≤ 6
  · have hw := isW_yes hk
    by_cases hin : -719528 ≤ n ∧ n ≤ 2933262
    · have E0 := Lib.hid (dn_yes hin).1
      have D0 := Lib.hid (dd_yes hin).1
      obtain ⟨y1, y2, y3, y4⟩ := Cal.yr_spec hin.1 hin.2
      by_cases hy : 1 ≤ Cal.yr n ∧ Cal.yr n ≤ 9999
      · have H := Lib.hid (no_0 hk ⟨hin, hy⟩)
        have hm := mid_in (k := k) hin hy.1 hy.2
        have E1 := Lib.hid (dn_yes hm).1
        have Z1 := Lib.hid (dn_yes hm).2
        have D1 := Lib.hid (dd_yes hm).1
        have HM := Lib.hid (show mid n k = n - since k n + 3 from rfl)
        obtain ⟨z1, z2, z3, z4⟩ := Cal.yr_spec hm.1 hm.2
        have zb := Cal.ny_bd z3 (by omega)
        have sb := since_bd k n
        obtain ⟨k0, k6⟩ := hk
        obtain ⟨i1, i2⟩ := hin
        obtain ⟨j1, j2⟩ := hy
        clear y1 y2
        go_enter Tryz.func48, Tryz.ntmps48
        go_wp2_with (go_at_call 35; refine (isW_any _ _).mono ?_; rintro e w' ⟨rfl, rfl⟩)
        refine (date_w _ _ HA.out).mono ?_
        rintro e w1 ⟨rfl, rfl⟩
        rw [E0.out, D0.out]
        go_wp2_with fail
        refine (since_any _ _ _ k0 k6).mono ?_
        rintro e w1 ⟨rfl, rfl⟩
        go_wp2_with fail
        rw [← HM.out]
        generalize mid n k = M at *
        refine (date_w _ _ (HA.out.stays (by repeat (first | exact Below.refl _ _ | refine Below.setCell ?_ (by simp) _ | refine below_drewN ?_ _ | refine Below.drew ?_ | refine Below.alloc ?_ (by simp; try omega) _)))).mono ?_
        rintro e w1 ⟨rfl, rfl⟩
        rw [E1.out, D1.out]
        go_wp2_with fail
        refine (yearDay_any _ _).mono ?_
        rintro e w1 ⟨rfl, rfl⟩
        rw [E1.out, Z1.out]
        go_wp2
        go_ret3
        exact ⟨ret_iii H.out.2.1.symm (by rw [H.out.2.2]) H.out.1.symm, by repeat (first | exact Below.refl _ _ | refine Below.setCell ?_ (by simp) _ | refine below_drewN ?_ _ | refine Below.drew ?_ | refine Below.alloc ?_ (by simp; try omega) _)⟩
      · have H := Lib.hid (no_23 (n := n) hk (fun h => hy h.2))
        have hcase : Cal.yr n < 1 ∨ 9999 < Cal.yr n := by omega
        clear hy hk hin y1 y2
        rcases hcase with hc | hc
        all_goals
          go_enter Tryz.func48, Tryz.ntmps48
          go_wp2_with (go_at_call 35; refine (isW_any _ _).mono ?_; rintro e w' ⟨rfl, rfl⟩)
          refine (date_w _ _ HA.out).mono ?_
          rintro e w1 ⟨rfl, rfl⟩
          rw [E0.out, D0.out]
          go_wp2
          go_ret3
          exact ⟨ret_iii H.out.2.1.symm H.out.2.2.symm H.out.1.symm, by repeat (first | exact Below.refl _ _ | refine Below.setCell ?_ (by simp) _ | refine below_drewN ?_ _ | refine Below.drew ?_ | refine Below.alloc ?_ (by simp; try omega) _)⟩
    · have H := Lib.hid (no_23 (n := n) hk (fun h => hin h.1))
      have E0 := Lib.hid (dn_no hin).1
      clear hk hin
      go_enter Tryz.func48, Tryz.ntmps48
      go_wp2_with (go_at_call 35; refine (isW_any _ _).mono ?_; rintro e w' ⟨rfl, rfl⟩)
      refine (date_w _ _ HA.out).mono ?_
      rintro e w1 ⟨rfl, rfl⟩
      rw [E0.out]
      go_wp2
      go_ret3
      exact ⟨ret_iii H.out.2.1.symm H.out.2.2.symm H.out.1.symm, by repeat (first | exact Below.refl _ _ | refine Below.setCell ?_ (by simp) _ | refine below_drewN ?_ _ | refine Below.drew ?_ | refine Below.alloc ?_ (by simp; try omega) _)⟩
  · have hw := isW_no hk
    have H := Lib.hid (no_1 (n := n) hk)
    clear hk
    go_enter Tryz.func48, Tryz.ntmps48
    go_wp2_with (go_at_call 35; refine (isW_any _ _).mono ?_; rintro e w' ⟨rfl, rfl⟩)
    go_ret3
    exact ⟨ret_iii H.out.2.1.symm H.out.2.2.symm H.out.1.symm, Below.refl _ _⟩
end Wk
end Go.Proofs.YtpbbnkgfheafpaaGreatDoor
/-
  Contracts of the reference's calls on weekdays: On, nth, Nth.
-/
namespace Go.Proofs.YtpbbnkgfheafpaaGreatDoor
open Go.RowKit
namespace Wk
open Civ
def inb (lo hi n : Int) : Bool := decide (lo ≤ n ∧ n ≤ hi)
theorem inb_yes {lo hi n : Int} (h : lo ≤ n ∧ n ≤ hi) : inb lo hi n = true := decide_eq_true h
theorem inb_no {lo hi n : Int} (h : ¬ (lo ≤ n ∧ n ≤ hi)) : inb lo hi n = false := decide_eq_false h
theorem inb_cases (lo hi n : Int) : (inb lo hi n = true ∧ lo ≤ n ∧ n ≤ hi) ∨ (inb lo hi n = false ∧ ¬ (lo ≤ n ∧ n ≤ hi)) := by
  by_cases h : lo ≤ n ∧ n ≤ hi
  · exact Or.inl ⟨inb_yes h, h⟩
  · exact Or.inr ⟨inb_no h, h⟩

end Wk
end Go.Proofs.YtpbbnkgfheafpaaGreatDoor
