/-
  Contracts of package week: isWeekday, since, until, Check, Resolve.
-/
import Derived.Test.YtpcnpacllkiieaaGreatDoorCiv3
namespace Go.Proofs.YtpcnpacllkiieaaGreatDoor
open Go.RowKit
namespace Wk
open Civ
def isW (w : Int) : Bool := decide (0 ≤ w ∧ w ≤ 6)
def since (w n : Int) : Int := (Cal.wday n - w + 7) % 7
def untl (n w : Int) : Int := (w - Cal.wday n + 7) % 7
def onOk (k w d : Int) : Bool := decide ((k = 1 ∧ (1 ≤ d ∧ d ≤ 31) ∧ w = 0) ∨ (k = 2 ∧ (0 ≤ w ∧ w ≤ 6) ∧ d = 0) ∨ ((k = 3 ∨ k = 4) ∧ (0 ≤ w ∧ w ≤ 6) ∧ (1 ≤ d ∧ d ≤ 31)))
def chE (k w d : Int) : Int := if onOk k w d then 0 else 8
theorem wday_bd (n : Int) : 0 ≤ Cal.wday n ∧ Cal.wday n ≤ 6 := by unfold Cal.wday; omega
theorem since_bd (w n : Int) : 0 ≤ since w n ∧ since w n ≤ 6 := by unfold since; omega
theorem untl_bd (n w : Int) : 0 ≤ untl n w ∧ untl n w ≤ 6 := by unfold untl; omega

theorem isW_any (n : Int) (w : World) :
    Calls Tryz.prog 103 #[.int .i64 n] w fun e w' => e = .returned (.bool (isW n)) ∧ w = w' := by
  by_cases h1 : 0 ≤ n
  · by_cases h2 : n ≤ 6
    · have H := Lib.hid (decide_eq_true (show 0 ≤ n ∧ n ≤ 6 from ⟨h1, h2⟩))
      go_enter Tryz.func103, Tryz.ntmps103
      go_wp2
      go_ret
      exact ⟨ret_b H.out.symm, rfl⟩
    · have H := Lib.hid (decide_eq_false (show ¬ (0 ≤ n ∧ n ≤ 6) from fun h => h2 h.2))
      go_enter Tryz.func103, Tryz.ntmps103
      go_wp2
      go_ret
      exact ⟨ret_b H.out.symm, rfl⟩
  · have H := Lib.hid (decide_eq_false (show ¬ (0 ≤ n ∧ n ≤ 6) from fun h => h1 h.1))
    go_enter Tryz.func103, Tryz.ntmps103
    go_wp2
    go_ret
    exact ⟨ret_b H.out.symm, rfl⟩
theorem isW_yes {n : Int} (h : 0 ≤ n ∧ n ≤ 6) : isW n = true := decide_eq_true h
theorem isW_no {n : Int} (h : ¬ (0 ≤ n ∧ n ≤ 6)) : isW n = false := decide_eq_false h

theorem since_any (k n : Int) (w : World) (h0 : 0 ≤ k) (h1 : k ≤ 6) :
    Calls Tryz.prog 161 #[.int .i64 k, .int .i64 n] w fun e w' => e = .returned (.int .i64 (since k n)) ∧ w = w' := by
  have b := wday_bd n
  go_enter Tryz.func161, Tryz.ntmps161
  go_wp2_with (go_at_call 177; refine (weekday_any _ _).mono ?_; rintro e w' ⟨rfl, rfl⟩)
  go_ret
  exact ⟨rfl, rfl⟩
theorem until_any (n k : Int) (w : World) (h0 : 0 ≤ k) (h1 : k ≤ 6) :
    Calls Tryz.prog 162 #[.int .i64 n, .int .i64 k] w fun e w' => e = .returned (.int .i64 (untl n k)) ∧ w = w' := by
  have b := wday_bd n
  go_enter Tryz.func162, Tryz.ntmps162
  go_wp2_with (go_at_call 177; refine (weekday_any _ _).mono ?_; rintro e w' ⟨rfl, rfl⟩)
  go_ret
  exact ⟨rfl, rfl⟩
theorem onOk_mk {k w d : Int} (h : (k = 1 ∧ (1 ≤ d ∧ d ≤ 31) ∧ w = 0) ∨ (k = 2 ∧ (0 ≤ w ∧ w ≤ 6) ∧ d = 0) ∨ ((k = 3 ∨ k = 4) ∧ (0 ≤ w ∧ w ≤ 6) ∧ (1 ≤ d ∧ d ≤ 31))) : onOk k w d = true := decide_eq_true h
theorem onOk_no {k w d : Int} (h : ¬ ((k = 1 ∧ (1 ≤ d ∧ d ≤ 31) ∧ w = 0) ∨ (k = 2 ∧ (0 ≤ w ∧ w ≤ 6) ∧ d = 0) ∨ ((k = 3 ∨ k = 4) ∧ (0 ≤ w ∧ w ≤ 6) ∧ (1 ≤ d ∧ d ≤ 31)))) : onOk k w d = false := decide_eq_false h
theorem chE_yes {k w d : Int} (h : onOk k w d = true) : chE k w d = 0 := by rw [chE, h]; rfl
theorem chE_no {k w d : Int} (h : onOk k w d = false) : chE k w d = 8 := by rw [chE, h]; rfl

set_option maxHeartbeats 1600000 in
theorem check_any (k v d : Int) (w : World) :
    Calls Tryz.prog 65 #[.agg #[.int .i64 k, .int .i64 v, .int .i64 d]] w fun e w' => e = .returned (.int .i64 (chE k v d)) ∧ w.alloc (Obj.cells #[.int .i64 k, .int .i64 v, .int .i64 d] 23) = w' := by
  have hk : k = 1 ∨ k = 2 ∨ k = 3 ∨ k = 4 ∨ ¬ (k = 1 ∨ k = 2 ∨ k = 3 ∨ k = 4) := by omega
  have hv : v = 0 ∨ (v ≠ 0 ∧ isW v = true ∧ 0 ≤ v ∧ v ≤ 6) ∨ (v ≠ 0 ∧ isW v = false ∧ ¬ (0 ≤ v ∧ v ≤ 6)) := by
    by_cases c : 0 ≤ v ∧ v ≤ 6
    · by_cases c0 : v = 0
      · exact Or.inl c0
      · exact Or.inr (Or.inl ⟨c0, isW_yes c, c⟩)
    · exact Or.inr (Or.inr ⟨by omega, isW_no c, c⟩)
  have hz : isW 0 = true := rfl
  have hd : d = 0 ∨ (d ≠ 0 ∧ 1 ≤ d ∧ d ≤ 31) ∨ (d ≠ 0 ∧ d < 1) ∨ (d ≠ 0 ∧ 31 < d) := by omega
  rcases hk with rfl | rfl | rfl | rfl | hk
  all_goals rcases hv with rfl | ⟨v0, hw, v1, v2⟩ | ⟨v0, hw, v1⟩
  all_goals rcases hd with rfl | ⟨d0, d1, d2⟩ | ⟨d0, d1⟩ | ⟨d0, d1⟩
  all_goals try have b1 : (v == 0) = false := beq_eq_false_iff_ne.2 v0
  all_goals try have b2 : (d == 0) = false := beq_eq_false_iff_ne.2 d0
  all_goals try have c1 : (k == 1) = false := beq_eq_false_iff_ne.2 (by omega)
  all_goals try have c2 : (k == 2) = false := beq_eq_false_iff_ne.2 (by omega)
  all_goals try have c3 : (k == 3) = false := beq_eq_false_iff_ne.2 (by omega)
  all_goals try have c4 : (k == 4) = false := beq_eq_false_iff_ne.2 (by omega)
  all_goals
    go_enter Tryz.func65, Tryz.ntmps65
    go_wp2_with (go_at_call 103; refine (isW_any _ _).mono ?_; rintro e w' ⟨rfl, rfl⟩)
    all_goals go_ret
    all_goals exact ⟨ret_i (by first | (refine (chE_yes (onOk_mk ?_)).symm; omega) | (refine (chE_no (onOk_no ?_)).symm; omega) | (exfalso; omega) | (exfalso; simp_all; done) | (exfalso; simp_all; omega)), rfl⟩

def rday (y m k d : Int) : Int := if k = 2 then Cal.mlen y m else d
def resE (y m k v d : Int) : Int := if onOk k v d then (if 1 ≤ y ∧ y ≤ 9999 then numE y m (rday y m k d) else 23) else 8
def resV (y m k v d : Int) : Int := if resE y m k v d = 0 then (if k = 2 ∨ k = 4 then Cal.num y m (rday y m k d) - since v (Cal.num y m (rday y m k d)) else if k = 3 then Cal.num y m (rday y m k d) + untl (Cal.num y m (rday y m k d)) v else Cal.num y m (rday y m k d)) else 0
theorem res_8 {y m k v d : Int} (h : onOk k v d = false) : resE y m k v d = 8 ∧ resV y m k v d = 0 := by
  have e : resE y m k v d = 8 := by rw [resE, h]; rfl
  exact ⟨e, by rw [resV, e]; rfl⟩
theorem res_23 {y m k v d : Int} (h : onOk k v d = true) (hy : ¬ (1 ≤ y ∧ y ≤ 9999)) : resE y m k v d = 23 ∧ resV y m k v d = 0 := by
  have e : resE y m k v d = 23 := by rw [resE, if_pos h, if_neg hy]
  exact ⟨e, by rw [resV, e]; rfl⟩
theorem res_4 {y m k v d : Int} (h : onOk k v d = true) (hy : 1 ≤ y ∧ y ≤ 9999) (hn : numE y m (rday y m k d) = 4) : resE y m k v d = 4 ∧ resV y m k v d = 0 := by
  have e : resE y m k v d = 4 := by rw [resE, if_pos h, if_pos hy, hn]
  exact ⟨e, by rw [resV, e]; rfl⟩
theorem res_0 {y m k v d : Int} (h : onOk k v d = true) (hy : 1 ≤ y ∧ y ≤ 9999) (hn : numE y m (rday y m k d) = 0) : resE y m k v d = 0 ∧ resV y m k v d = (if k = 2 ∨ k = 4 then Cal.num y m (rday y m k d) - since v (Cal.num y m (rday y m k d)) else if k = 3 then Cal.num y m (rday y m k d) + untl (Cal.num y m (rday y m k d)) v else Cal.num y m (rday y m k d)) := by
  have e : resE y m k v d = 0 := by rw [resE, if_pos h, if_pos hy, hn]
  exact ⟨e, by rw [resV, if_pos e]⟩
theorem onOk_v {k v d : Int} (h : onOk k v d = true) : (0 ≤ v ∧ v ≤ 6) ∧ (1 ≤ k ∧ k ≤ 4) ∧ (0 ≤ d ∧ d ≤ 31) := by
  have := of_decide_eq_true h
  omega
theorem numE_04 (y m d : Int) : numE y m d = 0 ∨ numE y m d = 4 := by
  unfold numE; split
  · exact Or.inl rfl
  · exact Or.inr rfl
theorem numE_0 {y m d : Int} (h : numE y m d = 0) : numV y m d = Cal.num y m d ∧ -719528 ≤ Cal.num y m d ∧ Cal.num y m d ≤ 2933262 := by
  have hv : 0 ≤ y ∧ y ≤ 10000 ∧ 1 ≤ d ∧ d ≤ Cal.mlen y m := by
    by_cases hv : 0 ≤ y ∧ y ≤ 10000 ∧ 1 ≤ d ∧ d ≤ Cal.mlen y m
    · exact hv
    · have := (numE_no (y := y) (m := m) (d := d) hv).1; omega
  obtain ⟨m1, m2⟩ := Cal.mlen_pos (y := y) (m := m) (by omega)
  obtain ⟨_, b, _, _, e, f⟩ := num_bd hv.1 hv.2.1 m1 m2 hv.2.2.1 hv.2.2.2
  exact ⟨b, e, f⟩
end Wk
end Go.Proofs.YtpcnpacllkiieaaGreatDoor
