/-
  Contracts of package week: isWeekday, since, until, Check, Resolve.
-/
import Derived.Test.YtnjmpenfhieakaaDoorCiv3
namespace Go.Proofs.YtnjmpenfhieakaaDoor
open Go.RowKit
namespace Wk
open Civ
def isW (w : Int) : Bool := decide (0 ≤ w ∧ w ≤ 6)
def since (w n : Int) : Int := (Cal.wday n - w + 7) % 7
def untl (n w : Int) : Int := (w - Cal.wday n + 7) % 7
def onOk (k w d : Int) : Bool := decide ((k = 1 ∧ (1 ≤ d ∧ d ≤ 31) ∧ w = 0) ∨ (k = 2 ∧ (0 ≤ w ∧ w ≤ 6) ∧ d = 0) ∨ ((k = 3 ∨ k = 4) ∧ (0 ≤ w ∧ w ≤ 6) ∧ (1 ≤ d ∧ d ≤ 31)))
def chE (k w d : Int) : Int := if onOk k w d then 0 else 8
theorem wday_bd (n : Int) : 0 ≤ Cal.wday n ∧ Cal.wday n ≤ 6 := by unfold Cal.wday; omega
theorem since_bd (w n : Int) : 0 ≤ since w n ∧ since w n ≤ 6 := by unfold since; omega
theorem untl_bd (n w : Int) : 0 ≤ untl n w ∧ untl n w ≤ 6 := by unfold untl; omega

theorem isW_yes {n : Int} (h : 0 ≤ n ∧ n ≤ 6) : isW n = true := decide_eq_true h
theorem isW_no {n : Int} (h : ¬ (0 ≤ n ∧ n ≤ 6)) : isW n = false := decide_eq_false h

theorem onOk_mk {k w d : Int} (h : (k = 1 ∧ (1 ≤ d ∧ d ≤ 31) ∧ w = 0) ∨ (k = 2 ∧ (0 ≤ w ∧ w ≤ 6) ∧ d = 0) ∨ ((k = 3 ∨ k = 4) ∧ (0 ≤ w ∧ w ≤ 6) ∧ (1 ≤ d ∧ d ≤ 31))) : onOk k w d = true := decide_eq_true h
theorem onOk_no {k w d : Int} (h : ¬ ((k = 1 ∧ (1 ≤ d ∧ d ≤ 31) ∧ w = 0) ∨ (k = 2 ∧ (0 ≤ w ∧ w ≤ 6) ∧ d = 0) ∨ ((k = 3 ∨ k = 4) ∧ (0 ≤ w ∧ w ≤ 6) ∧ (1 ≤ d ∧ d ≤ 31)))) : onOk k w d = false := decide_eq_false h
theorem chE_yes {k w d : Int} (h : onOk k w d = true) : chE k w d = 0 := by rw [chE, h]; rfl
theorem chE_no {k w d : Int} (h : onOk k w d = false) : chE k w d = 8 := by rw [chE, h]; rfl

def rday (y m k d : Int) : Int := if k = 2 then Cal.mlen y m else d
def resE (y m k v d : Int) : Int := if onOk k v d then (if 1 ≤ y ∧ y ≤ 9999 then numE y m (rday y m k d) else 23) else 8
def resV (y m k v d : Int) : Int := if resE y m k v d = 0 then (if k = 2 ∨ k = 4 then Cal.num y m (rday y m k d) - since v (Cal.num y m (rday y m k d)) else if k = 3 then Cal.num y m (rday y m k d) + untl (Cal.num y m (rday y m k d)) v else Cal.num y m (rday y m k d)) else 0
theorem res_8 {y m k v d : Int} (h : onOk k v d = false) : resE y m k v d = 8 ∧ resV y m k v d = 0 := by
  have e : resE y m k v d = 8 := by rw [resE, h]; rfl
  exact ⟨e, by rw [resV, e]; rfl⟩
theorem res_23 {y m k v d : Int} (h : onOk k v d = true) (hy : ¬ (1 ≤ y ∧ y ≤ 9999)) : resE y m k v d = 23 ∧ resV y m k v d = 0 := by
  have e : resE y m k v d = 23 := by rw [resE, if_pos h, if_neg hy]
  exact ⟨e, by rw [resV, e]; rfl⟩
theorem res_4 {y m k v d : Int} (h : onOk k v d = true) (hy : 1 ≤ y ∧ y ≤ 9999) (hn : numE y m (rday y m k d) = 4) : resE y m k v d = 4 ∧ resV y m k v d = 0 := by
  have e : resE y m k v d = 4 := by rw [resE, if_pos h, if_pos hy, hn]
  exact ⟨e, by rw [resV, e]; rfl⟩
theorem res_0 {y m k v d : Int} (h : onOk k v d = true) (hy : 1 ≤ y ∧ y ≤ 9999) (hn : numE y m (rday y m k d) = 0) : resE y m k v d = 0 ∧ resV y m k v d = (if k = 2 ∨ k = 4 then Cal.num y m (rday y m k d) - since v (Cal.num y m (rday y m k d)) else if k = 3 then Cal.num y m (rday y m k d) + untl (Cal.num y m (rday y m k d)) v else Cal.num y m (rday y m k d)) := by
  have e : resE y m k v d = 0 := by rw [resE, if_pos h, if_pos hy, hn]
  exact ⟨e, by rw [resV, if_pos e]⟩
theorem onOk_v {k v d : Int} (h : onOk k v d = true) : (0 ≤ v ∧ v ≤ 6) ∧ (1 ≤ k ∧ k ≤ 4) ∧ (0 ≤ d ∧ d ≤ 31) := by
  have := of_decide_eq_true h
  omega
theorem numE_04 (y m d : Int) : numE y m d = 0 ∨ numE y m d = 4 := by
  unfold numE; split
  · exact Or.inl rfl
  · exact Or.inr rfl
theorem numE_0 {y m d : Int} (h : numE y m d = 0) : numV y m d = Cal.num y m d ∧ -719528 ≤ Cal.num y m d ∧ Cal.num y m d ≤ 2933262 := by
  have hv : 0 ≤ y ∧ y ≤ 10000 ∧ 1 ≤ d ∧ d ≤ Cal.mlen y m := by
    by_cases hv : 0 ≤ y ∧ y ≤ 10000 ∧ 1 ≤ d ∧ d ≤ Cal.mlen y m
    · exact hv
    · have := (numE_no (y := y) (m := m) (d := d) hv).1; omega
  obtain ⟨m1, m2⟩ := Cal.mlen_pos (y := y) (m := m) (by omega)
  obtain ⟨_, b, _, _, e, f⟩ := num_bd hv.1 hv.2.1 m1 m2 hv.2.2.1 hv.2.2.2
  exact ⟨b, e, f⟩
end Wk
end Go.Proofs.YtnjmpenfhieakaaDoor
