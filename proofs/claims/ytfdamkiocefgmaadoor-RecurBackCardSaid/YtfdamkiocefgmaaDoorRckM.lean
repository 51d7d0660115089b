/-
  Plain words on recurrence rules: which lists are right, what goes together.
-/
import Derived.Test.YtfdamkiocefgmaaDoorRcvA
namespace Go.Proofs.YtfdamkiocefgmaaDoor
namespace Rck
open Rcv (CV)
/-- Numbers of a span alone, none twice. -/
def frB (a b : Int) (L : List Int) : Bool := decide ((∀ n ∈ L, a ≤ n ∧ n ≤ b) ∧ L.Nodup)
theorem frB_iff {a b : Int} {L : List Int} : frB a b L = true ↔ (∀ n ∈ L, a ≤ n ∧ n ≤ b) ∧ L.Nodup := by simp [frB]
theorem frB_nil (a b : Int) : frB a b [] = true := by simp [frB]
theorem fr_bad {a b : Int} {L : List Int} {j : Nat} (hj : j < L.length) (h : L[j] < a ∨ b < L[j] ∨ L[j] ∈ L.take j) : frB a b L = false := by
  rw [← Bool.not_eq_true, frB_iff]
  rintro ⟨h1, h2⟩
  have h3 := h1 L[j] (List.getElem_mem hj)
  rcases h with h | h | h
  · omega
  · omega
  · have e := List.take_append_drop j L
    have hd : L[j] ∈ L.drop j := by rw [List.drop_eq_getElem_cons hj]; exact List.mem_cons_self
    rw [← e] at h2
    exact (List.nodup_append.1 h2).2.2 _ h _ hd rfl
theorem fr_next {a b : Int} {L : List Int} {j : Nat} (hj : j < L.length) (h : frB a b (L.take j) = true) (h1 : a ≤ L[j]) (h2 : L[j] ≤ b) (h3 : L[j] ∉ L.take j) : frB a b (L.take (j + 1)) = true := by
  rw [frB_iff] at h ⊢
  rw [List.take_succ_eq_append_getElem hj]
  refine ⟨fun n hn => ?_, ?_⟩
  · rcases List.mem_append.1 hn with q | q
    · exact h.1 n q
    · rw [List.mem_singleton.1 q]; omega
  · refine List.nodup_append.2 ⟨h.2, by simp, fun x hx y hy => ?_⟩
    rw [List.mem_singleton.1 hy]
    rintro rfl
    exact h3 hx
/-- Numbers but nought, either way, none twice. -/
def eiB (m : Int) (L : List Int) : Bool := decide (∀ n ∈ L, n ≠ 0) && frB (-m) m L
theorem ei_nought {m : Int} {L : List Int} {j : Nat} (hj : j < L.length) (h : L[j] = 0) : eiB m L = false := by
  rw [eiB, decide_eq_false, Bool.false_and]
  exact fun q => q _ (List.getElem_mem hj) h
theorem ei_all {m : Int} {L : List Int} (h : ∀ n ∈ L.take L.length, n ≠ 0) : eiB m L = frB (-m) m L := by
  rw [List.take_length] at h
  rw [eiB, decide_eq_true h, Bool.true_and]
/-- Weekdays that are right, none twice. -/
def dyB (L : List (Int × Int)) : Bool := decide ((∀ d ∈ L, 0 ≤ d.2 ∧ d.2 ≤ 6 ∧ -53 ≤ d.1 ∧ d.1 ≤ 53) ∧ L.Nodup)
theorem dyB_iff {L : List (Int × Int)} : dyB L = true ↔ (∀ d ∈ L, 0 ≤ d.2 ∧ d.2 ≤ 6 ∧ -53 ≤ d.1 ∧ d.1 ≤ 53) ∧ L.Nodup := by simp [dyB]
theorem dyB_nil : dyB [] = true := by simp [dyB]
theorem dy_bad {L : List (Int × Int)} {j : Nat} (hj : j < L.length) (h : L[j].2 < 0 ∨ 6 < L[j].2 ∨ L[j].1 < -53 ∨ 53 < L[j].1 ∨ L[j] ∈ L.take j) : dyB L = false := by
  rw [← Bool.not_eq_true, dyB_iff]
  rintro ⟨h1, h2⟩
  have h3 := h1 L[j] (List.getElem_mem hj)
  rcases h with h | h | h | h | h
  · omega
  · omega
  · omega
  · omega
  · have e := List.take_append_drop j L
    have hd : L[j] ∈ L.drop j := by rw [List.drop_eq_getElem_cons hj]; exact List.mem_cons_self
    rw [← e] at h2
    exact (List.nodup_append.1 h2).2.2 _ h _ hd rfl
theorem dy_next {L : List (Int × Int)} {j : Nat} (hj : j < L.length) (h : dyB (L.take j) = true) (h1 : 0 ≤ L[j].2 ∧ L[j].2 ≤ 6 ∧ -53 ≤ L[j].1 ∧ L[j].1 ≤ 53) (h3 : L[j] ∉ L.take j) : dyB (L.take (j + 1)) = true := by
  rw [dyB_iff] at h ⊢
  rw [List.take_succ_eq_append_getElem hj]
  refine ⟨fun n hn => ?_, ?_⟩
  · rcases List.mem_append.1 hn with q | q
    · exact h.1 n q
    · rw [List.mem_singleton.1 q]; exact h1
  · refine List.nodup_append.2 ⟨h.2, by simp, fun x hx y hy => ?_⟩
    rw [List.mem_singleton.1 hy]
    rintro rfl
    exact h3 hx
/-- The lists of all numbers. -/
def lsB (x : CV) : Bool := frB 0 59 x.sc && frB 0 59 x.mi && frB 0 23 x.hr && frB 1 12 x.mo && eiB 31 x.md && eiB 366 x.yd && eiB 53 x.wn && eiB 366 x.sp
/-- A weekday's number goes with the frequency, and no week's number. -/
def nmB (x : CV) (d : Int × Int) : Bool := decide (d.1 = 0) || (decide (x.fq = 6 ∨ x.fq = 7) && decide (x.wn = []))
def gtB (x : CV) : Bool := x.dy.all (nmB x) && (decide (x.md = []) || decide (x.fq ≠ 5)) && (decide (x.yd = []) || decide (¬ (x.fq = 4 ∨ x.fq = 5 ∨ x.fq = 6))) && (decide (x.wn = []) || decide (x.fq = 7)) && (decide (x.sp = []) || decide (¬ (x.sc = [] ∧ x.mi = [] ∧ x.hr = [] ∧ x.dy = [] ∧ x.md = [] ∧ x.yd = [] ∧ x.wn = [] ∧ x.mo = [])))
end Rck
end Go.Proofs.YtfdamkiocefgmaaDoor
