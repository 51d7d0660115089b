/-
  Package onset, plain words: two rows of onsets merged.
-/
import Derived.Test.YthefgagmjamdkaaDoorOnsA
namespace Go.Proofs.YthefgagmjamdkaaDoor
open Go.RowKit
namespace Ons
open Rul
/-- Two lists merged by when: of the same ones the first list's first. -/
def mrg : List OV → List OV → List OV
  | [], B => B
  | a :: A, [] => a :: A
  | a :: A, b :: B => if a.2.2 ≤ b.2.2 then a :: mrg A (b :: B) else b :: mrg (a :: A) B
termination_by A B => A.length + B.length
theorem mrg_l (B : List OV) : mrg [] B = B := by rw [mrg]
theorem mrg_r (A : List OV) : mrg A [] = A := by cases A <;> rw [mrg]
theorem mrg_le {a b : OV} (A B : List OV) (h : a.2.2 ≤ b.2.2) : mrg (a :: A) (b :: B) = a :: mrg A (b :: B) := by rw [mrg, if_pos h]
theorem mrg_gt {a b : OV} (A B : List OV) (h : ¬ a.2.2 ≤ b.2.2) : mrg (a :: A) (b :: B) = b :: mrg (a :: A) B := by rw [mrg, if_neg h]
theorem ole_of {a b : OV} (h : a.2.2 < b.2.2 ∨ (a.2.2 ≤ b.2.2 ∧ cLt a b)) : oleB a b = true := by
  unfold cLt at h
  simp only [oleB, Bool.not_eq_true', oltB_f]
  omega
theorem ole_l {a b : OV} (h : oleB a b = true) : a.2.2 ≤ b.2.2 := by
  simp only [oleB, Bool.not_eq_true', oltB_f] at h
  omega
theorem mrg_perm : ∀ (n : Nat) (A B : List OV), A.length + B.length ≤ n → (mrg A B).Perm (A ++ B)
  | _, [], B, _ => by rw [mrg_l]; exact List.Perm.refl _
  | _, a :: A, [], _ => by rw [mrg_r, List.append_nil]
  | 0, a :: A, b :: B, h => by simp at h
  | n + 1, a :: A, b :: B, h => by
    by_cases c : a.2.2 ≤ b.2.2
    · rw [mrg_le A B c, List.cons_append]
      exact List.Perm.cons _ (mrg_perm n A (b :: B) (by simp at h ⊢; omega))
    · rw [mrg_gt A B c]
      exact (List.Perm.cons _ (mrg_perm n (a :: A) B (by simp at h ⊢; omega))).trans List.perm_middle.symm
theorem mrg_pair : ∀ (n : Nat) (A B : List OV), A.length + B.length ≤ n → A.Pairwise (fun a b => oleB a b = true) → B.Pairwise (fun a b => oleB a b = true) → (∀ a ∈ A, ∀ b ∈ B, cLt a b) → (mrg A B).Pairwise (fun a b => oleB a b = true)
  | _, [], B, _, _, hB, _ => by rw [mrg_l]; exact hB
  | _, a :: A, [], _, hA, _, _ => by rw [mrg_r]; exact hA
  | 0, a :: A, b :: B, h, _, _, _ => by simp at h
  | n + 1, a :: A, b :: B, h, hA, hB, hc => by
    have hA' := List.pairwise_cons.1 hA
    have hB' := List.pairwise_cons.1 hB
    by_cases c : a.2.2 ≤ b.2.2
    · rw [mrg_le A B c, List.pairwise_cons]
      refine ⟨fun x hx => ?_, mrg_pair n A (b :: B) (by simp at h ⊢; omega) hA'.2 hB (fun x hx y hy => hc x (List.mem_cons_of_mem _ hx) y hy)⟩
      have hx := (mrg_perm _ A (b :: B) (Nat.le_refl _)).subset hx
      rcases List.mem_append.1 hx with hx | hx
      · exact hA'.1 x hx
      · refine ole_of (Or.inr ⟨?_, hc a (by simp) x hx⟩)
        rcases List.mem_cons.1 hx with rfl | hx
        · exact c
        · exact Int.le_trans c (ole_l (hB'.1 x hx))
    · rw [mrg_gt A B c, List.pairwise_cons]
      refine ⟨fun x hx => ?_, mrg_pair n (a :: A) B (by simp at h ⊢; omega) hA hB'.2 (fun x hx y hy => hc x hx y (List.mem_cons_of_mem _ hy))⟩
      have hx := (mrg_perm _ (a :: A) B (Nat.le_refl _)).subset hx
      rcases List.mem_append.1 hx with hx | hx
      · refine ole_of (Or.inl ?_)
        rcases List.mem_cons.1 hx with rfl | hx
        · omega
        · have := ole_l (hA'.1 x hx); omega
      · exact hB'.1 x hx
theorem mrg_sort {T D : List OV} (h : (T ++ D).Pairwise cLt) : mrg (sortO T) (sortO D) = sortO (T ++ D) := by
  refine pair_perm_eq _ _ ?_ ?_ (sortO_pair _)
  · exact (mrg_perm _ _ _ (Nat.le_refl _)).trans (((sortO_perm T).append (sortO_perm D)).trans (sortO_perm _).symm)
  · refine mrg_pair _ _ _ (Nat.le_refl _) (sortO_pair _) (sortO_pair _) (fun a ha b hb => ?_)
    exact (List.pairwise_append.1 h).2.2 a (sortO_mem.1 ha) b (sortO_mem.1 hb)
theorem mrg_a {A B : List OV} {i k : Nat} (hi : i < A.length) (h : k = B.length ∨ ∃ hk : k < B.length, A[i].2.2 ≤ B[k].2.2) : mrg (A.drop i) (B.drop k) = A[i] :: mrg (A.drop (i + 1)) (B.drop k) := by
  rw [List.drop_eq_getElem_cons hi]
  rcases h with rfl | ⟨hk, hl⟩
  · rw [List.drop_length, mrg_r, mrg_r]
  · rw [List.drop_eq_getElem_cons hk, mrg_le _ _ hl]
theorem mrg_b {A B : List OV} {i k : Nat} (hk : k < B.length) (h : A.length ≤ i ∨ ∃ hi : i < A.length, ¬ A[i].2.2 ≤ B[k].2.2) : mrg (A.drop i) (B.drop k) = B[k] :: mrg (A.drop i) (B.drop (k + 1)) := by
  rw [List.drop_eq_getElem_cons hk]
  rcases h with h | ⟨hi, hl⟩
  · rw [List.drop_of_length_le h, mrg_l, mrg_l]
  · rw [List.drop_eq_getElem_cons hi, mrg_gt _ _ hl]
end Ons
end Go.Proofs.YthefgagmjamdkaaDoor
