/-
  Package escape, plain words: what is put is got; what is got may be put.
-/
import Derived.Test.YtbfknaccffiafaaEscB
namespace Go.Proofs.Ytbfknaccffiafaa
open Go.RowKit
namespace Esc
theorem mputL_cons (c : UInt8) (S : List UInt8) : putL (c :: S) = putC c ++ putL S := by unfold putL; rw [List.flatMap_cons]
theorem get_esc {d m : UInt8} (S : List UInt8) (h : mnt d = some m) : getS (92 :: d :: S) = (getS S).map (fun r => m :: r) := by
  rw [get_cons, if_neg (by decide), if_pos rfl]
  simp only [h]
theorem get_put : ∀ S : List UInt8, putB S = true → getS (putL S) = some S
  | [], _ => rfl
  | c :: S, h => by
    rw [putB, List.all_cons, Bool.and_eq_true] at h
    have ih := get_put S h.2
    have ho := h.1
    rw [mputL_cons]
    by_cases x1 : c = 10
    · subst x1
      rw [show putC 10 = [92, 110] from rfl, List.cons_append, List.cons_append, List.nil_append, get_esc _ (show mnt 110 = some 10 from rfl), ih]
      rfl
    · by_cases x2 : c = 92 ∨ c = 59 ∨ c = 44
      · rw [putC, if_neg x1, if_pos x2, List.cons_append, List.cons_append, List.nil_append, get_esc _ (show mnt c = some c from by rw [mnt, if_pos x2]), ih]
        rfl
      · have hc : ctl c = false := by
          rw [okP, decide_eq_false x1, Bool.false_or] at ho
          simpa using ho
        rw [putC, if_neg x1, if_neg x2, List.cons_append, List.nil_append, get_cons, if_neg (fun h => h.elim (fun h => by rw [hc] at h; cases h) (fun h => x2 (Or.inr h))), if_neg (fun h => x2 (Or.inl h)), ih]
        rfl
theorem mnt_ok {d m : UInt8} (h : mnt d = some m) : okP m = true := by
  unfold mnt at h
  split at h
  · rename_i x
    injection h with e
    subst e
    rcases x with rfl | rfl | rfl <;> decide
  · split at h
    · injection h with e; subst e; decide
    · cases h
theorem got_ok : ∀ (n : Nat) (S r : List UInt8), S.length ≤ n → getS S = some r → putB r = true
  | 0, S, r, hn, h => by
    have : S = [] := List.length_eq_zero_iff.1 (by omega)
    subst this
    rw [get_nil] at h
    injection h with e; subst e; rfl
  | n + 1, [], r, _, h => by
    rw [get_nil] at h
    injection h with e; subst e; rfl
  | n + 1, c :: S, r, hn, h => by
    rw [List.length_cons] at hn
    rw [get_cons] at h
    by_cases x0 : ctl c = true ∨ c = 59 ∨ c = 44
    · rw [if_pos x0] at h; cases h
    · rw [if_neg x0] at h
      by_cases x1 : c = 92
      · rw [if_pos x1] at h
        match S, hn, h with
        | [], _, h => cases h
        | d :: S', hn, h =>
          simp only at h
          cases hm : mnt d with
          | none => rw [hm] at h; cases h
          | some m =>
            rw [hm] at h
            simp only at h
            cases hg : getS S' with
            | none => rw [hg] at h; cases h
            | some q =>
              rw [hg] at h
              injection h with e
              subst e
              rw [List.length_cons] at hn
              rw [putB, List.all_cons, mnt_ok hm, Bool.true_and]
              exact got_ok n S' q (by omega) hg
      · rw [if_neg x1] at h
        cases hg : getS S with
        | none => rw [hg] at h; cases h
        | some q =>
          rw [hg] at h
          injection h with e
          subst e
          have hc : okP c = true := by
            rw [okP]
            cases e : ctl c with
            | true => exact absurd (Or.inl e) x0
            | false => simp
          rw [putB, List.all_cons, hc, Bool.true_and]
          exact got_ok n S q (by omega) hg
end Esc
end Go.Proofs.Ytbfknaccffiafaa
