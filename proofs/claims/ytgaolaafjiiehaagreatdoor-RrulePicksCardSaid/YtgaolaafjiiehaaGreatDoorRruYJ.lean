/-
  Package rrule, plain words: a rule with other places; the places that are asked for, one after another.
-/
import Derived.Test.YtgaolaafjiiehaaGreatDoorRruYG
import Derived.Test.YtgaolaafjiiehaaGreatDoorRruYW
import Derived.Test.YtgaolaafjiiehaaGreatDoorBdU4
namespace Go.Proofs.YtgaolaafjiiehaaGreatDoor
open Go.RowKit
namespace Rru
open Rcv (CV LisV IntV)
open Rck (ckB lsB gtB Small)
open Fil (spA spZ spE spF spT perV perE moO letP)
theorem ck_sp0 {x : CV} (h : ckB x = true) : ckB (withSp x []) = true := by
  unfold ckB at h ⊢
  simp only [Bool.and_eq_true, decide_eq_true_eq] at h ⊢
  obtain ⟨a1, a2, a3, a4, a5, a6, a7, a8, a9, a10, a11, a12⟩ := h
  refine ⟨a1, a2, a3, a4, a5, a6, a7, a8, a9, ?_, a11, ?_⟩
  · rw [lsB, Bool.and_eq_true] at a10 ⊢
    exact ⟨a10.1, by show Rck.eiB 366 [] = true; kernel_rfl⟩
  · rw [gtB, Bool.and_eq_true] at a12 ⊢
    exact ⟨a12.1, by rw [show (withSp x []).sp = [] from rfl]; rfl⟩
/-- Some number asks for the place. -/
def askK (N : List Int) (c i k : Nat) : Bool := (N.take k).any fun n => decide (n = (i : Int) + 1) || decide (n = (i : Int) - (c : Int))
theorem ask_0 (N : List Int) (c i : Nat) : askK N c i 0 = false := by rw [askK, List.take_zero]; rfl
theorem ask_n (N : List Int) (c i : Nat) : askK N c i N.length = asks N c i := by rw [askK, List.take_length]; rfl
theorem ask_s {N : List Int} {c i k : Nat} (hk : k < N.length) : askK N c i (k + 1) = (askK N c i k || (decide (N[k] = (i : Int) + 1) || decide (N[k] = (i : Int) - (c : Int)))) := by
  rw [askK, askK, List.take_succ_eq_append_getElem hk, List.any_append, List.any_cons, List.any_nil, Bool.or_false]
/-- The times at the places that are asked for, so many places gone through. -/
def pkL (N A : List Int) (k : Nat) : List Int := wL (fun i => if asks N A.length i = true then some (A.getD i 0) else none) k
theorem pk_yes {N A : List Int} {k : Nat} (hk : k < A.length) (h : asks N A.length k = true) : pkL N A (k + 1) = pkL N A k ++ [A[k]] := by
  rw [pkL, wL, if_pos h]
  simp [pkL, hk]
theorem pk_no {N A : List Int} {k : Nat} (h : asks N A.length k = false) : pkL N A (k + 1) = pkL N A k := by
  rw [pkL, wL, if_neg (by rw [h]; decide)]
  simp [pkL]
theorem pk_len (N A : List Int) : ∀ k, (pkL N A k).length ≤ k
  | 0 => Nat.zero_le _
  | k + 1 => by
    have := pk_len N A k
    have h := wL_len (fun i => if asks N A.length i = true then some (A.getD i 0) else none) k
    rw [pkL] at this ⊢
    omega
theorem picks_1 {x : CV} {N : List Int} {st p : Int} (h1 : ckB x = true) (h2 : ckB (withSp x N) = true) (hN : N ≠ []) : ofE (withSp x N) st p = ofE (withSp x []) st p ∧ ofL (withSp x N) st p = pkL N (ofL (withSp x []) st p) (ofL (withSp x []) st p).length := by
  obtain ⟨a, b⟩ := of_picks (x := x) (st := st) (p := p) (ck_sp0 h1) h2 hN
  refine ⟨a, ?_⟩
  rw [b, pkL, wL_pick]
theorem per_sp0 {x : CV} {st : Int} (h1 : ckB x = true) : perE (withSp x []) st = perE x st := by rw [perE, perE, ck_sp0 h1, h1]
theorem of_two {x : CV} {st p : Int} (h1 : perE x st = 0) : ofE x st p = 0 ∨ ofE x st p = spE x p := Or.inr (by rw [ofE, if_neg (by rw [h1]; decide)])
theorem spe_23 {x : CV} {p : Int} (h : ckB x = true) : spE x p = 0 ∨ spE x p = 23 := by
  rw [Fil.spE, if_pos h]
  split
  · exact Or.inl rfl
  · exact Or.inr rfl
theorem sc_len4 {x : CV} (hc : ckB x = true) (h1 : x.sc.length ≤ 4) (h2 : x.mi.length ≤ 4) (st : Int) (hf : 4 ≤ x.fq) : (scL x st).length ≤ 384 := by
  have l1 := (hr_bd hc st).2
  have l2 : (miL x st).length ≤ 4 := by rw [miL, if_pos (by omega)]; exact or_len h2 (by decide)
  have l3 : (seL x st).length ≤ 4 := by rw [seL, if_pos (by omega)]; exact or_len h1 (by decide)
  have l := flat_len (L := hrL x st) (f := fun h => (miL x st).flatMap fun m => (seL x st).map (fS h m)) (n := 16) (fun a _ => by
    have := flat_len (L := miL x st) (f := fun m => (seL x st).map (fS a m)) (n := 4) (fun b _ => by rw [List.length_map]; exact l3)
    omega)
  rw [scL]; omega
/-- A period of a rule by days or longer, of few seconds and minutes, has few times. -/
theorem of_len4 {x : CV} {st p : Int} (hc : ckB x = true) (hf : 4 ≤ x.fq) (h1 : x.sc.length ≤ 4) (h2 : x.mi.length ≤ 4) (hs : x.sp = []) : (ofL x st p).length ≤ 200000 := by
  rw [ofL]
  split
  · rename_i e
    have e2 : spE x p = 0 := by
      rw [ofE] at e
      split at e
      · rename_i q; exact absurd e q
      · exact e
    have k := sp_ok e2
    have b := bs_len (x := x) (st := st) (s0 := s0F x st) k.2.2.2
    have s := sc_len4 hc h1 h2 st hf
    have l := fl_len (bsL x st (s0F x st) (spF x p) (spT x p)) (scL x st)
    have m := Nat.mul_le_mul b s
    rw [flF] at l
    rw [gaL, tiL, if_pos hs, l]
    omega
  · simp
end Rru
end Go.Proofs.YtgaolaafjiiehaaGreatDoor
