/-
  Package rrule, plain words: places, counted from the beginning or the end, and the times at them.
-/
import Derived.Test.YtgaolaafjiiehaaGreatDoorBdU6
import Derived.Test.YtgaolaafjiiehaaGreatDoorRruYE
namespace Go.Proofs.YtgaolaafjiiehaaGreatDoor
open Go.RowKit
namespace Rru
open Rcv (CV)
open Rck (ckB)
open Fil (spA spZ spE spF spT perV perE moO letP)
theorem compact_sup (L : List Int) : ∀ (j : Nat) (hj : j < L.length), L[j] ∈ Lib.compact L
  | j, hj => by
    have e : ∀ i (hi : i < L.length), L.toArray[i]! = L[i] := fun i hi => by simp [hi]
    by_cases k : Lib.keeps L.toArray j = true
    · rw [Lib.compact, Lib.compactUpTo]
      exact List.mem_map.2 ⟨j, List.mem_filter.2 ⟨List.mem_range.2 hj, k⟩, e j hj⟩
    · cases j with
      | zero => exact absurd (Lib.keeps_lt_one _ 0 (by decide)) k
      | succ j =>
        have ih := compact_sup L j (by omega)
        have : L[j + 1] = L[j] := by
          rw [Lib.keeps] at k
          have h1 := e (j + 1) hj
          have h0 := e j (by omega)
          simp at k h1 h0 ⊢
          simp_all
        rw [this]; exact ih
theorem pl_iff {N : List Int} {c k : Int} : k ∈ plL N c ↔ (0 ≤ k ∧ k < c) ∧ ∃ n ∈ N, plc c n = k := by
  have e : k ∈ plL N c ↔ k ∈ plK N c := by
    rw [plL]
    constructor
    · intro h
      have h1 := compact_sub _ _ h
      rw [srt, List.mem_mergeSort] at h1
      exact h1
    · intro h
      have h1 : k ∈ srt (plK N c) := by rw [srt, List.mem_mergeSort]; exact h
      obtain ⟨j, hj, rfl⟩ := List.mem_iff_getElem.1 h1
      exact compact_sup _ j hj
  rw [e, plK, List.mem_filter, List.mem_map, decide_eq_true_eq]
  exact ⟨fun ⟨a, b⟩ => ⟨b, a⟩, fun ⟨a, b⟩ => ⟨b, a⟩⟩
/-- A place is asked for by some number. -/
def asks (N : List Int) (c : Nat) (i : Nat) : Bool := N.any fun n => decide (n = (i : Int) + 1) || decide (n = (i : Int) - (c : Int))
theorem pl_eq (N : List Int) (c : Nat) : plL N (c : Int) = ((List.range c).filter (asks N c)).map (fun i : Nat => (i : Int)) := by
  refine sorted_ext (pl_up N c) ?_ (fun k => ?_)
  · rw [List.pairwise_map]
    exact (List.pairwise_lt_range.imp (fun {i j} h => by omega)).filter _
  · rw [pl_iff, List.mem_map]
    constructor
    · rintro ⟨⟨h1, h2⟩, n, hn, hk⟩
      refine ⟨k.toNat, List.mem_filter.2 ⟨List.mem_range.2 (by omega), ?_⟩, by omega⟩
      rw [asks, List.any_eq_true]
      refine ⟨n, hn, ?_⟩
      rw [Bool.or_eq_true, decide_eq_true_eq, decide_eq_true_eq]
      rw [plc] at hk
      split at hk <;> omega
    · rintro ⟨i, hi, rfl⟩
      rw [List.mem_filter, List.mem_range, asks, List.any_eq_true] at hi
      obtain ⟨hi, n, hn, ha⟩ := hi
      rw [Bool.or_eq_true, decide_eq_true_eq, decide_eq_true_eq] at ha
      refine ⟨by omega, n, hn, ?_⟩
      rw [plc]
      split <;> omega
def withSp (x : CV) (N : List Int) : CV := { x with sp := N }
theorem of_sp {x : CV} {N M : List Int} {st p : Int} (h1 : ckB (withSp x N) = true) (h2 : ckB (withSp x M) = true) : ofE (withSp x N) st p = ofE (withSp x M) st p ∧ bsL (withSp x N) st (s0F (withSp x N) st) (spF (withSp x N) p) (spT (withSp x N) p) = bsL (withSp x M) st (s0F (withSp x M) st) (spF (withSp x M) p) (spT (withSp x M) p) ∧ scL (withSp x N) st = scL (withSp x M) st := by
  have hl : ∀ t, letP (withSp x N) st t = letP (withSp x M) st t := fun t => by rw [letP, letP, h1, h2]; rfl
  have hf : spF (withSp x N) p = spF (withSp x M) p := by rw [spF, spF, h1, h2]; rfl
  have ht : spT (withSp x N) p = spT (withSp x M) p := by rw [spT, spT, h1, h2]; rfl
  have hp : perE (withSp x N) st = perE (withSp x M) st := by rw [perE, perE, h1, h2]
  have hs : spE (withSp x N) p = spE (withSp x M) p := by rw [spE, spE, h1, h2]; rfl
  have s0 : s0F (withSp x N) st = s0F (withSp x M) st := rfl
  refine ⟨by rw [ofE, ofE, hp, hs], ?_, rfl⟩
  have hd : dyB (withSp x N) st (s0F (withSp x M) st) = dyB (withSp x M) st (s0F (withSp x M) st) := by
    funext d
    rw [dyB, dyB, hl]; rfl
  rw [hf, ht, s0, bsL, bsL, hl, daL, daL, hd]; rfl
/-- Of a period's times those at the places that are asked for. -/
theorem of_picks {x : CV} {N : List Int} {st p : Int} (h1 : ckB (withSp x []) = true) (h2 : ckB (withSp x N) = true) (hN : N ≠ []) : ofE (withSp x N) st p = ofE (withSp x []) st p ∧ ofL (withSp x N) st p = ((List.range (ofL (withSp x []) st p).length).filter (asks N (ofL (withSp x []) st p).length)).map (fun i : Nat => (ofL (withSp x []) st p).getD i 0) := by
  obtain ⟨e, b, s⟩ := of_sp (x := x) (N := N) (M := []) (st := st) (p := p) h2 h1
  refine ⟨e, ?_⟩
  rw [ofL, ofL, e]
  by_cases h0 : ofE (withSp x []) st p = 0
  · rw [if_pos h0, if_pos h0, gaL, gaL, b, s]
    obtain ⟨bs, hb⟩ : ∃ z, bsL (withSp x []) st (s0F (withSp x []) st) (spF (withSp x []) p) (spT (withSp x []) p) = z := ⟨_, rfl⟩
    have sn := sc_ne (x := withSp x []) st
    obtain ⟨sc, hs⟩ : ∃ z, scL (withSp x []) st = z := ⟨_, rfl⟩
    rw [hb, hs]
    rw [hs] at sn
    have e1 : tiL (withSp x []) bs sc = flF bs sc := by rw [tiL, if_pos (show (withSp x []).sp = [] from rfl)]; rfl
    have e2 : tiL (withSp x N) bs sc = (plL N ((bs.length * sc.length : Nat) : Int)).map (tiF bs sc) := by rw [tiL, if_neg (show ¬ (withSp x N).sp = [] from hN)]; rfl
    rw [e1, e2, fl_len, pl_eq, List.map_map]
    refine List.map_congr_left (fun i hi => ?_)
    have hr := List.mem_range.1 (List.mem_filter.1 hi).1
    show tiF bs sc (i : Int) = _
    rw [tiF_eq sn ⟨by omega, by omega⟩]
    simp
  · rw [if_neg h0, if_neg h0]
    simp
end Rru
end Go.Proofs.YtgaolaafjiiehaaGreatDoor
