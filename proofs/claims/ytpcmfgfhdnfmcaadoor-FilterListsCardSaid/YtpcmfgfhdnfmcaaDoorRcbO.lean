/-
  Rules that came in, opened: lists of numbers, of weekdays.
-/
import Derived.Test.YtpcmfgfhdnfmcaaDoorRcvA
import Derived.Test.YtpcmfgfhdnfmcaaDoorDpR
namespace Go.Proofs.YtpcmfgfhdnfmcaaDoor
open Go.RowKit Go.Deep Go.ChangeShapes Go.WideShapes
namespace Rct
open Rcv (CV IntV DayV LisV)
theorem list_of {α : Type} {Q : Nat → α → Prop} : ∀ (n : Nat), (∀ j, j < n → ∃ a, Q j a) → ∃ L : List α, L.length = n ∧ ∀ (j : Nat) (hj : j < L.length), Q j L[j]
  | 0, _ => ⟨[], rfl, fun j hj => by simp at hj⟩
  | n + 1, h => by
    obtain ⟨L, hl, hL⟩ := list_of n (fun j hj => h j (Nat.lt_succ_of_lt hj))
    obtain ⟨a, ha⟩ := h n (Nat.lt_succ_self n)
    refine ⟨L ++ [a], by simp [hl], fun j hj => ?_⟩
    by_cases q : j < L.length
    · rw [List.getElem_append_left q]; exact hL j q
    · have : j = n := by simp at hj; omega
      subst this
      have : (L ++ [a])[j] = a := by simp [← hl]
      rw [this]; exact ha
section
variable {H : Type} {enc : TypeId × Value → H} {W : World} {base : Nat} {spare : Nat → Bool} {held : Bool}
theorem open_ints {fuel : Nat} {v : Value} {x : DataW H × List MemPlace} (h : DataW.trod enc Tryd.prog W base spare held fuel 22 [v] = some x) : ∃ L, IntV W v L ∧ ∀ n ∈ L, -9223372036854775808 ≤ n ∧ n ≤ 9223372036854775807 := by
  obtain ⟨A, n, c, rfl, _, hj⟩ := Flat.open_rows Tryd.underlying22 (of_decide_eq_true (by kernel_rfl)) h
  have ke : Tryd.prog.cellsOf 3 = 1 := by kernel_rfl
  rw [ke] at hj
  obtain ⟨L, hl, hL⟩ := list_of (Q := fun j (p : Int) => (-9223372036854775808 ≤ p ∧ p ≤ 9223372036854775807) ∧ ∃ b off, A = some ⟨b, off, none⟩ ∧ b < W.heap.size ∧ W.cell? ⟨b, off + j, none⟩ = some (.int .i64 p)) n (fun j hjn => by
    obtain ⟨b, off, cs, hA, hb, hlen, hc, m, y, hy⟩ := hj j hjn
    match cs, hlen with
    | [u], _ =>
      obtain ⟨s, rfl, hs⟩ := Flat.leaf_i Tryd.underlying3 hy
      exact ⟨s, bounds_i64 hs, b, off, hA, hb, by have := hc 0 _ rfl; rwa [Nat.mul_one, Nat.add_zero] at this⟩)
  refine ⟨L, ⟨A, n, c, rfl, hl.symm, fun j hj => (hL j hj).2⟩, fun p hp => ?_⟩
  obtain ⟨j, hj, rfl⟩ := List.mem_iff_getElem.1 hp
  exact (hL j hj).1
theorem open_days {fuel : Nat} {v : Value} {x : DataW H × List MemPlace} (h : DataW.trod enc Tryd.prog W base spare held fuel 23 [v] = some x) : ∃ L, DayV W v L ∧ ∀ d ∈ L, (-9223372036854775808 ≤ d.1 ∧ d.1 ≤ 9223372036854775807) ∧ -9223372036854775808 ≤ d.2 ∧ d.2 ≤ 9223372036854775807 := by
  obtain ⟨A, n, c, rfl, _, hj⟩ := Flat.open_rows Tryd.underlying23 (of_decide_eq_true (by kernel_rfl)) h
  have ke : Tryd.prog.cellsOf 47 = 2 := by kernel_rfl
  rw [ke] at hj
  obtain ⟨L, hl, hL⟩ := list_of (Q := fun j (p : Int × Int) => ((-9223372036854775808 ≤ p.1 ∧ p.1 ≤ 9223372036854775807) ∧ -9223372036854775808 ≤ p.2 ∧ p.2 ≤ 9223372036854775807) ∧ ∃ b off, A = some ⟨b, off, none⟩ ∧ b < W.heap.size ∧ W.cell? ⟨b, off + j * 2, none⟩ = some (.int .i64 p.1) ∧ W.cell? ⟨b, off + j * 2 + 1, none⟩ = some (.int .i64 p.2)) n (fun j hjn => by
    obtain ⟨b, off, cs, hA, hb, hlen, hc, m, y, hy⟩ := hj j hjn
    match cs, hlen with
    | [u, v], _ =>
      have lv := (Flat.leaves_at 4 47 [3, 3] (by kernel_rfl) m [u, v] _ hy).2
      obtain ⟨_, _, h0⟩ := lv 0 _ _ rfl rfl
      obtain ⟨_, _, h1⟩ := lv 1 _ _ rfl rfl
      obtain ⟨s, rfl, hs⟩ := Flat.leaf_i Tryd.underlying3 h0
      obtain ⟨r, rfl, hr⟩ := Flat.leaf_i Tryd.underlying3 h1
      exact ⟨(s, r), ⟨bounds_i64 hs, bounds_i64 hr⟩, b, off, hA, hb, hc 0 _ rfl, hc 1 _ rfl⟩)
  refine ⟨L, ⟨A, n, c, rfl, hl.symm, fun j hj => (hL j hj).2⟩, fun p hp => ?_⟩
  obtain ⟨j, hj, rfl⟩ := List.mem_iff_getElem.1 hp
  exact (hL j hj).1
end
end Rct
end Go.Proofs.YtpcmfgfhdnfmcaaDoor
