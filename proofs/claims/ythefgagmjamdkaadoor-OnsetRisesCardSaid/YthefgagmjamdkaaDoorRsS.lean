/-
  Rows of structs that a call owns, sorted by the library's sort: what is left.
-/
import Derived.Test.YthefgagmjamdkaaDoorRsA
import Derived.Shelf.SlSortCmp.InsertionK
namespace Go.Proofs.YthefgagmjamdkaaDoor
open Go.RowKit Go.Sort Go.Lib
namespace Rs
variable {α : Type} [Inhabited α]
theorem flat_at {enc : α → List Value} {k : Nat} (hk : ∀ x, (enc x).length = k) (hk0 : 0 < k) (M : List α) (t : Nat) (ht : t < M.length * k) : (flt enc M)[t]? = some (flatK enc k M.toArray)[t]! := by
  have hj : t / k < M.length := Nat.div_lt_of_lt_mul (by rw [Nat.mul_comm]; exact ht)
  have hi : t % k < k := Nat.mod_lt _ hk0
  have e : t = (t / k) * k + t % k := by rw [Nat.mul_comm]; exact (Nat.div_add_mod t k).symm
  rw [get_flatK enc k _ t (by simpa using ht)]
  conv => lhs; rw [e]
  rw [flt_at hk M (t / k) hj (t % k) hi]
  have h1 : M.toArray[t / k]! = M[t / k] := by simp [hj]
  rw [h1, List.getElem?_eq_getElem (by rw [hk]; exact hi)]
  simp [hk, hi]
theorem row_sorted {e : TypeId} {enc : α → List Value} {k B : Nat} (hk : ∀ x, (enc x).length = k) (hk0 : 0 < k) {w : World} {g cap : Nat} {L : List α} (h : RowT e enc k B w (.slice (some ⟨g, 0, none⟩) L.length cap) L) (m : Nat) (os : Array Obj) (M : List α) (hM : M.length = L.length) :
    RowT e enc k B (sortWorldK enc k w g 0 m M.toArray os) (.slice (some ⟨g, 0, none⟩) L.length cap) M ∧ Below B w (sortWorldK enc k w g 0 m M.toArray os) := by
  rcases h.2 with ⟨h1, _⟩ | ⟨g', cap', cur, h1, hb, hg, hn, hc, hs, ht⟩
  · cases h1
  · injection h1 with e1 e2 e3
    injection e1 with e1
    injection e1 with e1 _ _
    subst e1 e3
    have hgs : g < w.heap.size := (Array.getElem?_eq_some_iff.1 hg).1
    have hh : (sortWorldK enc k w g 0 m M.toArray os).heap[g]? = some (.cells (putCells id 0 (flatK enc k M.toArray) cur) e (0, 0)) := by
      unfold sortWorldK putRowK putRow mapBlock Go.Sort.grow Go.Sort.ahead
      simp only
      rw [Array.getElem?_append_left (by simpa using hgs), Array.getElem?_modify, if_pos rfl, hg]
      rfl
    have hbl : Below B w (sortWorldK enc k w g 0 m M.toArray os) := by
      refine ⟨rfl, rfl, rfl, ?_, fun q hq => ?_⟩
      · unfold sortWorldK putRowK putRow mapBlock Go.Sort.grow Go.Sort.ahead
        simp
      · unfold sortWorldK putRowK putRow mapBlock Go.Sort.grow Go.Sort.ahead
        simp only
        rw [Array.getElem?_append_left (by simp; omega), Array.getElem?_modify, if_neg (by omega)]
    refine ⟨⟨by rw [flt_len hk], Or.inr ⟨g, cap, _, by rw [hM], hb, hh, by omega, hc, by simpa [putCells] using hs, ?_⟩⟩, hbl⟩
    refine List.ext_getElem? fun t => ?_
    have hle : M.length * k ≤ cap * k := Nat.mul_le_mul_right k (by omega)
    by_cases q : t < M.length * k
    · rw [List.getElem?_take_of_lt q, flat_at hk hk0 M t q]
      have q2 : t < cur.size := by rw [hs]; omega
      simp only [putCells, Array.getElem?_toList, Array.getElem?_mapIdx]
      rw [Array.getElem?_eq_getElem q2]
      simp only [Option.map_some]
      rw [if_pos (by simp only [size_flatK, List.size_toArray]; omega)]
      simp
    · rw [List.getElem?_eq_none (by rw [List.length_take]; omega), List.getElem?_eq_none (by rw [flt_len hk]; omega)]
theorem holds_row {e : TypeId} {enc : α → List Value} {k B : Nat} (hk : ∀ x, (enc x).length = k) (hk0 : 0 < k) {w : World} {g cap : Nat} {L : List α} (h : RowT e enc k B w (.slice (some ⟨g, 0, none⟩) L.length cap) L) : HoldsK enc k w g 0 L.toArray := by
  intro j hj
  have hj' : j < L.length * k := by simpa using hj
  refine ⟨?_, World.ownsRow.frozenAt h _⟩
  rw [World.ownsRow.cellAt h (0 + j) (by omega), Nat.zero_add, flat_at hk hk0 L j hj']
  rfl
end Rs
end Go.Proofs.YthefgagmjamdkaaDoor
