/-
  Several texts in one (DpR, RcbO).
-/
import Derived.Test.YthefgagmjamdkaaGreatDoorFlat
import Derived.Test.YthefgagmjamdkaaGreatDoorBdCl
/-
  Slices of whatever elements that came in, opened.
-/
namespace Go.Proofs.YthefgagmjamdkaaGreatDoor
open Go.RowKit Go.Deep Go.ChangeShapes Go.WideShapes
namespace Flat
section
variable {H : Type} {enc : TypeId × Value → H} {P : Program} {W : World} {base : Nat} {spare : Nat → Bool} {held : Bool}
theorem blk_lt {w : World} {b off : Nat} {v : Value} (h : w.cell? ⟨b, off, none⟩ = some v) : b < w.heap.size := by
  rcases Nat.lt_or_ge b w.heap.size with hl | hl
  · exact hl
  · have e : w.cell? ⟨b, off, none⟩ = none := by
      unfold World.cell?
      rw [Array.getElem?_eq_none hl]
    rw [e] at h
    cases h
/-- A cell that reads at a slice's type: its elements' cells lie in one block, each element reads at its type. -/
theorem open_rows {t e : TypeId} {fuel : Nat} {v : Value} {x : DataW H × List MemPlace} (ht : P.underlying t = some (.slice e)) (hk : 0 < P.cellsOf e)
    (h : DataW.trod enc P W base spare held fuel t [v] = some x) : ∃ A n c, v = .slice A n c ∧ n ≤ maxLen ∧ ∀ j, j < n → ∃ b off cs, A = some ⟨b, off, none⟩ ∧ b < W.heap.size ∧ cs.length = P.cellsOf e ∧ (∀ (i : Nat) u, cs[i]? = some u → W.cell? ⟨b, off + j * P.cellsOf e + i, none⟩ = some u) ∧ ∃ m y, DataW.trod enc P W base spare held m e cs = some y := by
  rcases DataW.trod_slice ht h with ⟨hcs, _⟩ | ⟨a, len, cap, elems, rest, m, _, hcs, _, _, hl, hm, hel, hi, _⟩
  · obtain rfl : v = .slice none 0 0 := by simpa using hcs
    exact ⟨none, 0, 0, rfl, Nat.zero_le _, fun j hj => by omega⟩
  · obtain rfl : v = .slice (some a) len cap := by simpa using hcs
    have key : ∀ j, j < len → ∃ cs, cs.length = P.cellsOf e ∧ (∀ i, i < P.cellsOf e → W.cell? ((a.add (j * P.cellsOf e)).add i) = cs[i]?) ∧ ∃ m y, DataW.trod enc P W base spare held m e cs = some y := fun j hj => by
      have h1 := hi j hj
      rw [List.getElem?_eq_getElem (by omega)] at h1
      obtain ⟨cs, h2, h3⟩ := Option.bind_eq_some_iff.1 h1
      unfold World.cells? at h2
      split at h2
      case isFalse => cases h2
      case isTrue => exact ⟨cs, by have := mapM_some_length h2; simpa using this, fun i hi => mapM_some_get h2 i i (by simp [hi]), m, _, h3⟩
    refine ⟨some a, len, cap, rfl, Nat.le_trans hl hm, fun j hj => ?_⟩
    obtain ⟨cs0, l0, g0, _⟩ := key 0 (by omega)
    obtain ⟨cs, hlen, hget, hm2⟩ := key j hj
    obtain ⟨bl, off, spot⟩ := a
    have h0 := g0 0 hk
    rw [List.getElem?_eq_getElem (by omega)] at h0
    have hspot : spot = none := by simpa [Addr.add] using World.cell?_spot h0
    subst hspot
    have h1 := hget 0 hk
    rw [List.getElem?_eq_getElem (by omega), Go.WideShapes.add_plain, Go.WideShapes.add_plain] at h1
    refine ⟨bl, off, cs, rfl, blk_lt h1, hlen, fun i u hu => ?_, hm2⟩
    have hi2 : i < cs.length := by
      rcases Nat.lt_or_ge i cs.length with q | q
      · exact q
      · rw [List.getElem?_eq_none q] at hu; cases hu
    have := hget i (by omega)
    rw [Go.WideShapes.add_plain, Go.WideShapes.add_plain] at this
    rw [this]; exact hu
theorem arr3 {cs : Array Value} (h : cs.size = 3) : ∃ c0 c1 c2, cs = #[c0, c1, c2] := by
  obtain ⟨l⟩ := cs
  match l, h with
  | [c0, c1, c2], _ => exact ⟨_, _, _, rfl⟩
/-- A leaf. -/
theorem leaf_s {t : TypeId} {fuel : Nat} {v : Value} {x : DataW H × List MemPlace} (ht : P.underlying t = some .string) (h : DataW.trod enc P W base spare held fuel t [v] = some x) : ∃ s : List UInt8, v = .string ⟨s.toArray⟩ ∧ s.length ≤ maxLen := by
  obtain ⟨s, hs, _, hw⟩ := DataW.trod_string ht h
  refine ⟨s.data.toList, by simpa using hs, ?_⟩
  have : s.data.toList.length = s.size := by simp
  rw [this]; exact hw
theorem leaf_i {t : TypeId} {k : IntKind} {fuel : Nat} {v : Value} {x : DataW H × List MemPlace} (ht : P.underlying t = some (.int k)) (h : DataW.trod enc P W base spare held fuel t [v] = some x) : ∃ n, v = .int k n ∧ (Lit.int k n).wf = true := by
  obtain ⟨n, hn, _, hw⟩ := DataW.trod_int ht h
  exact ⟨n, by simpa using hn, hw⟩
theorem leaf_b {t : TypeId} {fuel : Nat} {v : Value} {x : DataW H × List MemPlace} (ht : P.underlying t = some .bool) (h : DataW.trod enc P W base spare held fuel t [v] = some x) : ∃ b, v = .bool b := by
  obtain ⟨n, hn, _⟩ := DataW.trod_bool ht h
  exact ⟨n, by simpa using hn⟩
end
end Flat
end Go.Proofs.YthefgagmjamdkaaGreatDoor
/-
  Rules that came in, opened: lists of numbers, of weekdays.
-/
namespace Go.Proofs.YthefgagmjamdkaaGreatDoor
open Go.RowKit Go.Deep Go.ChangeShapes Go.WideShapes
namespace Rct
open Rcv (CV IntV DayV LisV)
theorem list_of {α : Type} {Q : Nat → α → Prop} : ∀ (n : Nat), (∀ j, j < n → ∃ a, Q j a) → ∃ L : List α, L.length = n ∧ ∀ (j : Nat) (hj : j < L.length), Q j L[j]
  | 0, _ => ⟨[], rfl, fun j hj => by simp at hj⟩
  | n + 1, h => by
    obtain ⟨L, hl, hL⟩ := list_of n (fun j hj => h j (Nat.lt_succ_of_lt hj))
    obtain ⟨a, ha⟩ := h n (Nat.lt_succ_self n)
    refine ⟨L ++ [a], by simp [hl], fun j hj => ?_⟩
    by_cases q : j < L.length
    · rw [List.getElem_append_left q]; exact hL j q
    · have : j = n := by simp at hj; omega
      subst this
      have : (L ++ [a])[j] = a := by simp [← hl]
      rw [this]; exact ha
section
variable {H : Type} {enc : TypeId × Value → H} {W : World} {base : Nat} {spare : Nat → Bool} {held : Bool}
end
end Rct
end Go.Proofs.YthefgagmjamdkaaGreatDoor
