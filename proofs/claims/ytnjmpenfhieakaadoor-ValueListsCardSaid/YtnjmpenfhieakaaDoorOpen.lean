/-
  Slices that came in, opened.
-/
import Derived.Test.YtnjmpenfhieakaaDoorRows
import Derived.WalkKit
import Derived.Deep.Slices
import Derived.ChangeArms
import Derived.OpenShut
namespace Go.Proofs.YtnjmpenfhieakaaDoor
open Go.RowKit Go.Deep Go.ChangeShapes Go.WideShapes
namespace Opn
/-- A slice of bools that came in. -/
def Bools (A : Option Addr) (n : Nat) (ls : Nat → Bool) (w : World) : Prop := ∀ j, j < n → ∃ b off, A = some ⟨b, off, none⟩ ∧ b < w.heap.size ∧ w.cell? ⟨b, off + j, none⟩ = some (.bool (ls j))
/-- A slice of texts that came in. -/
def Strs (A : Option Addr) (n : Nat) (ls : Nat → ByteArray) (w : World) : Prop := ∀ j, j < n → ∃ b off, A = some ⟨b, off, none⟩ ∧ b < w.heap.size ∧ w.cell? ⟨b, off + j, none⟩ = some (.string (ls j)) ∧ (ls j).size ≤ maxLen
/-- A slice of numbers that came in. -/
def Ints (A : Option Addr) (n : Nat) (ls : Nat → Int) (w : World) : Prop := ∀ j, j < n → ∃ b off, A = some ⟨b, off, none⟩ ∧ b < w.heap.size ∧ w.cell? ⟨b, off + j, none⟩ = some (.int .i64 (ls j)) ∧ (Lit.int .i64 (ls j)).wf = true
theorem cell_lt {w : World} {b off : Nat} {v : Value} (h : w.cell? ⟨b, off, none⟩ = some v) : b < w.heap.size := by
  rcases Nat.lt_or_ge b w.heap.size with hl | hl
  · exact hl
  · have e : w.cell? ⟨b, off, none⟩ = none := by
      unfold World.cell?
      rw [Array.getElem?_eq_none hl]
    rw [e] at h
    cases h
section
variable {H : Type} {enc : TypeId × Value → H} {P : Program} {W : World} {base : Nat} {held : Bool}
def boolOf : Value → Bool
  | .bool b => b
  | _ => false
theorem open_bools {t e : TypeId} {fuel : Nat} {A : Option Addr} {n c : Nat} {x : DataW H × List MemPlace} (ht : P.underlying t = some (.slice e)) (he : P.underlying e = some .bool) (hc : P.cellsOf e = 1)
    (h : DataW.trod enc P W base (fun _ => true) held fuel t [.slice A n c] = some x) : n ≤ maxLen ∧ ∃ ls, Bools A n ls W := by
  rcases open_slice1 ht hc h with ⟨hcs, _⟩ | ⟨a, len, cap, m, n', V, D, Pl, hcs, _, hl, hm, hmm, _, hi⟩
  · simp at hcs
    obtain ⟨_, rfl, _⟩ := hcs
    exact ⟨Nat.zero_le _, fun _ => false, fun j hj => by omega⟩
  · simp at hcs
    obtain ⟨rfl, rfl, rfl⟩ := hcs
    simp at hmm
    subst hmm
    refine ⟨Nat.le_trans hl hm, fun j => boolOf (V j), fun j hj => ?_⟩
    obtain ⟨h1, h2⟩ := hi j (by omega)
    obtain ⟨b, hb, _⟩ := DataW.trod_bool he h2
    simp at hb
    obtain ⟨bl, off, spot⟩ := a
    have hspot : spot = none := by simpa [Addr.add] using World.cell?_spot (hi 0 (by omega)).1
    subst hspot
    rw [Go.WideShapes.add_plain, hb] at h1
    exact ⟨bl, off, rfl, cell_lt h1, by show _ = some (Value.bool (boolOf (V j))); rw [hb]; exact h1⟩
def strOf : Value → ByteArray
  | .string s => s
  | _ => ⟨#[]⟩
def intOfV : Value → Int
  | .int _ n => n
  | _ => 0
theorem open_strs {t e : TypeId} {fuel : Nat} {A : Option Addr} {n c : Nat} {x : DataW H × List MemPlace} (ht : P.underlying t = some (.slice e)) (he : P.underlying e = some .string) (hc : P.cellsOf e = 1)
    (h : DataW.trod enc P W base (fun _ => true) held fuel t [.slice A n c] = some x) : n ≤ maxLen ∧ ∃ ls, Strs A n ls W := by
  rcases open_slice1 ht hc h with ⟨hcs, _⟩ | ⟨a, len, cap, m, n', V, D, Pl, hcs, _, hl, hm, hmm, _, hi⟩
  · simp at hcs
    obtain ⟨_, rfl, _⟩ := hcs
    exact ⟨Nat.zero_le _, fun _ => ⟨#[]⟩, fun j hj => by omega⟩
  · simp at hcs
    obtain ⟨rfl, rfl, rfl⟩ := hcs
    simp at hmm
    subst hmm
    refine ⟨Nat.le_trans hl hm, fun j => strOf (V j), fun j hj => ?_⟩
    obtain ⟨h1, h2⟩ := hi j (by omega)
    obtain ⟨b, hb, _, hwf⟩ := DataW.trod_string he h2
    simp at hb
    obtain ⟨bl, off, spot⟩ := a
    have hspot : spot = none := by simpa [Addr.add] using World.cell?_spot (hi 0 (by omega)).1
    subst hspot
    rw [Go.WideShapes.add_plain, hb] at h1
    refine ⟨bl, off, rfl, cell_lt h1, ?_, ?_⟩
    · show _ = some (Value.string (strOf (V j)))
      rw [hb]; exact h1
    · show (strOf (V j)).size ≤ maxLen
      rw [hb]; exact hwf
theorem open_ints {t e : TypeId} {fuel : Nat} {A : Option Addr} {n c : Nat} {x : DataW H × List MemPlace} (ht : P.underlying t = some (.slice e)) (he : P.underlying e = some (.int .i64)) (hc : P.cellsOf e = 1)
    (h : DataW.trod enc P W base (fun _ => true) held fuel t [.slice A n c] = some x) : n ≤ maxLen ∧ ∃ ls, Ints A n ls W := by
  rcases open_slice1 ht hc h with ⟨hcs, _⟩ | ⟨a, len, cap, m, n', V, D, Pl, hcs, _, hl, hm, hmm, _, hi⟩
  · simp at hcs
    obtain ⟨_, rfl, _⟩ := hcs
    exact ⟨Nat.zero_le _, fun _ => 0, fun j hj => by omega⟩
  · simp at hcs
    obtain ⟨rfl, rfl, rfl⟩ := hcs
    simp at hmm
    subst hmm
    refine ⟨Nat.le_trans hl hm, fun j => intOfV (V j), fun j hj => ?_⟩
    obtain ⟨h1, h2⟩ := hi j (by omega)
    obtain ⟨b, hb, _, hwf⟩ := DataW.trod_int he h2
    simp at hb
    obtain ⟨bl, off, spot⟩ := a
    have hspot : spot = none := by simpa [Addr.add] using World.cell?_spot (hi 0 (by omega)).1
    subst hspot
    rw [Go.WideShapes.add_plain, hb] at h1
    refine ⟨bl, off, rfl, cell_lt h1, ?_, ?_⟩
    · show _ = some (Value.int .i64 (intOfV (V j)))
      rw [hb]; exact h1
    · show (Lit.int .i64 (intOfV (V j))).wf = true
      rw [hb]; exact hwf
end
end Opn
end Go.Proofs.YtnjmpenfhieakaaDoor
