/-
  Several texts in one (Wrd, Once, Words, Words2).
-/
import Derived.Test.YthefgagmjamdkaaDoorBdA
import Derived.Laws.IdiomStrings
import Derived.Below
import Derived.Deep.DeepCutAuto
import Derived.Defers
import Derived.Laws.Pointers
import Derived.Laws.LoneSync
import Derived.RegionTactic
import Derived.RegionCalls
import Derived.Deep.CutBlock
import Derived.Deep.RegionWith
import Derived.Deep.DrawnRows
/-
  Package ascii: a text with its large letters made small (the walk over a row of bytes of its own).
-/
namespace Go.Proofs.YthefgagmjamdkaaDoor
open Go.RowKit
namespace Wrd
def smB (c : UInt8) : UInt8 := if 65 ≤ c.toNat ∧ c.toNat ≤ 90 then UInt8.ofNat (c.toNat + 32) else c
def smL (L : List UInt8) : List UInt8 := L.map smB
def mid (L : List UInt8) (k : Nat) : List UInt8 := (L.take k).map smB ++ L.drop k
theorem mid_len (L : List UInt8) (k : Nat) : (mid L k).length = L.length := by
  simp [mid]; omega
theorem mid_zero (L : List UInt8) : mid L 0 = L := by simp [mid]
theorem mid_all (L : List UInt8) : mid L L.length = smL L := by simp [mid, smL]
theorem mid_at (L : List UInt8) (k : Nat) (h : k < L.length) : (mid L k)[k]? = some L[k] := by
  unfold mid
  rw [List.getElem?_append_right (by simp; omega)]
  simp [Nat.min_eq_left (Nat.le_of_lt h), h]
theorem mid_succ (L : List UInt8) (k : Nat) (h : k < L.length) : (mid L k).set k (smB L[k]) = mid L (k + 1) := by
  apply List.ext_getElem?
  intro j
  rw [List.getElem?_set]
  by_cases hj : k = j
  · subst hj
    rw [if_pos rfl, if_pos (by rw [mid_len]; exact h)]
    unfold mid
    rw [List.getElem?_append_left (by simp; omega)]
    simp [h]
  · rw [if_neg hj]
    unfold mid
    by_cases hl : j < k
    · rw [List.getElem?_append_left (by simp; omega), List.getElem?_append_left (by simp; omega)]
      simp [hl, show j < k + 1 by omega]
    · rw [List.getElem?_append_right (by simp; omega), List.getElem?_append_right (by simp; omega)]
      simp only [List.length_map, List.length_take, List.getElem?_drop]
      congr 1
      omega
theorem mid_stay (L : List UInt8) (k : Nat) (h : k < L.length) (hc : smB L[k] = L[k]) : mid L k = mid L (k + 1) := by
  rw [← mid_succ L k h, hc]
  apply List.ext_getElem?
  intro j
  rw [List.getElem?_set]
  by_cases hj : k = j
  · subst hj
    rw [if_pos rfl, if_pos (by rw [mid_len]; exact h), mid_at L k h]
  · rw [if_neg hj]

/-- The row at B: its bytes, none of them frozen. -/
def SmR (B : Nat) (M : List UInt8) (w : World) : Prop :=
  ∀ j (h : j < M.length), w.cell? ⟨B, j, none⟩ = some (.int .u8 (M[j].toNat : Int)) ∧ w.frozen? ⟨B, j, none⟩ = false
theorem SmR.get {B : Nat} {M : List UInt8} {w : World} (h : SmR B M w) {j : Nat} {c : UInt8} (hc : M[j]? = some c) :
    w.cell? ⟨B, j, none⟩ = some (.int .u8 (c.toNat : Int)) ∧ w.frozen? ⟨B, j, none⟩ = false := by
  obtain ⟨hj, rfl⟩ := List.getElem?_eq_some_iff.1 hc
  exact h j hj
theorem SmR.put {B : Nat} {M : List UInt8} {w : World} (h : SmR B M w) {k : Nat} (hk : k < M.length) {v : Int} {c : UInt8} (hv : v = (c.toNat : Int)) :
    SmR B (M.set k c) (w.setCell ⟨B, k, none⟩ (.int .u8 v)) := by
  intro j hj
  rw [List.length_set] at hj
  refine ⟨?_, by rw [World.frozen?_setCell]; exact (h j hj).2⟩
  by_cases hjk : k = j
  · subst hjk
    rw [World.cell?_setCell_same _ _ _ (h k hk).1, hv]
    simp
  · rw [World.cell?_setCell_other _ _ _ _ (by simp_all), (h j hj).1]
    simp [hjk]
theorem smB_lo {c : UInt8} (h : (c.toNat : Int) < 65) : smB c = c := if_neg (by omega)
theorem smB_hi {c : UInt8} (h : 90 < (c.toNat : Int)) : smB c = c := if_neg (by omega)
theorem smB_in {c : UInt8} (h : 65 ≤ (c.toNat : Int)) (h2 : (c.toNat : Int) ≤ 90) : (c.toNat : Int) - 65 + 97 = ((smB c).toNat : Int) := by
  rw [smB, if_pos (by omega)]
  have : (UInt8.ofNat (c.toNat + 32)).toNat = c.toNat + 32 := by simp; omega
  rw [this]; omega

end Wrd
end Go.Proofs.YthefgagmjamdkaaDoor
/-
  sync.Once in one goroutine, the lock free: its parts (a store of 'done', the lock taken, the lock let go).
-/
namespace Go.Proofs.YthefgagmjamdkaaDoor
open Go.RowKit
namespace Wrd
end Wrd
end Go.Proofs.YthefgagmjamdkaaDoor
/-
  Package words: each kind's row, the function that sync.Once calls to lay it, and a lexicon's list (fresh, and laid).
-/
namespace Go.Proofs.YthefgagmjamdkaaDoor
open Go.RowKit
namespace Wrd
def wds1 : List (List UInt8) := [[82, 117, 108, 101], [90, 111, 110, 101], [76, 105, 110, 107]]
def wds2 : List (List UInt8) := [[74, 97, 110, 117, 97, 114, 121], [70, 101, 98, 114, 117, 97, 114, 121], [77, 97, 114, 99, 104], [65, 112, 114, 105, 108], [77, 97, 121], [74, 117, 110, 101], [74, 117, 108, 121], [65, 117, 103, 117, 115, 116], [83, 101, 112, 116, 101, 109, 98, 101, 114], [79, 99, 116, 111, 98, 101, 114], [78, 111, 118, 101, 109, 98, 101, 114], [68, 101, 99, 101, 109, 98, 101, 114]]
def wds3 : List (List UInt8) := [[83, 117, 110, 100, 97, 121], [77, 111, 110, 100, 97, 121], [84, 117, 101, 115, 100, 97, 121], [87, 101, 100, 110, 101, 115, 100, 97, 121], [84, 104, 117, 114, 115, 100, 97, 121], [70, 114, 105, 100, 97, 121], [83, 97, 116, 117, 114, 100, 97, 121]]
def wds4 : List (List UInt8) := [[109, 105, 110, 105, 109, 117, 109], [109, 97, 120, 105, 109, 117, 109], [111, 110, 108, 121]]
def wds (k : Int) : List (List UInt8) := if k = 1 then wds1 else if k = 2 then wds2 else if k = 3 then wds3 else if k = 4 then wds4 else []
/-- A kind, how many words it has, and its words. -/
def WK (k : Int) (n : Nat) (L : List (List UInt8)) : Prop := (k = 1 ∧ n = 3 ∧ L = wds1) ∨ (k = 2 ∧ n = 12 ∧ L = wds2) ∨ (k = 3 ∧ n = 7 ∧ L = wds3) ∨ (k = 4 ∧ n = 3 ∧ L = wds4) ∨ ((k == 1) = false ∧ (k == 2) = false ∧ (k == 3) = false ∧ (k == 4) = false ∧ n = 0 ∧ L = [])
theorem WK.len {k : Int} {n : Nat} {L : List (List UInt8)} (h : WK k n L) : L.length = n := by
  rcases h with ⟨_, rfl, rfl⟩ | ⟨_, rfl, rfl⟩ | ⟨_, rfl, rfl⟩ | ⟨_, rfl, rfl⟩ | ⟨_, _, _, _, rfl, rfl⟩ <;> rfl
def rowV (L : List (List UInt8)) : Array Value := (L.map fun x => Value.string ⟨x.toArray⟩).toArray
/-- The row at A, of B and behind it: its texts. -/
def RowA (B : Nat) (A : Option Addr) (L : List (List UInt8)) (w : World) : Prop :=
  ∀ j (h : j < L.length), ∃ g, A = some ⟨g, 0, none⟩ ∧ B ≤ g ∧ g < w.heap.size ∧ w.cell? ⟨g, j, none⟩ = some (.string ⟨L[j].toArray⟩)
theorem rowA_new (L : List (List UInt8)) (t : TypeId) (w : World) : RowA w.heap.size (some ⟨w.heap.size, 0, none⟩) L (w.alloc (Obj.cells (rowV L) t)) := by
  intro j hj
  refine ⟨_, rfl, Nat.le_refl _, by simp, ?_⟩
  rw [World.cell?_alloc_new]
  simp [rowV, hj]
theorem RowA.keep {B : Nat} {A : Option Addr} {L : List (List UInt8)} {w w' : World} (h : RowA B A L w) (hs : w.heap.size ≤ w'.heap.size) (hc : ∀ g j, B ≤ g → g < w.heap.size → w'.cell? ⟨g, j, none⟩ = w.cell? ⟨g, j, none⟩) : RowA B A L w' := by
  intro j hj
  obtain ⟨g, h1, h2, h3, h4⟩ := h j hj
  exact ⟨g, h1, h2, by omega, (hc g j h2 h3).trans h4⟩
theorem RowA.below {B : Nat} {A : Option Addr} {L : List (List UInt8)} {w w' : World} (h : RowA B A L w) (hb : Below w.heap.size w w') : RowA B A L w' :=
  h.keep hb.size (fun _ _ _ h3 => hb.cell (p := ⟨_, _, none⟩) h3)
theorem RowA.set_ {B : Nat} {A : Option Addr} {L : List (List UInt8)} {w : World} (h : RowA B A L w) {b i : Nat} (hb : b < B) (v : Value) : RowA B A L (w.setCell ⟨b, i, none⟩ v) :=
  h.keep (by simp) (fun g j h2 _ => World.cell?_setCell_other _ ⟨b, i, none⟩ ⟨g, j, none⟩ _ (fun e => by injection e; omega))
theorem RowA.drew {B : Nat} {A : Option Addr} {L : List (List UInt8)} {w : World} (h : RowA B A L w) : RowA B A L w.drew := h
theorem RowA.less {B B' : Nat} {A : Option Addr} {L : List (List UInt8)} {w : World} (h : RowA B A L w) (hb : B' ≤ B) : RowA B' A L w := by
  intro j hj
  obtain ⟨g, h1, h2, h3, h4⟩ := h j hj
  exact ⟨g, h1, by omega, h3, h4⟩
def WofQ (n : Nat) (L : List (List UInt8)) (w : World) (e : Ending) (w' : World) : Prop := ∃ A, e = .returned (.slice A n n) ∧ Below w.heap.size w w' ∧ Hid (RowA w.heap.size A L w')
def LstQ (b n : Nat) (L : List (List UInt8)) (w w' : World) : Prop := ∃ A w2, w' = w2.setCell ⟨b, 4, none⟩ (.slice A n n) ∧ Below w.heap.size w w2 ∧ Hid (RowA w.heap.size A L w2)
/-- What the slow road leaves: the row, the lexicon's words, 'done', the lock free. -/
def SlowQ (b n : Nat) (L : List (List UInt8)) (w w' : World) : Prop := ∃ A w2, w' = ((w2.setCell ⟨b, 4, none⟩ (.slice A n n)).drew.setCell ⟨b, 1, none⟩ (.int .u32 1)).setCell ⟨b, 2, none⟩ (.int .i32 0) ∧ Below w.heap.size (w.setCell ⟨b, 2, none⟩ (.int .i32 1)) w2 ∧ Hid (RowA w.heap.size A L w2)
/-- A lexicon that nobody has asked yet. -/
def Fresh (b : Nat) (k : Int) (w : World) : Prop := b < w.heap.size ∧ w.cell? ⟨b, 0, none⟩ = some (.int .i64 k) ∧ w.cell? ⟨b, 1, none⟩ = some (.int .u32 0) ∧ w.cell? ⟨b, 2, none⟩ = some (.int .i32 0) ∧ w.cell? ⟨b, 4, none⟩ = some (.slice none 0 0) ∧
  w.frozen? ⟨b, 1, none⟩ = false ∧ w.frozen? ⟨b, 2, none⟩ = false ∧ w.frozen? ⟨b, 4, none⟩ = false
/-- A lexicon that is laid. -/
def Laid (b : Nat) (k : Int) (A : Option Addr) (n : Nat) (L : List (List UInt8)) (w : World) : Prop := b < w.heap.size ∧ w.cell? ⟨b, 0, none⟩ = some (.int .i64 k) ∧ w.cell? ⟨b, 1, none⟩ = some (.int .u32 1) ∧ w.cell? ⟨b, 4, none⟩ = some (.slice A n n) ∧ RowA (b + 1) A L w
theorem Fresh.below {b : Nat} {k : Int} {w w' : World} (h : Fresh b k w) (hb : Below w.heap.size w w') : Fresh b k w' := by
  obtain ⟨a0, a1, a2, a3, a4, a5, a6, a7⟩ := h
  have c := fun i => hb.cell (p := ⟨b, i, none⟩) a0
  have f := fun i => hb.frozen (p := ⟨b, i, none⟩) a0
  exact ⟨Nat.lt_of_lt_of_le a0 hb.size, (c 0).trans a1, (c 1).trans a2, (c 2).trans a3, (c 4).trans a4, (f 1).trans a5, (f 2).trans a6, (f 4).trans a7⟩
theorem Laid.below {b n : Nat} {k : Int} {A : Option Addr} {L : List (List UInt8)} {w w' : World} (h : Laid b k A n L w) (hb : Below w.heap.size w w') : Laid b k A n L w' := by
  obtain ⟨a0, a1, a2, a3, a4⟩ := h
  have c := fun i => hb.cell (p := ⟨b, i, none⟩) a0
  exact ⟨Nat.lt_of_lt_of_le a0 hb.size, (c 0).trans a1, (c 1).trans a2, (c 4).trans a3, a4.below hb⟩
end Wrd
end Go.Proofs.YthefgagmjamdkaaDoor
/-
  Package words: Once.Do and a lexicon's list (fresh, and laid); first, least; strings.HasPrefix; ascii.Same.
-/
namespace Go.Proofs.YthefgagmjamdkaaDoor
open Go.RowKit
namespace Wrd
theorem Fresh.slow {b n : Nat} {k : Int} {L : List (List UInt8)} {o : Obj} {w w' : World} (h : Fresh b k w) (hq : SlowQ b n L (w.alloc o) w') : ∃ A, Laid b k A n L w' ∧ Below b w w' ∧ w.heap.size < w'.heap.size ∧ w'.cell? ⟨w.heap.size, 0, none⟩ = (w.alloc o).cell? ⟨w.heap.size, 0, none⟩ := by
  obtain ⟨a0, a1, a2, a3, a4, a5, a6, a7⟩ := h
  obtain ⟨A, w2, rfl, hb, hr⟩ := hq
  have hz : w.heap.size + 1 ≤ w2.heap.size := by have := hb.size; simpa using this
  have hb2 : Below b w w2 := (((Below.refl b w).alloc (by omega) o).setCell (p := ⟨b, 2, none⟩) (Nat.le_refl _) _).trans (hb.mono (by simp; omega))
  have hr2 : RowA (b + 1) A L w2 := hr.out.less (by simp; omega)
  have c0 : w2.cell? ⟨b, 0, none⟩ = some (.int .i64 k) := (hb.cell (p := ⟨b, 0, none⟩) (by simp; omega)).trans ((World.cell?_setCell_other _ ⟨b, 2, none⟩ ⟨b, 0, none⟩ _ (by simp)).trans ((World.cell?_alloc_lt w o ⟨b, 0, none⟩ a0).trans a1))
  have c1 : w2.cell? ⟨b, 1, none⟩ = some (.int .u32 0) := (hb.cell (p := ⟨b, 1, none⟩) (by simp; omega)).trans ((World.cell?_setCell_other _ ⟨b, 2, none⟩ ⟨b, 1, none⟩ _ (by simp)).trans ((World.cell?_alloc_lt w o ⟨b, 1, none⟩ a0).trans a2))
  have c4 : w2.cell? ⟨b, 4, none⟩ = some (.slice none 0 0) := (hb.cell (p := ⟨b, 4, none⟩) (by simp; omega)).trans ((World.cell?_setCell_other _ ⟨b, 2, none⟩ ⟨b, 4, none⟩ _ (by simp)).trans ((World.cell?_alloc_lt w o ⟨b, 4, none⟩ a0).trans a4))
  refine ⟨A, ⟨by simp; omega, ?_, ?_, ?_, ?_⟩, ?_, by simp; omega, ?_⟩
  · rw [World.cell?_setCell_other _ _ _ _ (by simp), World.cell?_setCell_other _ _ _ _ (by simp)]
    exact (World.cell?_setCell_other _ ⟨b, 4, none⟩ ⟨b, 0, none⟩ _ (by simp)).trans c0
  · rw [World.cell?_setCell_other _ _ _ _ (by simp)]
    exact World.cell?_setCell_same _ _ _ ((World.cell?_setCell_other _ ⟨b, 4, none⟩ ⟨b, 1, none⟩ _ (by simp)).trans c1)
  · rw [World.cell?_setCell_other _ _ _ _ (by simp), World.cell?_setCell_other _ _ _ _ (by simp)]
    exact World.cell?_setCell_same _ _ _ c4
  · exact ((hr2.set_ (by omega) _).drew.set_ (by omega) _).set_ (by omega) _
  · exact ((hb2.setCell (Nat.le_refl _) _).drew.setCell (Nat.le_refl _) _).setCell (Nat.le_refl _) _
  · have hne : ∀ i, (⟨b, i, none⟩ : Addr) ≠ ⟨w.heap.size, 0, none⟩ := fun i e => by injection e; omega
    rw [World.cell?_setCell_other _ _ _ _ (hne _), World.cell?_setCell_other _ _ _ _ (hne _)]
    refine (World.cell?_setCell_other _ ⟨b, 4, none⟩ ⟨w.heap.size, 0, none⟩ _ (hne _)).trans ?_
    refine (hb.cell (p := ⟨w.heap.size, 0, none⟩) (by simp)).trans ?_
    exact World.cell?_setCell_other _ ⟨b, 2, none⟩ ⟨w.heap.size, 0, none⟩ _ (hne _)
/-- list of a fresh lexicon. -/
def LisQ (b n : Nat) (k : Int) (L : List (List UInt8)) (w : World) (e : Ending) (w' : World) : Prop := ∃ A, e = .returned (.slice A n n) ∧ Laid b k A n L w' ∧ Below b w w' ∧ w.heap.size < w'.heap.size
def fstV (k : Int) : Int := if k = 3 then 0 else 1
def lstV (k : Int) : Int := if k = 2 ∨ k = 3 then 3 else 1
end Wrd
end Go.Proofs.YthefgagmjamdkaaDoor
