/-
  The cells of a block that a call has laid: what they hold, and that they may be written.
-/
import Derived.Test.YtpbdlgmkkbccmaaDoorRows
import Derived.WalkKit
import Derived.Below
import Derived.Lib.Hide
import Derived.Deep.Draws
namespace Go.Proofs.YtpbdlgmkkbccmaaDoor
open Go.RowKit
namespace Cel
def Cs (g : Nat) (w : World) (vs : List Value) : Prop := g < w.heap.size ∧ ∀ i v, vs[i]? = some v → w.cell? ⟨g, i, none⟩ = some v ∧ w.frozen? ⟨g, i, none⟩ = false
theorem Cs.new (w : World) (vs : List Value) (t : TypeId) : Cs w.heap.size (w.alloc (Obj.cells vs.toArray t)) vs := by
  refine ⟨by simp, fun i v h => ⟨?_, ?_⟩⟩
  · rw [World.cell?_alloc_at _ _ _ _ rfl]
    simpa using h
  · go_simp
theorem Cs.below {g : Nat} {w w' : World} {vs : List Value} (h : Cs g w vs) (hb : Below w.heap.size w w') : Cs g w' vs :=
  ⟨Nat.lt_of_lt_of_le h.1 hb.size, fun i v hi => ⟨(hb.cell (p := ⟨g, i, none⟩) h.1).trans (h.2 i v hi).1, (hb.frozen (p := ⟨g, i, none⟩) h.1).trans (h.2 i v hi).2⟩⟩
theorem Cs.set {g : Nat} {w : World} {vs : List Value} (h : Cs g w vs) (i : Nat) (hi : i < vs.length) (x : Value) : Cs g (w.setCell ⟨g, i, none⟩ x) (vs.set i x) := by
  have h0 := h.2 i vs[i] (List.getElem?_eq_getElem hi)
  refine ⟨by have := h.1; simpa [World.setCell] using this, fun j v hj => ?_⟩
  by_cases e : j = i
  · subst e
    rw [List.getElem?_set_self hi] at hj
    injection hj with hj
    subst hj
    exact ⟨World.cell?_setCell_same _ _ _ h0.1, by rw [World.frozen?_setCell]; exact h0.2⟩
  · rw [List.getElem?_set_ne (fun k => e k.symm)] at hj
    exact ⟨(World.cell?_setCell_other _ _ _ _ (fun k => by injection k with _ k _; exact e k.symm)).trans (h.2 j v hj).1, by rw [World.frozen?_setCell]; exact (h.2 j v hj).2⟩
theorem Cs.other {g b i : Nat} {w : World} {vs : List Value} (h : Cs g w vs) (hne : b ≠ g) (x : Value) : Cs g (w.setCell ⟨b, i, none⟩ x) vs :=
  ⟨by have := h.1; simpa [World.setCell] using this, fun j v hj => ⟨(World.cell?_setCell_other _ _ _ _ (fun k => by injection k with k _ _; exact hne k)).trans (h.2 j v hj).1, by rw [World.frozen?_setCell]; exact (h.2 j v hj).2⟩⟩
theorem Cs.alloc {g : Nat} {w : World} {vs : List Value} (h : Cs g w vs) (o : Obj) : Cs g (w.alloc o) vs := h.below ((Below.refl _ _).alloc (Nat.le_refl _) o)
theorem Cs.drewN {g : Nat} {w : World} {vs : List Value} (h : Cs g w vs) (n : Nat) : Cs g (w.drewN n) vs := h.below ⟨rfl, rfl, rfl, Nat.le_refl _, fun _ _ => rfl⟩
theorem bstep {w a b : World} (h : Below w.heap.size w a) (k : Below a.heap.size a b) : Below w.heap.size w b := h.trans (k.mono h.size)
end Cel
end Go.Proofs.YtpbdlgmkkbccmaaDoor
