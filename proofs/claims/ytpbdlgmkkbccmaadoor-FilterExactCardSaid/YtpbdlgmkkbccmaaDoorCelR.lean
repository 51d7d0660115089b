/-
  The cells of a block, all at once: a struct's load and store as one step each (no cell by itself).
-/
import Derived.Test.YtpbdlgmkkbccmaaDoorCel
import Derived.Deep.MidRow
namespace Go.Proofs.YtpbdlgmkkbccmaaDoor
open Go.RowKit
namespace Cel
theorem Cs.there {g : Nat} {w : World} {vs : List Value} (h : Cs g w vs) : w.there g 0 vs.length := fun j hj => by
  have := h.2 j _ (List.getElem?_eq_getElem hj)
  rw [Nat.zero_add]
  exact ⟨by rw [this.1]; rfl, this.2⟩
theorem Cs.range {g : Nat} {w : World} {vs : List Value} (h : Cs g w vs) : w.rangeAt g 0 vs := fun j v hj => by
  rw [Nat.zero_add]
  exact (h.2 j v hj).1
theorem size_setCells (b : Nat) : ∀ (vs : List Value) (o : Nat) (w : World), (w.setCells b o vs).heap.size = w.heap.size
  | [], _, _ => rfl
  | v :: r, o, w => by rw [World.setCells, size_setCells b r (o + 1)]; simp [World.setCell]
theorem below_setCells {n b : Nat} {w0 : World} (hb : n ≤ b) : ∀ (vs : List Value) (o : Nat) (w : World), Below n w0 w → Below n w0 (w.setCells b o vs)
  | [], _, _, h => h
  | v :: r, o, w, h => by
    rw [World.setCells]
    exact below_setCells hb r (o + 1) _ (h.setCell hb v)
theorem Cs.row {g : Nat} {w : World} {vs : List Value} (h : Cs g w vs) (us : List Value) (hl : us.length = vs.length) : Cs g (w.setCells g 0 us) us := by
  refine ⟨by rw [size_setCells]; exact h.1, fun j v hj => ?_⟩
  have hj' : j < us.length := (List.getElem?_eq_some_iff.1 hj).1
  have ht := h.there
  rw [World.frozen?_setCells]
  refine ⟨?_, (h.2 j _ (List.getElem?_eq_getElem (by omega))).2⟩
  have := World.rangeAt_setCells_same w g 0 us (by rw [hl]; exact ht) j v hj
  rwa [Nat.zero_add] at this
theorem Cs.rowOther {g b o : Nat} {w : World} {vs : List Value} (h : Cs g w vs) (hne : b ≠ g) (us : List Value) : Cs g (w.setCells b o us) vs := by
  refine ⟨by rw [size_setCells]; exact h.1, fun j v hj => ?_⟩
  rw [World.frozen?_setCells, World.cell?_setCells_out b us o w _ (fun e => absurd e.symm hne)]
  exact h.2 j v hj
theorem Cs.store {P : Program} {g ty : Nat} {w : World} {vs : List Value} (h : Cs g w vs) (us : List Value) (hl : us.length = vs.length) (hi : (P.info? ty).map (·.size) = some us.length) (h1 : us.toArray.all (·.oneCell') = true) :
    (Instr.storeAt ty (.pointer (some ⟨g, 0, none⟩)) (.agg us.toArray)).run P w = .ok () (w.setCells g 0 us) :=
  run_storeAt_mid w g 0 ty us.toArray (by have := h.there; rw [← hl] at this; exact this) hi h1
theorem Cs.load {P : Program} {g ty : Nat} {w : World} {vs : List Value} (h : Cs g w vs) (d : TypeDesc) (hu : P.underlying ty = some d) (hd : d.isRow = true) (hi : (P.info? ty).map (·.size) = some vs.length) :
    (Instr.loadAt ty (.pointer (some ⟨g, 0, none⟩))).run P w = .ok (.agg vs.toArray) w :=
  run_loadAt_mid w g 0 ty vs d h.range hu hd hi
end Cel
end Go.Proofs.YtpbdlgmkkbccmaaDoor
