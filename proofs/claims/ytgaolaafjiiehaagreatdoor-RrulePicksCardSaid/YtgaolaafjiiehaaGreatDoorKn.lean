/-
  A rule's block: its load and store as one step each.
-/
import Derived.Test.YtgaolaafjiiehaaGreatDoorBdCl
import Derived.WalkKit
namespace Go.Proofs.YtgaolaafjiiehaaGreatDoor
open Go.RowKit
namespace Rct
open Cel
theorem cs_at {g : Nat} {w : World} (hg : g = w.heap.size) (vs : List Value) (t : TypeId) : Cs g (w.alloc (Obj.cells vs.toArray t)) vs := by subst hg; exact Cs.new w vs t
/-- A struct's load out of a known block, in one step, guarded or not. -/
theorem kn_load {ops : Array Oper} {rest : List Oper} {op : Oper} {a : Act} {w : World} {Q : Exit → Act → World → Prop} {g : Nat} {x : Operand} {vs : List Value} (C : Cs g w vs) (hv : vs.length = 16) (ho : op.op = .load 25 x)
    (hw : Region.wanted op (yielded ops a.tmps) = true) (hx : a.eval x = .pointer (some ⟨g, 0, none⟩)) (h : ∀ K : Act → World → Prop, (∀ a w, wpList Tryz.prog ops Q rest a w → K a w) → K (a.put op.dst (.agg vs.toArray)) w) : wpList Tryz.prog ops Q (op :: rest) a w :=
  wpList_step fun K hK => by rw [if_pos hw]; exact wp_load_mid _ x ho g 0 hx vs _ C.range Tryz.underlying25 rfl (by rw [hv]; kernel_rfl) (h K hK)
/-- A struct's store into a known block, in one step. -/
theorem kn_store {ops : Array Oper} {rest : List Oper} {op : Oper} {a : Act} {w : World} {Q : Exit → Act → World → Prop} {g : Nat} {x y : Operand} {vs us : List Value} (C : Cs g w vs) (hv : vs.length = 16) (hu : us.length = 16) (h1 : us.toArray.all (·.oneCell') = true) (ho : op.op = .store 25 x y)
    (hw : Region.wanted op (yielded ops a.tmps) = true) (hx : a.eval x = .pointer (some ⟨g, 0, none⟩)) (hy : a.eval y = .agg us.toArray) (h : ∀ K : Act → World → Prop, (∀ a w, wpList Tryz.prog ops Q rest a w → K a w) → K (a.put op.dst undef) (w.setCells g 0 us)) : wpList Tryz.prog ops Q (op :: rest) a w :=
  wpList_step fun K hK => by
    rw [if_pos hw]
    have ht := C.there
    rw [hv] at ht
    exact wp_store_mid _ x y ho g 0 us.toArray hx hy (by rw [List.size_toArray, hu]; exact ht) (by rw [List.size_toArray, hu]; kernel_rfl) h1 (h K hK)
end Rct
end Go.Proofs.YtgaolaafjiiehaaGreatDoor
