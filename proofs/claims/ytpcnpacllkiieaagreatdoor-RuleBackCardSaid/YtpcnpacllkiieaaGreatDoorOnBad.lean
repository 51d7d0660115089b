/-
  Package onform: the waking call of its laws; OnBad: the law answers true at every number, in whatever world that holds the tables.
-/
import Derived.Test.YtpcnpacllkiieaaGreatDoorOnf2
namespace Go.Proofs.YtpcnpacllkiieaaGreatDoor
open Go.RowKit
namespace Onf
open Sol Wrd
theorem wk7_1 : onP [108, 97, 115, 116, 115, 117, 110, 100, 97, 121] = (2, 0, 0, 0) := by decide +kernel
theorem wk7_3 : onP [83, 117, 110, 61, 62, 56] = (0, 0, 0, 8) := by decide +kernel
theorem wk7_2 : onT 3 6 8 = [83, 97, 116, 62, 61, 56] ∧ Wk.chE 3 6 8 = 0 := by
  refine ⟨?_, by decide +kernel⟩
  have k1 : textL 8 0 = [56] := by rw [textL, if_neg (by decide), if_pos (by decide), show (8 : Int).toNat = 8 from rfl, Lib.decDigits, dif_pos (by decide)]; rfl
  rw [onT, if_pos (by decide +kernel), if_neg (by decide), if_pos rfl, k1]
  decide +kernel
/-- A form that a call has laid at g. -/
def On3 (g : Nat) (a b c : Int) (w : World) : Prop := g < w.heap.size ∧ w.cell? ⟨g, 0, none⟩ = some (.int .i64 a) ∧ w.cell? ⟨g, 1, none⟩ = some (.int .i64 b) ∧ w.cell? ⟨g, 2, none⟩ = some (.int .i64 c)
theorem On3.new (w : World) (t : TypeId) (a b c : Int) : On3 w.heap.size a b c (w.alloc (Obj.cells #[.int .i64 a, .int .i64 b, .int .i64 c] t)) := by
  refine ⟨by simp, ?_, ?_, ?_⟩ <;> go_simp
theorem On3.below {g : Nat} {a b c : Int} {w w' : World} (h : On3 g a b c w) (hb : Below w.heap.size w w') : On3 g a b c w' := by
  obtain ⟨a0, a1, a2, a3⟩ := h
  have c := fun i => hb.cell (p := ⟨g, i, none⟩) a0
  exact ⟨Nat.lt_of_lt_of_le a0 hb.size, (c 0).trans a1, (c 1).trans a2, (c 2).trans a3⟩
def badT : Nat → List UInt8 := fun k => ([[], [48], [51, 50], [83, 117, 62, 61, 56], [108, 97, 115, 116, 83, 117], [108, 97, 115, 116], [83, 117, 110, 62, 61], [83, 117, 110, 62, 61, 48], [83, 117, 110, 62, 61, 51, 50], [83, 117, 110, 62, 56], [83, 117, 110, 60, 61, 48, 48, 56], [49, 50, 51], [45, 49], [83, 117, 110, 62, 61, 32, 56], [62, 61, 56], [108, 97, 115, 116, 83, 117, 110, 62, 61, 56], [56, 83, 117, 110]] : List (List UInt8)).getD k []
theorem bad_all : ∀ k < 17, onP (badT k) = (0, 0, 0, 8) ∧ (badT k).length ≤ 20 := by decide +kernel
theorem bad_good : onP [115, 85, 78, 100, 97, 121, 60, 61, 48, 55] = (4, 0, 7, 0) := by decide +kernel
theorem u17 (x : Int) : ∃ k : Nat, (IntKind.u64.wrap x).tmod 17 = (k : Int) ∧ k < 17 := by
  have h1 := Int.tmod_nonneg 17 (show 0 ≤ IntKind.u64.wrap x by rw [IntKind.wrap_u64]; omega)
  have h2 := Int.tmod_lt_of_pos (IntKind.u64.wrap x) (show (0 : Int) < 17 by omega)
  exact ⟨((IntKind.u64.wrap x).tmod 17).toNat, by omega, by omega⟩
end Onf
end Go.Proofs.YtpcnpacllkiieaaGreatDoor
