/-
  Contracts of package encode: On, seven days of the month: the world at its loop. (Written by gen/gen_encs.py.)
-/
import Derived.Test.YtklanblifjgppaaDoorEncD
import Derived.Laws.OwnMore
import Derived.Deep.AppendLies
namespace Go.Proofs.YtklanblifjgppaaDoor
open Go.RowKit
namespace Enc
open Wk
/-- A world that keeps another one's cells, but for one slot of a block. -/
def Keep (R : Nat) (w0 wr : World) : Prop := (∀ p : Addr, p.block < w0.heap.size → (p.block ≠ R ∨ p.off ≠ 10) → wr.cell? p = w0.cell? p) ∧ (∀ p : Addr, p.block < w0.heap.size → wr.frozen? p = w0.frozen? p) ∧ w0.heap.size ≤ wr.heap.size
theorem Keep.refl (R : Nat) (w : World) : Keep R w w := ⟨fun _ _ _ => rfl, fun _ _ => rfl, Nat.le_refl _⟩
theorem Keep.alloc {R : Nat} {w0 wr : World} (h : Keep R w0 wr) (o : Obj) : Keep R w0 (wr.alloc o) :=
  ⟨fun p hp hn => (World.cell?_alloc_lt wr o p (Nat.lt_of_lt_of_le hp h.2.2)).trans (h.1 p hp hn), fun p hp => (World.frozen?_alloc_old wr o p (by have := h.2.2; omega)).trans (h.2.1 p hp), by have := h.2.2; simp; omega⟩
theorem Keep.grown {R : Nat} {w0 wr w' : World} {row : Option Nat} (h : Keep R w0 wr) (hg : wr.grownBy w' row) (hr : ∀ k, row = some k → w0.heap.size ≤ k) : Keep R w0 w' :=
  ⟨fun p hp hn => (hg.cell_far p (Nat.lt_of_lt_of_le hp h.2.2) (fun e => by have := hr _ e.symm; omega)).trans (h.1 p hp hn), fun p hp => (hg.frozen_far p (Nat.lt_of_lt_of_le hp h.2.2) (fun e => by have := hr _ e.symm; omega)).trans (h.2.1 p hp), Nat.le_trans h.2.2 hg.size⟩
theorem Keep.set {R : Nat} {w0 wr : World} (h : Keep R w0 wr) (v : Value) : Keep R w0 (wr.setCell ⟨R, 10, none⟩ v) :=
  ⟨fun p hp hn => (World.cell?_setCell_other _ _ _ _ (fun e => by subst e; simp at hn)).trans (h.1 p hp hn), fun p hp => (World.frozen?_setCell _ _ _ _).trans (h.2.1 p hp), by have := h.2.2; simpa using this⟩
/-- What a rule is that On tells: its numbers, its lists. -/
def RecQ (r : Value) : Prop := ∃ (f i k : Int) (pd : Option Addr) (nd cd : Nat) (pm : Option Addr) (nm cm : Nat) (po : Option Addr) (no co : Nat), r = .agg #[.int .i64 f, .int .i64 i, .int .i64 0, .bool false, .int .i64 0, .bool false, .slice none 0 0, .slice none 0 0, .slice none 0 0, .slice pd nd cd, .slice pm nm cm, .slice none 0 0, .slice none 0 0, .slice po no co, .slice none 0 0, .int .i64 k]
theorem i3 : (Tryd.prog.info? 3).map (fun i => (i.zero, i.size, i.bytes)) = some (some (.int .i64 0), 1, 8) := by kernel_rfl
set_option maxHeartbeats 3200000 in
theorem sev_c (w W0 : World) (month k v d M : Int) (q : Nat) (hW0 : (((((((w.alloc (Obj.cells #[.int .i64 k, .int .i64 v, .int .i64 d] 37)).alloc (Obj.cells #[.int .i64 0, .int .i64 0, .int .i64 0, .bool false, .int .i64 0, .bool false, .slice none 0 0, .slice none 0 0, .slice none 0 0, .slice none 0 0, .slice none 0 0, .slice none 0 0, .slice none 0 0, .slice none 0 0, .slice none 0 0, .int .i64 0] 42)).alloc (Obj.cells #[.int .i64 k, .int .i64 v, .int .i64 d] 37)).alloc (Obj.cells #[.int .i64 month] 3)).alloc (Obj.cells #[.int .i64 7, .int .i64 1, .int .i64 0, .bool false, .int .i64 0, .bool false, .slice none 0 0, .slice none 0 0, .slice none 0 0, .slice none 0 0, .slice none 0 0, .slice none 0 0, .slice none 0 0, .slice (some ⟨w.heap.size + 1 + 1 + 1, 0, none⟩) 1 1, .slice none 0 0, .int .i64 1] 42)).alloc (Obj.cells #[.int .i64 k, .int .i64 v, .int .i64 d] 37)).drewN q).alloc (Obj.cells #[.int .i64 0, .int .i64 ((v + M) % 7)] 66) = W0) :
    W0.cell? ⟨w.heap.size + 1 + 1 + 1 + 1, 0, none⟩ = some (.int .i64 7) ∧
    W0.cell? ⟨w.heap.size + 1 + 1 + 1 + 1, 1, none⟩ = some (.int .i64 1) ∧
    W0.cell? ⟨w.heap.size + 1 + 1 + 1 + 1, 2, none⟩ = some (.int .i64 0) ∧
    W0.cell? ⟨w.heap.size + 1 + 1 + 1 + 1, 3, none⟩ = some (.bool false) ∧
    W0.cell? ⟨w.heap.size + 1 + 1 + 1 + 1, 4, none⟩ = some (.int .i64 0) ∧
    W0.cell? ⟨w.heap.size + 1 + 1 + 1 + 1, 5, none⟩ = some (.bool false) ∧
    W0.cell? ⟨w.heap.size + 1 + 1 + 1 + 1, 6, none⟩ = some (.slice none 0 0) ∧
    W0.cell? ⟨w.heap.size + 1 + 1 + 1 + 1, 7, none⟩ = some (.slice none 0 0) ∧
    W0.cell? ⟨w.heap.size + 1 + 1 + 1 + 1, 8, none⟩ = some (.slice none 0 0) ∧
    W0.cell? ⟨w.heap.size + 1 + 1 + 1 + 1, 9, none⟩ = some (.slice none 0 0) ∧
    W0.cell? ⟨w.heap.size + 1 + 1 + 1 + 1, 10, none⟩ = some (.slice none 0 0) ∧
    W0.cell? ⟨w.heap.size + 1 + 1 + 1 + 1, 11, none⟩ = some (.slice none 0 0) ∧
    W0.cell? ⟨w.heap.size + 1 + 1 + 1 + 1, 12, none⟩ = some (.slice none 0 0) ∧
    W0.cell? ⟨w.heap.size + 1 + 1 + 1 + 1, 13, none⟩ = some (.slice (some ⟨w.heap.size + 1 + 1 + 1, 0, none⟩) 1 1) ∧
    W0.cell? ⟨w.heap.size + 1 + 1 + 1 + 1, 14, none⟩ = some (.slice none 0 0) ∧
    W0.cell? ⟨w.heap.size + 1 + 1 + 1 + 1, 15, none⟩ = some (.int .i64 1) := by
  subst hW0
  have l0_1 : w.heap.size < w.heap.size + 1 := by omega
  have n0_1 : w.heap.size ≠ w.heap.size + 1 := by omega
  have m0_1 : w.heap.size + 1 ≠ w.heap.size := by omega
  have l0_2 : w.heap.size < w.heap.size + 1 + 1 := by omega
  have n0_2 : w.heap.size ≠ w.heap.size + 1 + 1 := by omega
  have m0_2 : w.heap.size + 1 + 1 ≠ w.heap.size := by omega
  have l0_3 : w.heap.size < w.heap.size + 1 + 1 + 1 := by omega
  have n0_3 : w.heap.size ≠ w.heap.size + 1 + 1 + 1 := by omega
  have m0_3 : w.heap.size + 1 + 1 + 1 ≠ w.heap.size := by omega
  have l0_4 : w.heap.size < w.heap.size + 1 + 1 + 1 + 1 := by omega
  have n0_4 : w.heap.size ≠ w.heap.size + 1 + 1 + 1 + 1 := by omega
  have m0_4 : w.heap.size + 1 + 1 + 1 + 1 ≠ w.heap.size := by omega
  have l0_5 : w.heap.size < w.heap.size + 1 + 1 + 1 + 1 + 1 := by omega
  have n0_5 : w.heap.size ≠ w.heap.size + 1 + 1 + 1 + 1 + 1 := by omega
  have m0_5 : w.heap.size + 1 + 1 + 1 + 1 + 1 ≠ w.heap.size := by omega
  have l0_6 : w.heap.size < w.heap.size + 1 + 1 + 1 + 1 + 1 + 1 := by omega
  have n0_6 : w.heap.size ≠ w.heap.size + 1 + 1 + 1 + 1 + 1 + 1 := by omega
  have m0_6 : w.heap.size + 1 + 1 + 1 + 1 + 1 + 1 ≠ w.heap.size := by omega
  have l0_7 : w.heap.size < w.heap.size + 1 + 1 + 1 + 1 + 1 + 1 + 1 := by omega
  have n0_7 : w.heap.size ≠ w.heap.size + 1 + 1 + 1 + 1 + 1 + 1 + 1 := by omega
  have m0_7 : w.heap.size + 1 + 1 + 1 + 1 + 1 + 1 + 1 ≠ w.heap.size := by omega
  have l1_2 : w.heap.size + 1 < w.heap.size + 1 + 1 := by omega
  have n1_2 : w.heap.size + 1 ≠ w.heap.size + 1 + 1 := by omega
  have m1_2 : w.heap.size + 1 + 1 ≠ w.heap.size + 1 := by omega
  have l1_3 : w.heap.size + 1 < w.heap.size + 1 + 1 + 1 := by omega
  have n1_3 : w.heap.size + 1 ≠ w.heap.size + 1 + 1 + 1 := by omega
  have m1_3 : w.heap.size + 1 + 1 + 1 ≠ w.heap.size + 1 := by omega
  have l1_4 : w.heap.size + 1 < w.heap.size + 1 + 1 + 1 + 1 := by omega
  have n1_4 : w.heap.size + 1 ≠ w.heap.size + 1 + 1 + 1 + 1 := by omega
  have m1_4 : w.heap.size + 1 + 1 + 1 + 1 ≠ w.heap.size + 1 := by omega
  have l1_5 : w.heap.size + 1 < w.heap.size + 1 + 1 + 1 + 1 + 1 := by omega
  have n1_5 : w.heap.size + 1 ≠ w.heap.size + 1 + 1 + 1 + 1 + 1 := by omega
  have m1_5 : w.heap.size + 1 + 1 + 1 + 1 + 1 ≠ w.heap.size + 1 := by omega
  have l1_6 : w.heap.size + 1 < w.heap.size + 1 + 1 + 1 + 1 + 1 + 1 := by omega
  have n1_6 : w.heap.size + 1 ≠ w.heap.size + 1 + 1 + 1 + 1 + 1 + 1 := by omega
  have m1_6 : w.heap.size + 1 + 1 + 1 + 1 + 1 + 1 ≠ w.heap.size + 1 := by omega
  have l1_7 : w.heap.size + 1 < w.heap.size + 1 + 1 + 1 + 1 + 1 + 1 + 1 := by omega
  have n1_7 : w.heap.size + 1 ≠ w.heap.size + 1 + 1 + 1 + 1 + 1 + 1 + 1 := by omega
  have m1_7 : w.heap.size + 1 + 1 + 1 + 1 + 1 + 1 + 1 ≠ w.heap.size + 1 := by omega
  have l4_5 : w.heap.size + 1 + 1 + 1 + 1 < w.heap.size + 1 + 1 + 1 + 1 + 1 := by omega
  have n4_5 : w.heap.size + 1 + 1 + 1 + 1 ≠ w.heap.size + 1 + 1 + 1 + 1 + 1 := by omega
  have m4_5 : w.heap.size + 1 + 1 + 1 + 1 + 1 ≠ w.heap.size + 1 + 1 + 1 + 1 := by omega
  have l4_6 : w.heap.size + 1 + 1 + 1 + 1 < w.heap.size + 1 + 1 + 1 + 1 + 1 + 1 := by omega
  have n4_6 : w.heap.size + 1 + 1 + 1 + 1 ≠ w.heap.size + 1 + 1 + 1 + 1 + 1 + 1 := by omega
  have m4_6 : w.heap.size + 1 + 1 + 1 + 1 + 1 + 1 ≠ w.heap.size + 1 + 1 + 1 + 1 := by omega
  have l4_7 : w.heap.size + 1 + 1 + 1 + 1 < w.heap.size + 1 + 1 + 1 + 1 + 1 + 1 + 1 := by omega
  have n4_7 : w.heap.size + 1 + 1 + 1 + 1 ≠ w.heap.size + 1 + 1 + 1 + 1 + 1 + 1 + 1 := by omega
  have m4_7 : w.heap.size + 1 + 1 + 1 + 1 + 1 + 1 + 1 ≠ w.heap.size + 1 + 1 + 1 + 1 := by omega
  have l6_7 : w.heap.size + 1 + 1 + 1 + 1 + 1 + 1 < w.heap.size + 1 + 1 + 1 + 1 + 1 + 1 + 1 := by omega
  have n6_7 : w.heap.size + 1 + 1 + 1 + 1 + 1 + 1 ≠ w.heap.size + 1 + 1 + 1 + 1 + 1 + 1 + 1 := by omega
  have m6_7 : w.heap.size + 1 + 1 + 1 + 1 + 1 + 1 + 1 ≠ w.heap.size + 1 + 1 + 1 + 1 + 1 + 1 := by omega
  refine ⟨?_, ?_, ?_, ?_, ?_, ?_, ?_, ?_, ?_, ?_, ?_, ?_, ?_, ?_, ?_, ?_⟩ <;> go_simp
set_option maxHeartbeats 3200000 in
theorem sev_z (w W0 : World) (month k v d M : Int) (q : Nat) (hW0 : (((((((w.alloc (Obj.cells #[.int .i64 k, .int .i64 v, .int .i64 d] 37)).alloc (Obj.cells #[.int .i64 0, .int .i64 0, .int .i64 0, .bool false, .int .i64 0, .bool false, .slice none 0 0, .slice none 0 0, .slice none 0 0, .slice none 0 0, .slice none 0 0, .slice none 0 0, .slice none 0 0, .slice none 0 0, .slice none 0 0, .int .i64 0] 42)).alloc (Obj.cells #[.int .i64 k, .int .i64 v, .int .i64 d] 37)).alloc (Obj.cells #[.int .i64 month] 3)).alloc (Obj.cells #[.int .i64 7, .int .i64 1, .int .i64 0, .bool false, .int .i64 0, .bool false, .slice none 0 0, .slice none 0 0, .slice none 0 0, .slice none 0 0, .slice none 0 0, .slice none 0 0, .slice none 0 0, .slice (some ⟨w.heap.size + 1 + 1 + 1, 0, none⟩) 1 1, .slice none 0 0, .int .i64 1] 42)).alloc (Obj.cells #[.int .i64 k, .int .i64 v, .int .i64 d] 37)).drewN q).alloc (Obj.cells #[.int .i64 0, .int .i64 ((v + M) % 7)] 66) = W0) :
    W0.cell? ⟨w.heap.size + 1, 0, none⟩ = some (.int .i64 0) ∧
    W0.cell? ⟨w.heap.size + 1, 1, none⟩ = some (.int .i64 0) ∧
    W0.cell? ⟨w.heap.size + 1, 2, none⟩ = some (.int .i64 0) ∧
    W0.cell? ⟨w.heap.size + 1, 3, none⟩ = some (.bool false) ∧
    W0.cell? ⟨w.heap.size + 1, 4, none⟩ = some (.int .i64 0) ∧
    W0.cell? ⟨w.heap.size + 1, 5, none⟩ = some (.bool false) ∧
    W0.cell? ⟨w.heap.size + 1, 6, none⟩ = some (.slice none 0 0) ∧
    W0.cell? ⟨w.heap.size + 1, 7, none⟩ = some (.slice none 0 0) ∧
    W0.cell? ⟨w.heap.size + 1, 8, none⟩ = some (.slice none 0 0) ∧
    W0.cell? ⟨w.heap.size + 1, 9, none⟩ = some (.slice none 0 0) ∧
    W0.cell? ⟨w.heap.size + 1, 10, none⟩ = some (.slice none 0 0) ∧
    W0.cell? ⟨w.heap.size + 1, 11, none⟩ = some (.slice none 0 0) ∧
    W0.cell? ⟨w.heap.size + 1, 12, none⟩ = some (.slice none 0 0) ∧
    W0.cell? ⟨w.heap.size + 1, 13, none⟩ = some (.slice none 0 0) ∧
    W0.cell? ⟨w.heap.size + 1, 14, none⟩ = some (.slice none 0 0) ∧
    W0.cell? ⟨w.heap.size + 1, 15, none⟩ = some (.int .i64 0) := by
  subst hW0
  have l0_1 : w.heap.size < w.heap.size + 1 := by omega
  have n0_1 : w.heap.size ≠ w.heap.size + 1 := by omega
  have m0_1 : w.heap.size + 1 ≠ w.heap.size := by omega
  have l0_2 : w.heap.size < w.heap.size + 1 + 1 := by omega
  have n0_2 : w.heap.size ≠ w.heap.size + 1 + 1 := by omega
  have m0_2 : w.heap.size + 1 + 1 ≠ w.heap.size := by omega
  have l0_3 : w.heap.size < w.heap.size + 1 + 1 + 1 := by omega
  have n0_3 : w.heap.size ≠ w.heap.size + 1 + 1 + 1 := by omega
  have m0_3 : w.heap.size + 1 + 1 + 1 ≠ w.heap.size := by omega
  have l0_4 : w.heap.size < w.heap.size + 1 + 1 + 1 + 1 := by omega
  have n0_4 : w.heap.size ≠ w.heap.size + 1 + 1 + 1 + 1 := by omega
  have m0_4 : w.heap.size + 1 + 1 + 1 + 1 ≠ w.heap.size := by omega
  have l0_5 : w.heap.size < w.heap.size + 1 + 1 + 1 + 1 + 1 := by omega
  have n0_5 : w.heap.size ≠ w.heap.size + 1 + 1 + 1 + 1 + 1 := by omega
  have m0_5 : w.heap.size + 1 + 1 + 1 + 1 + 1 ≠ w.heap.size := by omega
  have l0_6 : w.heap.size < w.heap.size + 1 + 1 + 1 + 1 + 1 + 1 := by omega
  have n0_6 : w.heap.size ≠ w.heap.size + 1 + 1 + 1 + 1 + 1 + 1 := by omega
  have m0_6 : w.heap.size + 1 + 1 + 1 + 1 + 1 + 1 ≠ w.heap.size := by omega
  have l0_7 : w.heap.size < w.heap.size + 1 + 1 + 1 + 1 + 1 + 1 + 1 := by omega
  have n0_7 : w.heap.size ≠ w.heap.size + 1 + 1 + 1 + 1 + 1 + 1 + 1 := by omega
  have m0_7 : w.heap.size + 1 + 1 + 1 + 1 + 1 + 1 + 1 ≠ w.heap.size := by omega
  have l1_2 : w.heap.size + 1 < w.heap.size + 1 + 1 := by omega
  have n1_2 : w.heap.size + 1 ≠ w.heap.size + 1 + 1 := by omega
  have m1_2 : w.heap.size + 1 + 1 ≠ w.heap.size + 1 := by omega
  have l1_3 : w.heap.size + 1 < w.heap.size + 1 + 1 + 1 := by omega
  have n1_3 : w.heap.size + 1 ≠ w.heap.size + 1 + 1 + 1 := by omega
  have m1_3 : w.heap.size + 1 + 1 + 1 ≠ w.heap.size + 1 := by omega
  have l1_4 : w.heap.size + 1 < w.heap.size + 1 + 1 + 1 + 1 := by omega
  have n1_4 : w.heap.size + 1 ≠ w.heap.size + 1 + 1 + 1 + 1 := by omega
  have m1_4 : w.heap.size + 1 + 1 + 1 + 1 ≠ w.heap.size + 1 := by omega
  have l1_5 : w.heap.size + 1 < w.heap.size + 1 + 1 + 1 + 1 + 1 := by omega
  have n1_5 : w.heap.size + 1 ≠ w.heap.size + 1 + 1 + 1 + 1 + 1 := by omega
  have m1_5 : w.heap.size + 1 + 1 + 1 + 1 + 1 ≠ w.heap.size + 1 := by omega
  have l1_6 : w.heap.size + 1 < w.heap.size + 1 + 1 + 1 + 1 + 1 + 1 := by omega
  have n1_6 : w.heap.size + 1 ≠ w.heap.size + 1 + 1 + 1 + 1 + 1 + 1 := by omega
  have m1_6 : w.heap.size + 1 + 1 + 1 + 1 + 1 + 1 ≠ w.heap.size + 1 := by omega
  have l1_7 : w.heap.size + 1 < w.heap.size + 1 + 1 + 1 + 1 + 1 + 1 + 1 := by omega
  have n1_7 : w.heap.size + 1 ≠ w.heap.size + 1 + 1 + 1 + 1 + 1 + 1 + 1 := by omega
  have m1_7 : w.heap.size + 1 + 1 + 1 + 1 + 1 + 1 + 1 ≠ w.heap.size + 1 := by omega
  have l4_5 : w.heap.size + 1 + 1 + 1 + 1 < w.heap.size + 1 + 1 + 1 + 1 + 1 := by omega
  have n4_5 : w.heap.size + 1 + 1 + 1 + 1 ≠ w.heap.size + 1 + 1 + 1 + 1 + 1 := by omega
  have m4_5 : w.heap.size + 1 + 1 + 1 + 1 + 1 ≠ w.heap.size + 1 + 1 + 1 + 1 := by omega
  have l4_6 : w.heap.size + 1 + 1 + 1 + 1 < w.heap.size + 1 + 1 + 1 + 1 + 1 + 1 := by omega
  have n4_6 : w.heap.size + 1 + 1 + 1 + 1 ≠ w.heap.size + 1 + 1 + 1 + 1 + 1 + 1 := by omega
  have m4_6 : w.heap.size + 1 + 1 + 1 + 1 + 1 + 1 ≠ w.heap.size + 1 + 1 + 1 + 1 := by omega
  have l4_7 : w.heap.size + 1 + 1 + 1 + 1 < w.heap.size + 1 + 1 + 1 + 1 + 1 + 1 + 1 := by omega
  have n4_7 : w.heap.size + 1 + 1 + 1 + 1 ≠ w.heap.size + 1 + 1 + 1 + 1 + 1 + 1 + 1 := by omega
  have m4_7 : w.heap.size + 1 + 1 + 1 + 1 + 1 + 1 + 1 ≠ w.heap.size + 1 + 1 + 1 + 1 := by omega
  have l6_7 : w.heap.size + 1 + 1 + 1 + 1 + 1 + 1 < w.heap.size + 1 + 1 + 1 + 1 + 1 + 1 + 1 := by omega
  have n6_7 : w.heap.size + 1 + 1 + 1 + 1 + 1 + 1 ≠ w.heap.size + 1 + 1 + 1 + 1 + 1 + 1 + 1 := by omega
  have m6_7 : w.heap.size + 1 + 1 + 1 + 1 + 1 + 1 + 1 ≠ w.heap.size + 1 + 1 + 1 + 1 + 1 + 1 := by omega
  refine ⟨?_, ?_, ?_, ?_, ?_, ?_, ?_, ?_, ?_, ?_, ?_, ?_, ?_, ?_, ?_, ?_⟩ <;> go_simp
set_option maxHeartbeats 3200000 in
theorem sev_y (w W0 : World) (month k v d M : Int) (q : Nat) (hW0 : (((((((w.alloc (Obj.cells #[.int .i64 k, .int .i64 v, .int .i64 d] 37)).alloc (Obj.cells #[.int .i64 0, .int .i64 0, .int .i64 0, .bool false, .int .i64 0, .bool false, .slice none 0 0, .slice none 0 0, .slice none 0 0, .slice none 0 0, .slice none 0 0, .slice none 0 0, .slice none 0 0, .slice none 0 0, .slice none 0 0, .int .i64 0] 42)).alloc (Obj.cells #[.int .i64 k, .int .i64 v, .int .i64 d] 37)).alloc (Obj.cells #[.int .i64 month] 3)).alloc (Obj.cells #[.int .i64 7, .int .i64 1, .int .i64 0, .bool false, .int .i64 0, .bool false, .slice none 0 0, .slice none 0 0, .slice none 0 0, .slice none 0 0, .slice none 0 0, .slice none 0 0, .slice none 0 0, .slice (some ⟨w.heap.size + 1 + 1 + 1, 0, none⟩) 1 1, .slice none 0 0, .int .i64 1] 42)).alloc (Obj.cells #[.int .i64 k, .int .i64 v, .int .i64 d] 37)).drewN q).alloc (Obj.cells #[.int .i64 0, .int .i64 ((v + M) % 7)] 66) = W0) :
    W0.frozen? ⟨w.heap.size + 1, 0, none⟩ = false ∧
    W0.frozen? ⟨w.heap.size + 1, 1, none⟩ = false ∧
    W0.frozen? ⟨w.heap.size + 1, 2, none⟩ = false ∧
    W0.frozen? ⟨w.heap.size + 1, 3, none⟩ = false ∧
    W0.frozen? ⟨w.heap.size + 1, 4, none⟩ = false ∧
    W0.frozen? ⟨w.heap.size + 1, 5, none⟩ = false ∧
    W0.frozen? ⟨w.heap.size + 1, 6, none⟩ = false ∧
    W0.frozen? ⟨w.heap.size + 1, 7, none⟩ = false ∧
    W0.frozen? ⟨w.heap.size + 1, 8, none⟩ = false ∧
    W0.frozen? ⟨w.heap.size + 1, 9, none⟩ = false ∧
    W0.frozen? ⟨w.heap.size + 1, 10, none⟩ = false ∧
    W0.frozen? ⟨w.heap.size + 1, 11, none⟩ = false ∧
    W0.frozen? ⟨w.heap.size + 1, 12, none⟩ = false ∧
    W0.frozen? ⟨w.heap.size + 1, 13, none⟩ = false ∧
    W0.frozen? ⟨w.heap.size + 1, 14, none⟩ = false ∧
    W0.frozen? ⟨w.heap.size + 1, 15, none⟩ = false := by
  subst hW0
  have l0_1 : w.heap.size < w.heap.size + 1 := by omega
  have n0_1 : w.heap.size ≠ w.heap.size + 1 := by omega
  have m0_1 : w.heap.size + 1 ≠ w.heap.size := by omega
  have l0_2 : w.heap.size < w.heap.size + 1 + 1 := by omega
  have n0_2 : w.heap.size ≠ w.heap.size + 1 + 1 := by omega
  have m0_2 : w.heap.size + 1 + 1 ≠ w.heap.size := by omega
  have l0_3 : w.heap.size < w.heap.size + 1 + 1 + 1 := by omega
  have n0_3 : w.heap.size ≠ w.heap.size + 1 + 1 + 1 := by omega
  have m0_3 : w.heap.size + 1 + 1 + 1 ≠ w.heap.size := by omega
  have l0_4 : w.heap.size < w.heap.size + 1 + 1 + 1 + 1 := by omega
  have n0_4 : w.heap.size ≠ w.heap.size + 1 + 1 + 1 + 1 := by omega
  have m0_4 : w.heap.size + 1 + 1 + 1 + 1 ≠ w.heap.size := by omega
  have l0_5 : w.heap.size < w.heap.size + 1 + 1 + 1 + 1 + 1 := by omega
  have n0_5 : w.heap.size ≠ w.heap.size + 1 + 1 + 1 + 1 + 1 := by omega
  have m0_5 : w.heap.size + 1 + 1 + 1 + 1 + 1 ≠ w.heap.size := by omega
  have l0_6 : w.heap.size < w.heap.size + 1 + 1 + 1 + 1 + 1 + 1 := by omega
  have n0_6 : w.heap.size ≠ w.heap.size + 1 + 1 + 1 + 1 + 1 + 1 := by omega
  have m0_6 : w.heap.size + 1 + 1 + 1 + 1 + 1 + 1 ≠ w.heap.size := by omega
  have l0_7 : w.heap.size < w.heap.size + 1 + 1 + 1 + 1 + 1 + 1 + 1 := by omega
  have n0_7 : w.heap.size ≠ w.heap.size + 1 + 1 + 1 + 1 + 1 + 1 + 1 := by omega
  have m0_7 : w.heap.size + 1 + 1 + 1 + 1 + 1 + 1 + 1 ≠ w.heap.size := by omega
  have l1_2 : w.heap.size + 1 < w.heap.size + 1 + 1 := by omega
  have n1_2 : w.heap.size + 1 ≠ w.heap.size + 1 + 1 := by omega
  have m1_2 : w.heap.size + 1 + 1 ≠ w.heap.size + 1 := by omega
  have l1_3 : w.heap.size + 1 < w.heap.size + 1 + 1 + 1 := by omega
  have n1_3 : w.heap.size + 1 ≠ w.heap.size + 1 + 1 + 1 := by omega
  have m1_3 : w.heap.size + 1 + 1 + 1 ≠ w.heap.size + 1 := by omega
  have l1_4 : w.heap.size + 1 < w.heap.size + 1 + 1 + 1 + 1 := by omega
  have n1_4 : w.heap.size + 1 ≠ w.heap.size + 1 + 1 + 1 + 1 := by omega
  have m1_4 : w.heap.size + 1 + 1 + 1 + 1 ≠ w.heap.size + 1 := by omega
  have l1_5 : w.heap.size + 1 < w.heap.size + 1 + 1 + 1 + 1 + 1 := by omega
  have n1_5 : w.heap.size + 1 ≠ w.heap.size + 1 + 1 + 1 + 1 + 1 := by omega
  have m1_5 : w.heap.size + 1 + 1 + 1 + 1 + 1 ≠ w.heap.size + 1 := by omega
  have l1_6 : w.heap.size + 1 < w.heap.size + 1 + 1 + 1 + 1 + 1 + 1 := by omega
  have n1_6 : w.heap.size + 1 ≠ w.heap.size + 1 + 1 + 1 + 1 + 1 + 1 := by omega
  have m1_6 : w.heap.size + 1 + 1 + 1 + 1 + 1 + 1 ≠ w.heap.size + 1 := by omega
  have l1_7 : w.heap.size + 1 < w.heap.size + 1 + 1 + 1 + 1 + 1 + 1 + 1 := by omega
  have n1_7 : w.heap.size + 1 ≠ w.heap.size + 1 + 1 + 1 + 1 + 1 + 1 + 1 := by omega
  have m1_7 : w.heap.size + 1 + 1 + 1 + 1 + 1 + 1 + 1 ≠ w.heap.size + 1 := by omega
  have l4_5 : w.heap.size + 1 + 1 + 1 + 1 < w.heap.size + 1 + 1 + 1 + 1 + 1 := by omega
  have n4_5 : w.heap.size + 1 + 1 + 1 + 1 ≠ w.heap.size + 1 + 1 + 1 + 1 + 1 := by omega
  have m4_5 : w.heap.size + 1 + 1 + 1 + 1 + 1 ≠ w.heap.size + 1 + 1 + 1 + 1 := by omega
  have l4_6 : w.heap.size + 1 + 1 + 1 + 1 < w.heap.size + 1 + 1 + 1 + 1 + 1 + 1 := by omega
  have n4_6 : w.heap.size + 1 + 1 + 1 + 1 ≠ w.heap.size + 1 + 1 + 1 + 1 + 1 + 1 := by omega
  have m4_6 : w.heap.size + 1 + 1 + 1 + 1 + 1 + 1 ≠ w.heap.size + 1 + 1 + 1 + 1 := by omega
  have l4_7 : w.heap.size + 1 + 1 + 1 + 1 < w.heap.size + 1 + 1 + 1 + 1 + 1 + 1 + 1 := by omega
  have n4_7 : w.heap.size + 1 + 1 + 1 + 1 ≠ w.heap.size + 1 + 1 + 1 + 1 + 1 + 1 + 1 := by omega
  have m4_7 : w.heap.size + 1 + 1 + 1 + 1 + 1 + 1 + 1 ≠ w.heap.size + 1 + 1 + 1 + 1 := by omega
  have l6_7 : w.heap.size + 1 + 1 + 1 + 1 + 1 + 1 < w.heap.size + 1 + 1 + 1 + 1 + 1 + 1 + 1 := by omega
  have n6_7 : w.heap.size + 1 + 1 + 1 + 1 + 1 + 1 ≠ w.heap.size + 1 + 1 + 1 + 1 + 1 + 1 + 1 := by omega
  have m6_7 : w.heap.size + 1 + 1 + 1 + 1 + 1 + 1 + 1 ≠ w.heap.size + 1 + 1 + 1 + 1 + 1 + 1 := by omega
  refine ⟨?_, ?_, ?_, ?_, ?_, ?_, ?_, ?_, ?_, ?_, ?_, ?_, ?_, ?_, ?_, ?_⟩ <;> go_simp
set_option maxHeartbeats 3200000 in
theorem sev_u (w W0 : World) (month k v d M : Int) (q : Nat) (hW0 : (((((((w.alloc (Obj.cells #[.int .i64 k, .int .i64 v, .int .i64 d] 37)).alloc (Obj.cells #[.int .i64 0, .int .i64 0, .int .i64 0, .bool false, .int .i64 0, .bool false, .slice none 0 0, .slice none 0 0, .slice none 0 0, .slice none 0 0, .slice none 0 0, .slice none 0 0, .slice none 0 0, .slice none 0 0, .slice none 0 0, .int .i64 0] 42)).alloc (Obj.cells #[.int .i64 k, .int .i64 v, .int .i64 d] 37)).alloc (Obj.cells #[.int .i64 month] 3)).alloc (Obj.cells #[.int .i64 7, .int .i64 1, .int .i64 0, .bool false, .int .i64 0, .bool false, .slice none 0 0, .slice none 0 0, .slice none 0 0, .slice none 0 0, .slice none 0 0, .slice none 0 0, .slice none 0 0, .slice (some ⟨w.heap.size + 1 + 1 + 1, 0, none⟩) 1 1, .slice none 0 0, .int .i64 1] 42)).alloc (Obj.cells #[.int .i64 k, .int .i64 v, .int .i64 d] 37)).drewN q).alloc (Obj.cells #[.int .i64 0, .int .i64 ((v + M) % 7)] 66) = W0) :
    W0.frozen? ⟨w.heap.size + 1 + 1 + 1 + 1, 9, none⟩ = false ∧
    W0.frozen? ⟨w.heap.size + 1 + 1 + 1 + 1, 10, none⟩ = false ∧
    W0.cell? ⟨w.heap.size + 1 + 1 + 1 + 1 + 1 + 1, 0, none⟩ = some (.int .i64 0) ∧
    W0.cell? ⟨w.heap.size + 1 + 1 + 1 + 1 + 1 + 1, 1, none⟩ = some (.int .i64 ((v + M) % 7)) := by
  subst hW0
  have l0_1 : w.heap.size < w.heap.size + 1 := by omega
  have n0_1 : w.heap.size ≠ w.heap.size + 1 := by omega
  have m0_1 : w.heap.size + 1 ≠ w.heap.size := by omega
  have l0_2 : w.heap.size < w.heap.size + 1 + 1 := by omega
  have n0_2 : w.heap.size ≠ w.heap.size + 1 + 1 := by omega
  have m0_2 : w.heap.size + 1 + 1 ≠ w.heap.size := by omega
  have l0_3 : w.heap.size < w.heap.size + 1 + 1 + 1 := by omega
  have n0_3 : w.heap.size ≠ w.heap.size + 1 + 1 + 1 := by omega
  have m0_3 : w.heap.size + 1 + 1 + 1 ≠ w.heap.size := by omega
  have l0_4 : w.heap.size < w.heap.size + 1 + 1 + 1 + 1 := by omega
  have n0_4 : w.heap.size ≠ w.heap.size + 1 + 1 + 1 + 1 := by omega
  have m0_4 : w.heap.size + 1 + 1 + 1 + 1 ≠ w.heap.size := by omega
  have l0_5 : w.heap.size < w.heap.size + 1 + 1 + 1 + 1 + 1 := by omega
  have n0_5 : w.heap.size ≠ w.heap.size + 1 + 1 + 1 + 1 + 1 := by omega
  have m0_5 : w.heap.size + 1 + 1 + 1 + 1 + 1 ≠ w.heap.size := by omega
  have l0_6 : w.heap.size < w.heap.size + 1 + 1 + 1 + 1 + 1 + 1 := by omega
  have n0_6 : w.heap.size ≠ w.heap.size + 1 + 1 + 1 + 1 + 1 + 1 := by omega
  have m0_6 : w.heap.size + 1 + 1 + 1 + 1 + 1 + 1 ≠ w.heap.size := by omega
  have l0_7 : w.heap.size < w.heap.size + 1 + 1 + 1 + 1 + 1 + 1 + 1 := by omega
  have n0_7 : w.heap.size ≠ w.heap.size + 1 + 1 + 1 + 1 + 1 + 1 + 1 := by omega
  have m0_7 : w.heap.size + 1 + 1 + 1 + 1 + 1 + 1 + 1 ≠ w.heap.size := by omega
  have l1_2 : w.heap.size + 1 < w.heap.size + 1 + 1 := by omega
  have n1_2 : w.heap.size + 1 ≠ w.heap.size + 1 + 1 := by omega
  have m1_2 : w.heap.size + 1 + 1 ≠ w.heap.size + 1 := by omega
  have l1_3 : w.heap.size + 1 < w.heap.size + 1 + 1 + 1 := by omega
  have n1_3 : w.heap.size + 1 ≠ w.heap.size + 1 + 1 + 1 := by omega
  have m1_3 : w.heap.size + 1 + 1 + 1 ≠ w.heap.size + 1 := by omega
  have l1_4 : w.heap.size + 1 < w.heap.size + 1 + 1 + 1 + 1 := by omega
  have n1_4 : w.heap.size + 1 ≠ w.heap.size + 1 + 1 + 1 + 1 := by omega
  have m1_4 : w.heap.size + 1 + 1 + 1 + 1 ≠ w.heap.size + 1 := by omega
  have l1_5 : w.heap.size + 1 < w.heap.size + 1 + 1 + 1 + 1 + 1 := by omega
  have n1_5 : w.heap.size + 1 ≠ w.heap.size + 1 + 1 + 1 + 1 + 1 := by omega
  have m1_5 : w.heap.size + 1 + 1 + 1 + 1 + 1 ≠ w.heap.size + 1 := by omega
  have l1_6 : w.heap.size + 1 < w.heap.size + 1 + 1 + 1 + 1 + 1 + 1 := by omega
  have n1_6 : w.heap.size + 1 ≠ w.heap.size + 1 + 1 + 1 + 1 + 1 + 1 := by omega
  have m1_6 : w.heap.size + 1 + 1 + 1 + 1 + 1 + 1 ≠ w.heap.size + 1 := by omega
  have l1_7 : w.heap.size + 1 < w.heap.size + 1 + 1 + 1 + 1 + 1 + 1 + 1 := by omega
  have n1_7 : w.heap.size + 1 ≠ w.heap.size + 1 + 1 + 1 + 1 + 1 + 1 + 1 := by omega
  have m1_7 : w.heap.size + 1 + 1 + 1 + 1 + 1 + 1 + 1 ≠ w.heap.size + 1 := by omega
  have l4_5 : w.heap.size + 1 + 1 + 1 + 1 < w.heap.size + 1 + 1 + 1 + 1 + 1 := by omega
  have n4_5 : w.heap.size + 1 + 1 + 1 + 1 ≠ w.heap.size + 1 + 1 + 1 + 1 + 1 := by omega
  have m4_5 : w.heap.size + 1 + 1 + 1 + 1 + 1 ≠ w.heap.size + 1 + 1 + 1 + 1 := by omega
  have l4_6 : w.heap.size + 1 + 1 + 1 + 1 < w.heap.size + 1 + 1 + 1 + 1 + 1 + 1 := by omega
  have n4_6 : w.heap.size + 1 + 1 + 1 + 1 ≠ w.heap.size + 1 + 1 + 1 + 1 + 1 + 1 := by omega
  have m4_6 : w.heap.size + 1 + 1 + 1 + 1 + 1 + 1 ≠ w.heap.size + 1 + 1 + 1 + 1 := by omega
  have l4_7 : w.heap.size + 1 + 1 + 1 + 1 < w.heap.size + 1 + 1 + 1 + 1 + 1 + 1 + 1 := by omega
  have n4_7 : w.heap.size + 1 + 1 + 1 + 1 ≠ w.heap.size + 1 + 1 + 1 + 1 + 1 + 1 + 1 := by omega
  have m4_7 : w.heap.size + 1 + 1 + 1 + 1 + 1 + 1 + 1 ≠ w.heap.size + 1 + 1 + 1 + 1 := by omega
  have l6_7 : w.heap.size + 1 + 1 + 1 + 1 + 1 + 1 < w.heap.size + 1 + 1 + 1 + 1 + 1 + 1 + 1 := by omega
  have n6_7 : w.heap.size + 1 + 1 + 1 + 1 + 1 + 1 ≠ w.heap.size + 1 + 1 + 1 + 1 + 1 + 1 + 1 := by omega
  have m6_7 : w.heap.size + 1 + 1 + 1 + 1 + 1 + 1 + 1 ≠ w.heap.size + 1 + 1 + 1 + 1 + 1 + 1 := by omega
  refine ⟨?_, ?_, ?_, ?_⟩ <;> go_simp
end Enc
end Go.Proofs.YtklanblifjgppaaDoor
