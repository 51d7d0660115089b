/-
  Package escape, at the waking call's texts: List; the laws' Texts over two texts.
-/
import Derived.Test.YtbfknaccffiafaaEscC
import Derived.Test.YtbfknaccffiafaaShelf
namespace Go.Proofs.Ytbfknaccffiafaa
open Go.RowKit
namespace Esc
set_option maxHeartbeats 3200000 in
set_option maxRecDepth 100000 in
theorem texts2 (g h c d : Nat) (x y : ByteArray) (w : World)
    (g0 : w.cell? ⟨g, 0, none⟩ = some (.string x)) (g1 : w.cell? ⟨g, 1, none⟩ = some (.string y)) (h0 : w.cell? ⟨h, 0, none⟩ = some (.string x)) (h1 : w.cell? ⟨h, 1, none⟩ = some (.string y)) :
    Calls Try.prog 14 #[.slice (some ⟨g, 0, none⟩) 2 c, .slice (some ⟨h, 0, none⟩) 2 d] w fun e w' => e = .returned (.bool true) ∧ ∃ n, w' = w.drewN n := by
  go_enter Try.func14, Try.ntmps14
  go_wp2_with fail
  refine wp_loop_rounds 3 ?_
  rw [rounds_succ]
  go_wp2_with fail
  go_quiet (fail)
  go_wp2_with fail
  rw [rounds_succ]
  go_wp2_with fail
  go_quiet (fail)
  go_wp2_with fail
  rw [rounds_succ]
  go_wp2
  go_ret
  exact ⟨rfl, _, rfl⟩
theorem owns2 {w : World} {B : Nat} {e : TypeId} {v x y : Value} (h : w.ownsRow B e 1 v 2 [x, y]) : ∃ g c, v = .slice (some ⟨g, 0, none⟩) 2 c ∧ w.cell? ⟨g, 0, none⟩ = some x ∧ w.cell? ⟨g, 1, none⟩ = some y := by
  obtain ⟨g, cap, rfl, _, _⟩ := h.form (by decide)
  exact ⟨g, cap, rfl, (h.cellAt 0 (by decide)).trans rfl, (h.cellAt 1 (by decide)).trans rfl⟩
theorem wk_p1 : putR [97] = ([97], 0) := by decide +kernel
theorem wk_p2 : putR [98] = ([98], 0) := by decide +kernel
set_option maxHeartbeats 3200000 in
set_option maxRecDepth 100000 in
theorem list_wk (g : Nat) (w : World) (hg : g < w.heap.size) (g0 : w.cell? ⟨g, 0, none⟩ = some (.string ⟨#[97]⟩)) (g1 : w.cell? ⟨g, 1, none⟩ = some (.string ⟨#[98]⟩)) :
    Calls Try.prog 10 #[.slice (some ⟨g, 0, none⟩) 2 2] w fun e w' => e = .returned (.tuple #[.string ⟨#[97, 44, 98]⟩, .int .i64 0]) ∧ Below w.heap.size w w' := by
  obtain ⟨i0, hi, hz0, hz1, hz2⟩ := info_parts is
  have hmk : ∀ w : World, (Instr.makeSlice 22 (.int .i64 2) (.int .i64 2)).run Try.prog w = .ok (.slice (some ⟨w.heap.size, 0, none⟩) 2 2) (w.alloc (.cells #[.string ⟨#[]⟩, .string ⟨#[]⟩] 9)) := fun w => by
    have h := run_make (P := Try.prog) w 22 9 i0 (.string ⟨#[]⟩) (by kernel_rfl) hi hz0 .i64 .i64 2 2 (by decide) (by decide) (by rw [hz2]; decide) (by decide)
    rw [hz1] at h
    have e : madeCells (Value.string ⟨#[]⟩).cells (Int.toNat 2 * 1) = #[.string ⟨#[]⟩, .string ⟨#[]⟩] := by first | rfl | kernel_rfl | (simp [madeCells]; done) | (simp [madeCells, Value.cells]; done) | decide
    rw [e] at h
    exact h
  have hne : g ≠ w.heap.size := by omega
  have hne2 : w.heap.size ≠ g := by omega
  go_enter Try.func10, Try.ntmps10
  go_wp2
  refine wp_loop_rounds 3 ?_
  rw [rounds_succ]
  go_wp2_with fail
  refine (put_to _ [97] [97] 0 _ (by decide) (Lib.hid rfl) (Lib.hid wk_p1)).mono ?_
  rintro e w1 ⟨rfl, b1⟩
  have f0 : w1.frozen? ⟨w.heap.size, 0, none⟩ = false := (b1.frozen (p := ⟨w.heap.size, 0, none⟩) (by simp)).trans (by go_simp)
  have f1 : w1.frozen? ⟨w.heap.size, 1, none⟩ = false := (b1.frozen (p := ⟨w.heap.size, 1, none⟩) (by simp)).trans (by go_simp)
  have c0 : w1.cell? ⟨w.heap.size, 0, none⟩ = some (.string ⟨#[]⟩) := (b1.cell (p := ⟨w.heap.size, 0, none⟩) (by simp)).trans (by go_simp)
  have c1 : w1.cell? ⟨w.heap.size, 1, none⟩ = some (.string ⟨#[]⟩) := (b1.cell (p := ⟨w.heap.size, 1, none⟩) (by simp)).trans (by go_simp)
  have q1 : w1.cell? ⟨g, 1, none⟩ = some (.string ⟨#[98]⟩) := (b1.cell (p := ⟨g, 1, none⟩) (by simp; omega)).trans ((World.cell?_alloc_lt w _ ⟨g, 1, none⟩ hg).trans g1)
  have B1 : Below w.heap.size w w1 := ((Below.refl _ _).alloc (Nat.le_refl _) _).trans (b1.mono (by simp))
  have hs1 : w.heap.size < w1.heap.size := by have := b1.size; simp at this; omega
  clear b1
  go_wp2
  rw [rounds_succ]
  go_wp2_with fail
  refine (put_to _ [98] [98] 0 _ (by decide) (Lib.hid rfl) (Lib.hid wk_p2)).mono ?_
  rintro e w2 ⟨rfl, b2⟩
  have hs2 : w.heap.size < (w1.setCell ⟨w.heap.size, 0, none⟩ (.string ⟨#[97]⟩)).heap.size := by simp; omega
  have d0 : w2.cell? ⟨w.heap.size, 0, none⟩ = some (.string ⟨#[97]⟩) := (b2.cell (p := ⟨w.heap.size, 0, none⟩) hs2).trans (World.cell?_setCell_same _ _ _ c0)
  have d1 : w2.cell? ⟨w.heap.size, 1, none⟩ = some (.string ⟨#[]⟩) := (b2.cell (p := ⟨w.heap.size, 1, none⟩) hs2).trans ((World.cell?_setCell_other _ _ _ _ (by simp)).trans c1)
  have e1 : w2.frozen? ⟨w.heap.size, 1, none⟩ = false := (b2.frozen (p := ⟨w.heap.size, 1, none⟩) hs2).trans ((World.frozen?_setCell _ _ _ _).trans f1)
  have B2 : Below w.heap.size w w2 := (B1.setCell (Nat.le_refl _) _).trans (b2.mono (Nat.le_of_lt hs2))
  have hs3 : w.heap.size < w2.heap.size := Nat.lt_of_lt_of_le hs2 b2.size
  clear b2
  go_wp2
  rw [rounds_succ]
  go_wp2_with fail
  refine (Try.strings_Join w.heap.size 0 2 [⟨#[97]⟩, ⟨#[98]⟩] _ _ ?_ (by simp; omega) (by decide) (by decide) (by decide)).mono ?_
  · intro j x hj
    match j, hj with
    | 0, hj =>
      simp at hj; subst hj
      exact (World.cell?_setCell_other _ _ _ _ (by simp)).trans d0
    | 1, hj =>
      simp at hj; subst hj
      exact World.cell?_setCell_same _ _ _ d1
  rintro e w3 ⟨rfl, b3⟩
  go_wp2
  go_ret2
  exact ⟨ret_si rfl rfl, (B2.setCell (Nat.le_refl _) _).trans (b3.mono (by simp; omega))⟩
end Esc
end Go.Proofs.Ytbfknaccffiafaa
