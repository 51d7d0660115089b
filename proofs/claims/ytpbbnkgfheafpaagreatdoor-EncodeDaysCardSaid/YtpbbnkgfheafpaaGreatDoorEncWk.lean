/-
  Package encode: the waking call of its laws.
-/
import Derived.Test.YtpbbnkgfheafpaaGreatDoorEncNum
import Derived.Test.YtpbbnkgfheafpaaGreatDoorEncFar
import Derived.Test.YtpbbnkgfheafpaaGreatDoorEncMv
namespace Go.Proofs.YtpbbnkgfheafpaaGreatDoor
open Go.RowKit
namespace Enc
open Wk
theorem wk24_1 : Cal.mlen 2001 3 = 31 ∧ fromV 3 8 0 = 8 ∧ toV 3 8 0 = 8 + 6 ∧ onOk 3 0 8 = true := by decide +kernel
theorem wk24_2 : Cal.mlen 2001 3 = 31 ∧ fromV 3 26 0 = 26 ∧ toV 3 26 0 = 32 ∧ onOk 3 0 26 = true := by decide +kernel
theorem wk24_3 : mvD 3600 3 3600 0 3600 = 0 ∧ mvS 3600 3 3600 0 3600 = 7200 ∧ mvB 3600 3 3600 0 3600 = true := by decide +kernel
theorem on_w1 (w : World) : Calls Tryz.prog 5 #[.int .i64 3, .agg #[.int .i64 3, .int .i64 0, .int .i64 8], .int .i64 0] w (NumQ 2 0 w) :=
  on_num 3 3 0 8 0 31 8 w (by decide) (by decide) wk24_1.2.2.2 (by decide) (Lib.hid wk24_1.1) (Lib.hid ⟨wk24_1.2.1, wk24_1.2.2.1⟩) (by decide) (by decide) (by decide) (by decide) (by decide)
theorem on_w2 (w : World) : Calls Tryz.prog 5 #[.int .i64 3, .agg #[.int .i64 3, .int .i64 0, .int .i64 26], .int .i64 0] w (No 17 w) :=
  on_far 3 3 0 26 0 31 26 32 w (by decide) (by decide) wk24_2.2.2.2 (by decide) (Lib.hid wk24_2.1) (Lib.hid ⟨wk24_2.2.1, wk24_2.2.2.1⟩) (by decide) (by decide) (by decide)
set_option maxHeartbeats 3200000 in
set_option maxRecDepth 100000 in
theorem wakes24_any (w : World) :
    Calls Tryz.prog 7 #[] w fun e w' => e = .returned (.bool true) ∧ Below w.heap.size w w' := by
  have W3 := Lib.hid wk24_3
  go_enter Tryz.func7, Tryz.ntmps7
  go_wp2_with fail
  refine (on_w1 _).mono ?_
  rintro e w1 ⟨gd, gm, rfl, hb1, hg, c0, c1⟩
  go_upto_region 2 with fail
  have e9 : (w1.alloc (Obj.cells #[.int .i64 7, .int .i64 1, .int .i64 0, .bool false, .int .i64 0, .bool false, .slice none 0 0, .slice none 0 0, .slice none 0 0, .slice (some ⟨gd, 0, none⟩) 1 1, .slice none 0 0, .slice none 0 0, .slice none 0 0, .slice (some ⟨gm, 0, none⟩) 1 1, .slice none 0 0, .int .i64 1] 29)).cell? ⟨w1.heap.size, 9, none⟩ = some (.slice (some ⟨gd, 0, none⟩) 1 1) := by go_simp
  obtain ⟨w2, hw2⟩ : ∃ x, w1.alloc (Obj.cells #[.int .i64 7, .int .i64 1, .int .i64 0, .bool false, .int .i64 0, .bool false, .slice none 0 0, .slice none 0 0, .slice none 0 0, .slice (some ⟨gd, 0, none⟩) 1 1, .slice none 0 0, .slice none 0 0, .slice none 0 0, .slice (some ⟨gm, 0, none⟩) 1 1, .slice none 0 0, .int .i64 1] 29) = x := ⟨_, rfl⟩
  rw [hw2] at e9
  have k0 : w2.cell? ⟨gd, 0, none⟩ = some (.int .i64 2) := by rw [← hw2]; exact (World.cell?_alloc_lt w1 _ ⟨gd, 0, none⟩ hg).trans c0
  have k1 : w2.cell? ⟨gd, 1, none⟩ = some (.int .i64 0) := by rw [← hw2]; exact (World.cell?_alloc_lt w1 _ ⟨gd, 1, none⟩ hg).trans c1
  have hB2 : Below w.heap.size w w2 := by rw [← hw2]; exact hb1.alloc hb1.size _
  have hs2 : w1.heap.size < w2.heap.size := by rw [← hw2]; simp
  rw [hw2]
  clear hw2 c0 c1 hb1
  go_wp2_with fail
  refine (move_to _ _ _ _ _ 0 7200 true _ (by decide) (by decide) W3).mono ?_
  rintro e w3 ⟨rfl, hb3⟩
  have f9 := (hb3.cell (p := ⟨w1.heap.size, 9, none⟩) hs2).trans e9
  have j0 := (hb3.cell (p := ⟨gd, 0, none⟩) (by show gd < _; omega)).trans k0
  have j1 := (hb3.cell (p := ⟨gd, 1, none⟩) (by show gd < _; omega)).trans k1
  have hB3 : Below w.heap.size w w3 := hB2.trans (hb3.mono hB2.size)
  have hs3 : w1.heap.size < w3.heap.size := by have := hb3.size; omega
  clear hb3 e9 k0 k1 hB2
  go_wp2_with fail
  refine (on_w2 _).mono ?_
  rintro e w4 ⟨rfl, hb4⟩
  have g9 := (hb4.cell (p := ⟨w1.heap.size, 9, none⟩) hs3).trans f9
  have i0 := (hb4.cell (p := ⟨gd, 0, none⟩) (by show gd < _; omega)).trans j0
  have i1 := (hb4.cell (p := ⟨gd, 1, none⟩) (by show gd < _; omega)).trans j1
  have hB4 : Below w.heap.size w w4 := hB3.trans (hb4.mono hB3.size)
  have hs4 : w1.heap.size < w4.heap.size := by have := hb4.size; omega
  have hg4 : gd < w4.heap.size := by omega
  clear hb4 f9 j0 j1 hB3
  go_upto_region 4 with fail
  obtain ⟨w5, hw5⟩ : ∃ x, w4.alloc (Obj.cells #[.int .i64 0, .int .i64 0, .int .i64 0, .bool false, .int .i64 0, .bool false, .slice none 0 0, .slice none 0 0, .slice none 0 0, .slice none 0 0, .slice none 0 0, .slice none 0 0, .slice none 0 0, .slice none 0 0, .slice none 0 0, .int .i64 0] 29) = x := ⟨_, rfl⟩
  have h9 : w5.cell? ⟨w1.heap.size, 9, none⟩ = some (.slice (some ⟨gd, 0, none⟩) 1 1) := by rw [← hw5]; exact (World.cell?_alloc_lt w4 _ ⟨w1.heap.size, 9, none⟩ hs4).trans g9
  have q0 : w5.cell? ⟨gd, 0, none⟩ = some (.int .i64 2) := by rw [← hw5]; exact (World.cell?_alloc_lt w4 _ ⟨gd, 0, none⟩ hg4).trans i0
  have q1 : w5.cell? ⟨gd, 1, none⟩ = some (.int .i64 0) := by rw [← hw5]; exact (World.cell?_alloc_lt w4 _ ⟨gd, 1, none⟩ hg4).trans i1
  have hB5 : Below w.heap.size w w5 := by rw [← hw5]; exact hB4.alloc hB4.size _
  rw [hw5]
  clear hw5 g9 i0 i1 hB4
  go_wp2
  go_ret
  exact ⟨rfl, hB5⟩
end Enc
end Go.Proofs.YtpbbnkgfheafpaaGreatDoor
