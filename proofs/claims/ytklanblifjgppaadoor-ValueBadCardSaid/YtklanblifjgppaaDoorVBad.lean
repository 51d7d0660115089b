/-
  ValueBad. (Written by gen/gen_vbad.py.)
-/
import Derived.Test.YtklanblifjgppaaDoorVal9
namespace Go.Proofs.YtklanblifjgppaaDoor
open Go.RowKit
namespace Val
open Sol Civ Wk
def badTk : Nat → List UInt8 := fun k => badT.getD k []
def badOk : Nat → List UInt8 := fun k => badO.getD k []
theorem badT_k : ∀ k < 14, ptP (badTk k) = (0, false, 19) ∧ (badTk k).length ≤ 20 := by decide +kernel
theorem badO_k : ∀ k < 11, poP (badOk k) = (0, 19) ∧ (badOk k).length ≤ 20 := by decide +kernel
theorem u1000 (x : Int) : ∃ k : Nat, (IntKind.u64.wrap x).tmod 1000 = (k : Int) ∧ k < 1000 := by
  have h1 := Int.tmod_nonneg 1000 (show 0 ≤ IntKind.u64.wrap x by rw [IntKind.wrap_u64]; omega)
  have h2 := Int.tmod_lt_of_pos (IntKind.u64.wrap x) (show (0 : Int) < 1000 by omega)
  exact ⟨((IntKind.u64.wrap x).tmod 1000).toNat, by omega, by omega⟩
theorem umod (k n : Nat) (hn : 0 < n) : ∃ i : Nat, ((k : Int)).tmod (n : Int) = (i : Int) ∧ ((k : Int)) % (n : Int) = (i : Int) ∧ i < n :=
  ⟨k % n, by rw [Int.tmod_eq_emod_of_nonneg (by omega)]; simp, by simp, Nat.mod_lt _ hn⟩
set_option maxHeartbeats 6400000 in
set_option maxRecDepth 100000 in
theorem vbad_any (how : Int) (w : World) (hA : Ahead w) (hp : Pow w) (hm : MaxL w) :
    Calls Tryd.prog 4 #[.int .i64 how] w fun e w' => e = .returned (.bool true) ∧ Below w.heap.size w w' := by
  have HA := Lib.hid hA
  have HP := Lib.hid hp
  have HM := Lib.hid hm
  obtain ⟨k, ek, hk⟩ := u1000 how
  obtain ⟨i, e1, e2, hi⟩ := umod k 14 (by decide)
  obtain ⟨j, f1, f2, hj⟩ := umod k 11 (by decide)
  have TB := Lib.hid (badT_k i hi)
  have OB := Lib.hid (badO_k j hj)
  have hc1 : (w.alloc (Obj.cells #[.string ⟨#[]⟩, .string ⟨#[49, 57, 55, 48, 49, 48, 49, 84, 48, 48, 48, 48, 48, 48]⟩, .string ⟨#[49, 57, 55, 48, 48, 49, 48, 49, 32, 48, 48, 48, 48, 48, 48]⟩, .string ⟨#[49, 57, 55, 48, 49, 51, 48, 49, 84, 48, 48, 48, 48, 48, 48]⟩, .string ⟨#[49, 57, 55, 48, 48, 48, 48, 49, 84, 48, 48, 48, 48, 48, 48]⟩, .string ⟨#[49, 57, 55, 48, 48, 49, 51, 50, 84, 48, 48, 48, 48, 48, 48]⟩, .string ⟨#[49, 57, 48, 48, 48, 50, 50, 57, 84, 48, 48, 48, 48, 48, 48]⟩, .string ⟨#[49, 57, 55, 48, 48, 49, 48, 49, 84, 50, 52, 48, 48, 48, 48]⟩, .string ⟨#[49, 57, 55, 48, 48, 49, 48, 49, 84, 48, 48, 54, 48, 48, 48]⟩, .string ⟨#[49, 57, 55, 48, 48, 49, 48, 49, 84, 48, 48, 48, 48, 54, 48]⟩, .string ⟨#[48, 48, 48, 48, 48, 49, 48, 49, 84, 48, 48, 48, 48, 48, 48]⟩, .string ⟨#[49, 57, 55, 48, 48, 49, 48, 49, 84, 48, 48, 48, 48, 48, 48, 122]⟩, .string ⟨#[49, 57, 55, 48, 48, 49, 48, 49, 84, 48, 48, 48, 48, 48, 48, 90, 90]⟩, .string ⟨#[43, 57, 55, 48, 48, 49, 48, 49, 84, 48, 48, 48, 48, 48, 48]⟩] 9)).cell? ⟨w.heap.size, i, none⟩ = some (.string ⟨(badTk i).toArray⟩) := by
    rw [World.cell?_alloc_new]
    have hc : i = 0 ∨ i = 1 ∨ i = 2 ∨ i = 3 ∨ i = 4 ∨ i = 5 ∨ i = 6 ∨ i = 7 ∨ i = 8 ∨ i = 9 ∨ i = 10 ∨ i = 11 ∨ i = 12 ∨ i = 13 := by omega
    rcases hc with rfl | rfl | rfl | rfl | rfl | rfl | rfl | rfl | rfl | rfl | rfl | rfl | rfl | rfl <;> rfl
  have hc2 : ((w.alloc (Obj.cells #[.string ⟨#[]⟩, .string ⟨#[49, 57, 55, 48, 49, 48, 49, 84, 48, 48, 48, 48, 48, 48]⟩, .string ⟨#[49, 57, 55, 48, 48, 49, 48, 49, 32, 48, 48, 48, 48, 48, 48]⟩, .string ⟨#[49, 57, 55, 48, 49, 51, 48, 49, 84, 48, 48, 48, 48, 48, 48]⟩, .string ⟨#[49, 57, 55, 48, 48, 48, 48, 49, 84, 48, 48, 48, 48, 48, 48]⟩, .string ⟨#[49, 57, 55, 48, 48, 49, 51, 50, 84, 48, 48, 48, 48, 48, 48]⟩, .string ⟨#[49, 57, 48, 48, 48, 50, 50, 57, 84, 48, 48, 48, 48, 48, 48]⟩, .string ⟨#[49, 57, 55, 48, 48, 49, 48, 49, 84, 50, 52, 48, 48, 48, 48]⟩, .string ⟨#[49, 57, 55, 48, 48, 49, 48, 49, 84, 48, 48, 54, 48, 48, 48]⟩, .string ⟨#[49, 57, 55, 48, 48, 49, 48, 49, 84, 48, 48, 48, 48, 54, 48]⟩, .string ⟨#[48, 48, 48, 48, 48, 49, 48, 49, 84, 48, 48, 48, 48, 48, 48]⟩, .string ⟨#[49, 57, 55, 48, 48, 49, 48, 49, 84, 48, 48, 48, 48, 48, 48, 122]⟩, .string ⟨#[49, 57, 55, 48, 48, 49, 48, 49, 84, 48, 48, 48, 48, 48, 48, 90, 90]⟩, .string ⟨#[43, 57, 55, 48, 48, 49, 48, 49, 84, 48, 48, 48, 48, 48, 48]⟩] 9)).alloc (Obj.cells #[.string ⟨#[]⟩, .string ⟨#[48, 49, 48, 48]⟩, .string ⟨#[43, 49]⟩, .string ⟨#[43, 48, 49, 48, 48, 48]⟩, .string ⟨#[45, 48, 48, 48, 48]⟩, .string ⟨#[45, 48, 48, 48, 48, 48, 48]⟩, .string ⟨#[43, 50, 52, 48, 48]⟩, .string ⟨#[43, 48, 48, 54, 48]⟩, .string ⟨#[43, 48, 48, 48, 48, 54, 48]⟩, .string ⟨#[43, 48, 49, 58, 48, 48]⟩, .string ⟨#[32, 43, 48, 49, 48, 48]⟩] 9)).cell? ⟨w.heap.size + 1, j, none⟩ = some (.string ⟨(badOk j).toArray⟩) := by
    rw [show w.heap.size + 1 = (w.alloc (Obj.cells #[.string ⟨#[]⟩, .string ⟨#[49, 57, 55, 48, 49, 48, 49, 84, 48, 48, 48, 48, 48, 48]⟩, .string ⟨#[49, 57, 55, 48, 48, 49, 48, 49, 32, 48, 48, 48, 48, 48, 48]⟩, .string ⟨#[49, 57, 55, 48, 49, 51, 48, 49, 84, 48, 48, 48, 48, 48, 48]⟩, .string ⟨#[49, 57, 55, 48, 48, 48, 48, 49, 84, 48, 48, 48, 48, 48, 48]⟩, .string ⟨#[49, 57, 55, 48, 48, 49, 51, 50, 84, 48, 48, 48, 48, 48, 48]⟩, .string ⟨#[49, 57, 48, 48, 48, 50, 50, 57, 84, 48, 48, 48, 48, 48, 48]⟩, .string ⟨#[49, 57, 55, 48, 48, 49, 48, 49, 84, 50, 52, 48, 48, 48, 48]⟩, .string ⟨#[49, 57, 55, 48, 48, 49, 48, 49, 84, 48, 48, 54, 48, 48, 48]⟩, .string ⟨#[49, 57, 55, 48, 48, 49, 48, 49, 84, 48, 48, 48, 48, 54, 48]⟩, .string ⟨#[48, 48, 48, 48, 48, 49, 48, 49, 84, 48, 48, 48, 48, 48, 48]⟩, .string ⟨#[49, 57, 55, 48, 48, 49, 48, 49, 84, 48, 48, 48, 48, 48, 48, 122]⟩, .string ⟨#[49, 57, 55, 48, 48, 49, 48, 49, 84, 48, 48, 48, 48, 48, 48, 90, 90]⟩, .string ⟨#[43, 57, 55, 48, 48, 49, 48, 49, 84, 48, 48, 48, 48, 48, 48]⟩] 9)).heap.size by simp]
    rw [World.cell?_alloc_new]
    have hc : j = 0 ∨ j = 1 ∨ j = 2 ∨ j = 3 ∨ j = 4 ∨ j = 5 ∨ j = 6 ∨ j = 7 ∨ j = 8 ∨ j = 9 ∨ j = 10 := by omega
    rcases hc with rfl | rfl | rfl | rfl | rfl | rfl | rfl | rfl | rfl | rfl | rfl <;> rfl
  obtain ⟨Z, hZ⟩ : ∃ Z, badTk i = Z := ⟨_, rfl⟩
  obtain ⟨Y, hY⟩ : ∃ Z, badOk j = Z := ⟨_, rfl⟩
  rw [hZ] at hc1 TB
  rw [hY] at hc2 OB
  have HZ : Hid ((⟨Z.toArray⟩ : ByteArray).size ≤ 1000) := Lib.hid (by have := TB.out.2; show Z.length ≤ 1000; omega)
  have HY : Hid ((⟨Y.toArray⟩ : ByteArray).size ≤ 1000) := Lib.hid (by have := OB.out.2; show Y.length ≤ 1000; omega)
  clear hA hp hm hZ hY
  have hc3 : ((w.alloc (Obj.cells #[.string ⟨#[]⟩, .string ⟨#[49, 57, 55, 48, 49, 48, 49, 84, 48, 48, 48, 48, 48, 48]⟩, .string ⟨#[49, 57, 55, 48, 48, 49, 48, 49, 32, 48, 48, 48, 48, 48, 48]⟩, .string ⟨#[49, 57, 55, 48, 49, 51, 48, 49, 84, 48, 48, 48, 48, 48, 48]⟩, .string ⟨#[49, 57, 55, 48, 48, 48, 48, 49, 84, 48, 48, 48, 48, 48, 48]⟩, .string ⟨#[49, 57, 55, 48, 48, 49, 51, 50, 84, 48, 48, 48, 48, 48, 48]⟩, .string ⟨#[49, 57, 48, 48, 48, 50, 50, 57, 84, 48, 48, 48, 48, 48, 48]⟩, .string ⟨#[49, 57, 55, 48, 48, 49, 48, 49, 84, 50, 52, 48, 48, 48, 48]⟩, .string ⟨#[49, 57, 55, 48, 48, 49, 48, 49, 84, 48, 48, 54, 48, 48, 48]⟩, .string ⟨#[49, 57, 55, 48, 48, 49, 48, 49, 84, 48, 48, 48, 48, 54, 48]⟩, .string ⟨#[48, 48, 48, 48, 48, 49, 48, 49, 84, 48, 48, 48, 48, 48, 48]⟩, .string ⟨#[49, 57, 55, 48, 48, 49, 48, 49, 84, 48, 48, 48, 48, 48, 48, 122]⟩, .string ⟨#[49, 57, 55, 48, 48, 49, 48, 49, 84, 48, 48, 48, 48, 48, 48, 90, 90]⟩, .string ⟨#[43, 57, 55, 48, 48, 49, 48, 49, 84, 48, 48, 48, 48, 48, 48]⟩] 9)).alloc (Obj.cells #[.string ⟨#[]⟩, .string ⟨#[48, 49, 48, 48]⟩, .string ⟨#[43, 49]⟩, .string ⟨#[43, 48, 49, 48, 48, 48]⟩, .string ⟨#[45, 48, 48, 48, 48]⟩, .string ⟨#[45, 48, 48, 48, 48, 48, 48]⟩, .string ⟨#[43, 50, 52, 48, 48]⟩, .string ⟨#[43, 48, 48, 54, 48]⟩, .string ⟨#[43, 48, 48, 48, 48, 54, 48]⟩, .string ⟨#[43, 48, 49, 58, 48, 48]⟩, .string ⟨#[32, 43, 48, 49, 48, 48]⟩] 9)).cell? ⟨w.heap.size, i, none⟩ = some (.string ⟨Z.toArray⟩) := (World.cell?_alloc_lt _ _ ⟨w.heap.size, i, none⟩ (by simp)).trans hc1
  have hb0 : Below w.heap.size w ((w.alloc (Obj.cells #[.string ⟨#[]⟩, .string ⟨#[49, 57, 55, 48, 49, 48, 49, 84, 48, 48, 48, 48, 48, 48]⟩, .string ⟨#[49, 57, 55, 48, 48, 49, 48, 49, 32, 48, 48, 48, 48, 48, 48]⟩, .string ⟨#[49, 57, 55, 48, 49, 51, 48, 49, 84, 48, 48, 48, 48, 48, 48]⟩, .string ⟨#[49, 57, 55, 48, 48, 48, 48, 49, 84, 48, 48, 48, 48, 48, 48]⟩, .string ⟨#[49, 57, 55, 48, 48, 49, 51, 50, 84, 48, 48, 48, 48, 48, 48]⟩, .string ⟨#[49, 57, 48, 48, 48, 50, 50, 57, 84, 48, 48, 48, 48, 48, 48]⟩, .string ⟨#[49, 57, 55, 48, 48, 49, 48, 49, 84, 50, 52, 48, 48, 48, 48]⟩, .string ⟨#[49, 57, 55, 48, 48, 49, 48, 49, 84, 48, 48, 54, 48, 48, 48]⟩, .string ⟨#[49, 57, 55, 48, 48, 49, 48, 49, 84, 48, 48, 48, 48, 54, 48]⟩, .string ⟨#[48, 48, 48, 48, 48, 49, 48, 49, 84, 48, 48, 48, 48, 48, 48]⟩, .string ⟨#[49, 57, 55, 48, 48, 49, 48, 49, 84, 48, 48, 48, 48, 48, 48, 122]⟩, .string ⟨#[49, 57, 55, 48, 48, 49, 48, 49, 84, 48, 48, 48, 48, 48, 48, 90, 90]⟩, .string ⟨#[43, 57, 55, 48, 48, 49, 48, 49, 84, 48, 48, 48, 48, 48, 48]⟩] 9)).alloc (Obj.cells #[.string ⟨#[]⟩, .string ⟨#[48, 49, 48, 48]⟩, .string ⟨#[43, 49]⟩, .string ⟨#[43, 48, 49, 48, 48, 48]⟩, .string ⟨#[45, 48, 48, 48, 48]⟩, .string ⟨#[45, 48, 48, 48, 48, 48, 48]⟩, .string ⟨#[43, 50, 52, 48, 48]⟩, .string ⟨#[43, 48, 48, 54, 48]⟩, .string ⟨#[43, 48, 48, 48, 48, 54, 48]⟩, .string ⟨#[43, 48, 49, 58, 48, 48]⟩, .string ⟨#[32, 43, 48, 49, 48, 48]⟩] 9)) := ((Below.refl _ _).alloc (Nat.le_refl _) _).alloc (by simp) _
  have HB0 := Lib.hid hb0
  clear hc1 hb0
  simp only [Int.cast_ofNat_Int] at e1 e2 f1 f2
  go_enter Tryd.func4, Tryd.ntmps4
  go_wp2_with fail
  refine (ptime_to _ Z _ _ _ _ (HA.out.stays HB0.out) HZ.out (Lib.hid rfl) (Lib.hid TB.out.1)).mono ?_
  rintro e w1 ⟨rfl, b1⟩
  have hc4 : w1.cell? ⟨w.heap.size + 1, j, none⟩ = some (.string ⟨Y.toArray⟩) := (b1.cell (by simp)).trans hc2
  have hB1 : Below w.heap.size w w1 := HB0.out.trans (b1.mono HB0.out.size)
  clear hc2 hc3 b1
  have HB1 := Lib.hid hB1
  clear hB1
  go_wp2_with fail
  refine (poff_to _ Y _ _ _ HY.out (Lib.hid rfl) (Lib.hid OB.out.1)).mono ?_
  rintro e w2 ⟨rfl, rfl⟩
  go_wp2_with fail
  refine (poff_to _ _ _ _ _ (by decide) (Lib.hid rfl) (Lib.hid wk_1)).mono ?_
  rintro e w2 ⟨rfl, rfl⟩
  go_wp2_with fail
  refine (wakes20_any _ (HA.out.stays HB1.out) (HP.out.stays HB1.out) (HM.out.stays HB1.out)).mono ?_
  rintro e w3 ⟨rfl, b3⟩
  go_wp2
  go_ret
  exact ⟨rfl, HB1.out.trans (b3.mono HB1.out.size)⟩
end Val
end Go.Proofs.YtklanblifjgppaaDoor
