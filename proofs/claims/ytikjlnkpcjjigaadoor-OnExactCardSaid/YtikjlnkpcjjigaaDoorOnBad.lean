/-
  Package onform: the waking call of its laws; OnBad: the law answers true at every number, in whatever world that holds the tables.
-/
import Derived.Test.YtikjlnkpcjjigaaDoorOnf2
namespace Go.Proofs.YtikjlnkpcjjigaaDoor
open Go.RowKit
namespace Onf
open Sol Wrd
theorem wk7_1 : onP [108, 97, 115, 116, 115, 117, 110, 100, 97, 121] = (2, 0, 0, 0) := by decide +kernel
theorem wk7_3 : onP [83, 117, 110, 61, 62, 56] = (0, 0, 0, 8) := by decide +kernel
theorem wk7_2 : onT 3 6 8 = [83, 97, 116, 62, 61, 56] ∧ Wk.chE 3 6 8 = 0 := by
  refine ⟨?_, by decide +kernel⟩
  have k1 : textL 8 0 = [56] := by rw [textL, if_neg (by decide), if_pos (by decide), show (8 : Int).toNat = 8 from rfl, Lib.decDigits, dif_pos (by decide)]; rfl
  rw [onT, if_pos (by decide +kernel), if_neg (by decide), if_pos rfl, k1]
  decide +kernel
/-- A form that a call has laid at g. -/
def On3 (g : Nat) (a b c : Int) (w : World) : Prop := g < w.heap.size ∧ w.cell? ⟨g, 0, none⟩ = some (.int .i64 a) ∧ w.cell? ⟨g, 1, none⟩ = some (.int .i64 b) ∧ w.cell? ⟨g, 2, none⟩ = some (.int .i64 c)
theorem On3.new (w : World) (t : TypeId) (a b c : Int) : On3 w.heap.size a b c (w.alloc (Obj.cells #[.int .i64 a, .int .i64 b, .int .i64 c] t)) := by
  refine ⟨by simp, ?_, ?_, ?_⟩ <;> go_simp
theorem On3.below {g : Nat} {a b c : Int} {w w' : World} (h : On3 g a b c w) (hb : Below w.heap.size w w') : On3 g a b c w' := by
  obtain ⟨a0, a1, a2, a3⟩ := h
  have c := fun i => hb.cell (p := ⟨g, i, none⟩) a0
  exact ⟨Nat.lt_of_lt_of_le a0 hb.size, (c 0).trans a1, (c 1).trans a2, (c 2).trans a3⟩
set_option maxHeartbeats 1600000 in
set_option maxRecDepth 100000 in
theorem wakes7_any (w : World) (hp : Pow w) (hm : MaxL w) :
    Calls Tryd.prog 13 #[] w fun e w' => e = .returned (.bool true) ∧ Below w.heap.size w w' := by
  have HP := Lib.hid hp
  have HM := Lib.hid hm
  have W1 := Lib.hid wk7_1
  have W2 := Lib.hid wk7_2
  have W3 := Lib.hid wk7_3
  clear hp hm
  go_enter Tryd.func13, Tryd.ntmps13
  go_wp2_with fail
  refine (oparse_to _ [108, 97, 115, 116, 115, 117, 110, 100, 97, 121] _ _ _ _ _ HM.out (by decide) (Lib.hid rfl) W1).mono ?_
  rintro e w1 ⟨rfl, hb1⟩
  have HO := Lib.hid (On3.new w1 23 2 0 0)
  have hz1 := hb1.size
  have hB1 : Below w.heap.size w (w1.alloc (Obj.cells #[.int .i64 2, .int .i64 0, .int .i64 0] 23)) := hb1.alloc hz1 _
  go_wp2_with fail
  refine (otext_to _ _ _ _ _ _ (HP.out.stays hB1) W2).mono ?_
  rintro e w2 ⟨rfl, hb2⟩
  have HO2 := Lib.hid (HO.out.below hb2)
  have hB2 : Below w.heap.size w w2 := hB1.trans (hb2.mono hB1.size)
  clear hb1 hb2 hB1
  go_wp2_with fail
  refine (oparse_to _ [83, 117, 110, 61, 62, 56] _ _ _ _ _ (HM.out.stays hB2) (by decide) (Lib.hid rfl) W3).mono ?_
  rintro e w3 ⟨rfl, hb3⟩
  obtain ⟨zz, z0, z1, z2⟩ := HO2.out.below hb3
  have hB3 : Below w.heap.size w w3 := hB2.trans (hb3.mono hB2.size)
  have g0 := (World.cell?_alloc_lt w3 (Obj.cells #[.int .i64 0, .int .i64 0, .int .i64 0] 23) ⟨w1.heap.size, 0, none⟩ zz).trans z0
  have g1 := (World.cell?_alloc_lt w3 (Obj.cells #[.int .i64 0, .int .i64 0, .int .i64 0] 23) ⟨w1.heap.size, 1, none⟩ zz).trans z1
  clear hb3 hB2
  go_wp2
  go_ret
  exact ⟨rfl, hB3.alloc hB3.size _⟩
def badT : Nat → List UInt8 := fun k => ([[], [48], [51, 50], [83, 117, 62, 61, 56], [108, 97, 115, 116, 83, 117], [108, 97, 115, 116], [83, 117, 110, 62, 61], [83, 117, 110, 62, 61, 48], [83, 117, 110, 62, 61, 51, 50], [83, 117, 110, 62, 56], [83, 117, 110, 60, 61, 48, 48, 56], [49, 50, 51], [45, 49], [83, 117, 110, 62, 61, 32, 56], [62, 61, 56], [108, 97, 115, 116, 83, 117, 110, 62, 61, 56], [56, 83, 117, 110]] : List (List UInt8)).getD k []
theorem bad_all : ∀ k < 17, onP (badT k) = (0, 0, 0, 8) ∧ (badT k).length ≤ 20 := by decide +kernel
theorem bad_good : onP [115, 85, 78, 100, 97, 121, 60, 61, 48, 55] = (4, 0, 7, 0) := by decide +kernel
theorem u17 (x : Int) : ∃ k : Nat, (IntKind.u64.wrap x).tmod 17 = (k : Int) ∧ k < 17 := by
  have h1 := Int.tmod_nonneg 17 (show 0 ≤ IntKind.u64.wrap x by rw [IntKind.wrap_u64]; omega)
  have h2 := Int.tmod_lt_of_pos (IntKind.u64.wrap x) (show (0 : Int) < 17 by omega)
  exact ⟨((IntKind.u64.wrap x).tmod 17).toNat, by omega, by omega⟩
set_option maxHeartbeats 1600000 in
set_option maxRecDepth 100000 in
theorem obad_any (how : Int) (w : World) (hp : Pow w) (hm : MaxL w) :
    Calls Tryd.prog 5 #[.int .i64 how] w fun e w' => e = .returned (.bool true) ∧ Below w.heap.size w w' := by
  have HP := Lib.hid hp
  have HM := Lib.hid hm
  have W2 := Lib.hid bad_good
  obtain ⟨k, ek, hk⟩ := u17 how
  have HB := Lib.hid (bad_all k hk)
  have hc : (w.alloc (Obj.cells #[.string ⟨#[]⟩, .string ⟨#[48]⟩, .string ⟨#[51, 50]⟩, .string ⟨#[83, 117, 62, 61, 56]⟩, .string ⟨#[108, 97, 115, 116, 83, 117]⟩, .string ⟨#[108, 97, 115, 116]⟩, .string ⟨#[83, 117, 110, 62, 61]⟩, .string ⟨#[83, 117, 110, 62, 61, 48]⟩, .string ⟨#[83, 117, 110, 62, 61, 51, 50]⟩, .string ⟨#[83, 117, 110, 62, 56]⟩, .string ⟨#[83, 117, 110, 60, 61, 48, 48, 56]⟩, .string ⟨#[49, 50, 51]⟩, .string ⟨#[45, 49]⟩, .string ⟨#[83, 117, 110, 62, 61, 32, 56]⟩, .string ⟨#[62, 61, 56]⟩, .string ⟨#[108, 97, 115, 116, 83, 117, 110, 62, 61, 56]⟩, .string ⟨#[56, 83, 117, 110]⟩] 9)).cell? ⟨w.heap.size, k, none⟩ = some (.string ⟨(badT k).toArray⟩) := by
    rw [World.cell?_alloc_new]
    have hc : k = 0 ∨ k = 1 ∨ k = 2 ∨ k = 3 ∨ k = 4 ∨ k = 5 ∨ k = 6 ∨ k = 7 ∨ k = 8 ∨ k = 9 ∨ k = 10 ∨ k = 11 ∨ k = 12 ∨ k = 13 ∨ k = 14 ∨ k = 15 ∨ k = 16 := by omega
    rcases hc with rfl | rfl | rfl | rfl | rfl | rfl | rfl | rfl | rfl | rfl | rfl | rfl | rfl | rfl | rfl | rfl | rfl <;> rfl
  obtain ⟨Z, hZ⟩ : ∃ Z, badT k = Z := ⟨_, rfl⟩
  rw [hZ] at hc HB
  have HZ : Hid ((⟨Z.toArray⟩ : ByteArray).size ≤ 1000) := Lib.hid (by have := HB.out.2; show Z.length ≤ 1000; omega)
  have HB1 := Lib.hid HB.out.1
  clear hp hm hZ HB
  go_enter Tryd.func5, Tryd.ntmps5
  go_wp2_with fail
  refine (oparse_to _ Z _ _ _ _ _ (HM.out.stays (by repeat (first | exact Below.refl _ _ | refine Below.alloc ?_ (by simp; try omega) _))) HZ.out (Lib.hid rfl) HB1).mono ?_
  rintro e w1 ⟨rfl, hb1⟩
  have hB1 : Below w.heap.size w w1 := ((Below.refl _ _).alloc (Nat.le_refl _) _).trans (hb1.mono (by simp))
  have HO := Lib.hid (On3.new w1 23 0 0 0)
  clear hb1 hc
  go_wp2_with fail
  refine (oparse_to _ [115, 85, 78, 100, 97, 121, 60, 61, 48, 55] _ _ _ _ _ (HM.out.stays (hB1.alloc hB1.size _)) (by decide) (Lib.hid rfl) W2).mono ?_
  rintro e w2 ⟨rfl, hb2⟩
  obtain ⟨zz, z0, z1, z2⟩ := HO.out.below hb2
  have hB2 : Below w.heap.size w w2 := (hB1.alloc hB1.size _).trans (hb2.mono (by have := hB1.size; simp; omega))
  have g0 := (World.cell?_alloc_lt w2 (Obj.cells #[.int .i64 4, .int .i64 0, .int .i64 7] 23) ⟨w1.heap.size, 0, none⟩ zz).trans z0
  have g1 := (World.cell?_alloc_lt w2 (Obj.cells #[.int .i64 4, .int .i64 0, .int .i64 7] 23) ⟨w1.heap.size, 1, none⟩ zz).trans z1
  have g2 := (World.cell?_alloc_lt w2 (Obj.cells #[.int .i64 4, .int .i64 0, .int .i64 7] 23) ⟨w1.heap.size, 2, none⟩ zz).trans z2
  clear hb2
  have HB2 := Lib.hid (hB2.alloc hB2.size (Obj.cells #[.int .i64 4, .int .i64 0, .int .i64 7] 23))
  clear hB1 hB2
  go_wp2_with fail
  refine (wakes7_any _ (HP.out.stays HB2.out) (HM.out.stays HB2.out)).mono ?_
  rintro e w3 ⟨rfl, hb3⟩
  go_wp2
  go_ret
  exact ⟨rfl, HB2.out.trans (hb3.mono HB2.out.size)⟩
end Onf
end Go.Proofs.YtikjlnkpcjjigaaDoor
