/-
  ZoneFormats: formats that are right, and that are none. (Written by gen/gen_zonn.py.)
-/
import Derived.Test.YtpcnpacllkiieaaGreatDoorZonW
import Derived.Test.YtpcnpacllkiieaaGreatDoorClForms
namespace Go.Proofs.YtpcnpacllkiieaaGreatDoor
open Go.RowKit
namespace Zon
open Sol Clk Cel Rul
def gdT : Nat → List UInt8 := fun k => (([[65], [67, 69, 37, 115, 84], [37, 122], [65, 47, 66], [43, 48, 51], [45, 37, 115], [47], [97, 47], [57]] : List (List UInt8))).getD k []
def bdT : Nat → List UInt8 := fun k => (([[], [37], [97, 37], [37, 37], [37, 83], [97, 47, 98, 47, 99], [37, 115, 37, 115], [37, 115, 47, 37, 122], [97, 32, 98], [97, 95, 98], [195, 169]] : List (List UInt8))).getD k []
theorem gd_all : ∀ k < 9, Fm.fmtB (gdT k) = true ∧ (gdT k).length ≤ 20 := by decide +kernel
theorem bd_all : ∀ k < 11, Fm.fmtB (bdT k) = false ∧ (bdT k).length ≤ 20 := by decide +kernel
set_option maxHeartbeats 3200000 in
set_option maxRecDepth 100000 in
theorem zformats_any (how : Int) (w : World) (hp : Pow w) (hA : Civ.Ahead w) (hm : Wrd.MaxL w) :
    Calls Tryz.prog 11 #[.int .i64 how] w fun e w' => e = .returned (.bool true) ∧ Below w.heap.size w w' := by
  have HP := Lib.hid hp
  have HA := Lib.hid hA
  have HM := Lib.hid hm
  obtain ⟨k, ek, hk⟩ := nat_of_u how 9 (by decide)
  obtain ⟨j, ej, hj⟩ := nat_of_u how 11 (by decide)
  have HG := Lib.hid (gd_all k (by omega))
  have HB := Lib.hid (bd_all j (by omega))
  have hc : ∀ W : World, (W.alloc (Obj.cells #[.string ⟨#[65]⟩, .string ⟨#[67, 69, 37, 115, 84]⟩, .string ⟨#[37, 122]⟩, .string ⟨#[65, 47, 66]⟩, .string ⟨#[43, 48, 51]⟩, .string ⟨#[45, 37, 115]⟩, .string ⟨#[47]⟩, .string ⟨#[97, 47]⟩, .string ⟨#[57]⟩] 9)).cell? ⟨W.heap.size, k, none⟩ = some (.string ⟨(gdT k).toArray⟩) := by
    intro W
    rw [World.cell?_alloc_new]
    have hc : k = 0 ∨ k = 1 ∨ k = 2 ∨ k = 3 ∨ k = 4 ∨ k = 5 ∨ k = 6 ∨ k = 7 ∨ k = 8 := by omega
    rcases hc with rfl | rfl | rfl | rfl | rfl | rfl | rfl | rfl | rfl <;> rfl
  have hd : ∀ W : World, (W.alloc (Obj.cells #[.string ⟨#[]⟩, .string ⟨#[37]⟩, .string ⟨#[97, 37]⟩, .string ⟨#[37, 37]⟩, .string ⟨#[37, 83]⟩, .string ⟨#[97, 47, 98, 47, 99]⟩, .string ⟨#[37, 115, 37, 115]⟩, .string ⟨#[37, 115, 47, 37, 122]⟩, .string ⟨#[97, 32, 98]⟩, .string ⟨#[97, 95, 98]⟩, .string ⟨#[195, 169]⟩] 9)).cell? ⟨W.heap.size, j, none⟩ = some (.string ⟨(bdT j).toArray⟩) := by
    intro W
    rw [World.cell?_alloc_new]
    have hc : j = 0 ∨ j = 1 ∨ j = 2 ∨ j = 3 ∨ j = 4 ∨ j = 5 ∨ j = 6 ∨ j = 7 ∨ j = 8 ∨ j = 9 ∨ j = 10 := by omega
    rcases hc with rfl | rfl | rfl | rfl | rfl | rfl | rfl | rfl | rfl | rfl | rfl <;> rfl
  have hc1 := (World.cell?_alloc_lt (w.alloc (Obj.cells #[.string ⟨#[65]⟩, .string ⟨#[67, 69, 37, 115, 84]⟩, .string ⟨#[37, 122]⟩, .string ⟨#[65, 47, 66]⟩, .string ⟨#[43, 48, 51]⟩, .string ⟨#[45, 37, 115]⟩, .string ⟨#[47]⟩, .string ⟨#[97, 47]⟩, .string ⟨#[57]⟩] 9)) (Obj.cells #[.string ⟨#[]⟩, .string ⟨#[37]⟩, .string ⟨#[97, 37]⟩, .string ⟨#[37, 37]⟩, .string ⟨#[37, 83]⟩, .string ⟨#[97, 47, 98, 47, 99]⟩, .string ⟨#[37, 115, 37, 115]⟩, .string ⟨#[37, 115, 47, 37, 122]⟩, .string ⟨#[97, 32, 98]⟩, .string ⟨#[97, 95, 98]⟩, .string ⟨#[195, 169]⟩] 9) ⟨w.heap.size, k, none⟩ (by simp)).trans (hc w)
  have hd1 := Lib.hid (hd (w.alloc (Obj.cells #[.string ⟨#[65]⟩, .string ⟨#[67, 69, 37, 115, 84]⟩, .string ⟨#[37, 122]⟩, .string ⟨#[65, 47, 66]⟩, .string ⟨#[43, 48, 51]⟩, .string ⟨#[45, 37, 115]⟩, .string ⟨#[47]⟩, .string ⟨#[97, 47]⟩, .string ⟨#[57]⟩] 9)))
  clear hc hd
  obtain ⟨Z, hZ⟩ : ∃ Z, gdT k = Z := ⟨_, rfl⟩
  obtain ⟨Y, hY⟩ : ∃ Z, bdT j = Z := ⟨_, rfl⟩
  rw [hZ] at hc1 HG
  rw [hY] at hd1 HB
  have HZ : Hid ((⟨Z.toArray⟩ : ByteArray).size ≤ 1000000) := Lib.hid (by have := HG.out.2; show Z.length ≤ 1000000; omega)
  have HY : Hid ((⟨Y.toArray⟩ : ByteArray).size ≤ 1000000) := Lib.hid (by have := HB.out.2; show Y.length ≤ 1000000; omega)
  have HG1 := Lib.hid HG.out.1
  have HB1 := Lib.hid HB.out.1
  clear hp hm hA hZ hY HG HB
  go_enter Tryz.func11, Tryz.ntmps11
  go_wp2_with fail
  refine (Fm.fmt_to _ Z true _ (HM.out.stays (by repeat (first | with_reducible exact Below.refl _ _ | refine Below.alloc ?_ (by simp; try omega) _))) HZ.out (Lib.hid rfl) HG1).mono ?_
  rintro e w1 ⟨rfl, hb1⟩
  have B1 := Lib.hid (bstep (show Below w.heap.size w _ from (by repeat (first | with_reducible exact Below.refl _ _ | refine Below.alloc ?_ (by simp; try omega) _))) hb1)
  have hd2 := (hb1.cell (p := ⟨w.heap.size + 1, j, none⟩) (by simp)).trans (by have := hd1.out; simpa using this)
  clear hb1 hc1
  go_wp2_with fail
  refine (Fm.fmt_to _ Y false _ (HM.out.stays B1.out) HY.out (Lib.hid rfl) HB1).mono ?_
  rintro e w2 ⟨rfl, hb2⟩
  have B2 := Lib.hid (bstep B1.out hb2)
  clear hb2
  go_wp2_with fail
  refine (wakes10_any _ (HP.out.stays B2.out) (HA.out.stays B2.out) (HM.out.stays B2.out)).mono ?_
  rintro e w3 ⟨rfl, hb3⟩
  go_wp2
  go_ret
  exact ⟨rfl, bstep B2.out hb3⟩
end Zon
end Go.Proofs.YtpcnpacllkiieaaGreatDoor
