/-
  The waking call of the laws of the week answers true.
-/
import Derived.Test.YtpkknhbhliapcaaDoorWeek4
namespace Go.Proofs.YtpkknhbhliapcaaDoor
open Go.RowKit
namespace Wk
open Civ
theorem w3_1 : resV 2026 10 2 0 0 = 20751 ∧ resE 2026 10 2 0 0 = 0 := by decide +kernel
theorem w3_2 : (dY 20751 = 2026 ∧ dM 20751 = 10 ∧ dD 20751 = 25) ∧ dnE 20751 = 0 := by decide +kernel
theorem w3_3 : nthV 20727 20757 (-1) 0 = 20751 ∧ nthB 20727 20757 (-1) 0 = true := by decide +kernel
theorem w3_4 : noY 20751 1 = 2026 ∧ noN 20751 1 = 43 ∧ noE 20751 1 = 0 := by decide +kernel
theorem w3_5 : wkV 2026 1 = 53 ∧ wkE 2026 1 = 0 := by decide +kernel
theorem w3_6 : chE 0 0 0 = 8 := by decide +kernel

set_option maxRecDepth 100000 in
set_option maxHeartbeats 800000 in
theorem wakes3_any (w : World) (hA : Ahead w) :
    Calls Tryd.prog 33 #[] w fun e w' => e = .returned (.bool true) ∧ Below w.heap.size w w' := by
  have HA := Lib.hid hA
  clear hA
  go_enter Tryd.func33, Tryd.ntmps33
  go_wp2_with fail
  refine (resolve_any _ _ _ _ _ _ HA.out).mono ?_
  rintro e w1 ⟨rfl, hb1⟩
  rw [w3_1.1, w3_1.2]
  have HA1 := Lib.hid (HA.out.stays hb1)
  go_wp2_with fail
  refine (date_w _ _ HA1.out).mono ?_
  rintro e w2 ⟨rfl, rfl⟩
  rw [w3_2.1.1, w3_2.1.2.1, w3_2.1.2.2, w3_2.2]
  go_wp2_with fail
  refine (nth_any _ _ _ _ _ (by omega) (by omega) (by omega) (by omega)).mono ?_
  rintro e w2 ⟨rfl, rfl⟩
  rw [w3_3.1, w3_3.2]
  go_wp2_with fail
  refine (no_any _ _ _ (HA1.out.stays (by repeat (first | exact Below.refl _ _ | refine Below.setCell ?_ (by simp) _ | refine below_drewN ?_ _ | refine Below.drew ?_ | refine Below.alloc ?_ (by simp; try omega) _)))).mono ?_
  rintro e w2 ⟨rfl, hb2⟩
  rw [w3_4.1, w3_4.2.1, w3_4.2.2]
  have HA2 := Lib.hid ((HA1.out.stays (by repeat (first | exact Below.refl _ _ | refine Below.setCell ?_ (by simp) _ | refine below_drewN ?_ _ | refine Below.drew ?_ | refine Below.alloc ?_ (by simp; try omega) _))).stays hb2)
  have hsz : w1.heap.size + 1 < w2.heap.size := by have := hb2.size; simp at this; omega
  have c1 : w2.cell? ⟨w1.heap.size + 1, 1, none⟩ = some (.int .i64 10) := (hb2.cell (p := ⟨w1.heap.size + 1, 1, none⟩) (by simp)).trans (by go_simp)
  have c2 : w2.cell? ⟨w1.heap.size + 1, 2, none⟩ = some (.int .i64 25) := (hb2.cell (p := ⟨w1.heap.size + 1, 2, none⟩) (by simp)).trans (by go_simp)
  go_wp2_with fail
  refine (weeks_any _ _ _ HA2.out).mono ?_
  rintro e w3 ⟨rfl, hb3⟩
  rw [w3_5.1, w3_5.2]
  have d1 : w3.cell? ⟨w1.heap.size + 1, 1, none⟩ = some (.int .i64 10) := (hb3.cell (p := ⟨w1.heap.size + 1, 1, none⟩) hsz).trans c1
  have d2 : w3.cell? ⟨w1.heap.size + 1, 2, none⟩ = some (.int .i64 25) := (hb3.cell (p := ⟨w1.heap.size + 1, 2, none⟩) hsz).trans c2
  have hb13 : Below w1.heap.size w1 w3 := Below.trans (by repeat (first | exact Below.refl _ _ | refine Below.setCell ?_ (by simp) _ | refine below_drewN ?_ _ | refine Below.drew ?_ | refine Below.alloc ?_ (by simp; try omega) _)) ((hb2.trans (hb3.mono hb2.size)).mono (by simp; try omega))
  clear c1 c2
  go_wp2_with fail
  refine (check_any _ _ _ _).mono ?_
  rintro e w4 ⟨rfl, rfl⟩
  rw [w3_6]
  go_wp2
  go_ret
  exact ⟨rfl, (hb1.trans (hb13.mono hb1.size)).alloc (Nat.le_trans hb1.size hb13.size) _⟩
end Wk
end Go.Proofs.YtpkknhbhliapcaaDoor
