/-
  The waking call of the laws of the calendar answers true.
-/
import Derived.Test.YtpkknhbhliapcaaDoorRefCiv
namespace Go.Proofs.YtpkknhbhliapcaaDoor
open Go.RowKit
namespace Civ
theorem wk_1 : numV 2000 3 1 = 11017 ∧ numE 2000 3 1 = 0 := by decide +kernel
theorem wk_2 : (dY 0 = 1970 ∧ dM 0 = 1 ∧ dD 0 = 1) ∧ dnE 0 = 0 := by decide +kernel
theorem wk_3 : numV 1900 2 29 = 0 ∧ numE 1900 2 29 = 4 := by decide +kernel
theorem wk_4 : Cal.wday 11017 = 3 ∧ Cal.mlen 2000 2 = 29 := by decide +kernel

set_option maxHeartbeats 800000 in
theorem wakes2_any (w : World) (hA : Ahead w) :
    Calls Tryd.prog 22 #[] w fun e w' => e = .returned (.bool true) ∧ Below w.heap.size w w' := by
  have HA := Lib.hid hA
  clear hA
  go_enter Tryd.func22, Tryd.ntmps22
  go_wp2_with fail
  refine (number_any _ _ _ _ HA.out (by omega) (by omega)).mono ?_
  rintro e w1 ⟨rfl, hb1⟩
  rw [wk_1.1, wk_1.2]
  have HA1 := Lib.hid (HA.out.stays hb1)
  go_wp2_with fail
  refine (date_any _ _ HA1.out).mono ?_
  rintro e w2 ⟨rfl, hb2⟩
  rw [wk_2.1.1, wk_2.1.2.1, wk_2.1.2.2, wk_2.2]
  have hb12 := hb1.trans (hb2.mono hb1.size)
  have HA2 := Lib.hid (HA1.out.stays hb2)
  go_wp2_with fail
  refine (number_any _ _ _ _ (Ahead.alloc HA2.out _) (by omega) (by omega)).mono ?_
  rintro e w3 ⟨rfl, hb3⟩
  rw [wk_3.1, wk_3.2]
  have c0 : w3.cell? ⟨w2.heap.size, 0, none⟩ = some (.int .i64 1970) := (hb3.cell (p := ⟨w2.heap.size, 0, none⟩) (by simp)).trans (by simp [World.cell?_alloc_new])
  have c1 : w3.cell? ⟨w2.heap.size, 1, none⟩ = some (.int .i64 1) := (hb3.cell (p := ⟨w2.heap.size, 1, none⟩) (by simp)).trans (by simp [World.cell?_alloc_new])
  have c2 : w3.cell? ⟨w2.heap.size, 2, none⟩ = some (.int .i64 1) := (hb3.cell (p := ⟨w2.heap.size, 2, none⟩) (by simp)).trans (by simp [World.cell?_alloc_new])
  go_wp2_with fail
  refine (weekday_any _ _).mono ?_
  rintro e w4 ⟨rfl, rfl⟩
  rw [wk_4.1]
  go_wp2_with fail
  refine (len_any _ _ _).mono ?_
  rintro e w4 ⟨rfl, rfl⟩
  rw [wk_4.2]
  go_wp2
  go_ret
  exact ⟨rfl, (hb12.alloc hb12.size _).trans (hb3.mono (by simp; have := hb12.size; omega))⟩
end Civ
end Go.Proofs.YtpkknhbhliapcaaDoor
