/-
  WeekBad: the law answers true at every two integers, in whatever world that holds the table of the months.
-/
import Derived.Test.YtopclopmgnkoeabDoorLaw3
namespace Go.Proofs.YtopclopmgnkoeabDoor
open Go.RowKit
namespace Wk
open Civ
theorem mlen_0 (y : Int) : Cal.mlen y 0 = 0 := by simp [Cal.mlen]
theorem mlen_2' (y : Int) : Cal.mlen y 2 = 28 + Cal.lp y := by rw [Cal.mlen, if_pos rfl]
theorem bad_f (Y : Int) (y1 : 1 ≤ Y) (y9 : Y ≤ 9999) : resE Y 4 3 0 31 = 4 ∧ resV Y 4 3 0 31 = 0 :=
  res_4 (onOk_mk (by omega)) ⟨y1, y9⟩ (by rw [rday, if_neg (by decide)]; exact (numE_no (by rw [show Cal.mlen Y 4 = 30 from rfl]; omega)).1)
theorem bad_g (Y : Int) (y1 : 1 ≤ Y) (y9 : Y ≤ 9999) : resE Y 0 2 0 0 = 4 ∧ resV Y 0 2 0 0 = 0 :=
  res_4 (onOk_mk (by omega)) ⟨y1, y9⟩ (by rw [rday, if_pos rfl]; exact (numE_no (by rw [mlen_0]; omega)).1)
theorem bad_h : resE 0 3 2 0 0 = 23 ∧ resV 0 3 2 0 0 = 0 := by decide +kernel
theorem bad_i (Y : Int) (y1 : 1 ≤ Y) (y9 : Y ≤ 9999) : (Cal.long Y = true ∧ resE Y 2 1 0 29 = 0) ∨ (Cal.long Y = false ∧ resE Y 2 1 0 29 = 4 ∧ resV Y 2 1 0 29 = 0) := by
  cases h : Cal.long Y with
  | true =>
    refine Or.inl ⟨rfl, (res_0 (onOk_mk (by omega)) ⟨y1, y9⟩ ?_).1⟩
    rw [rday, if_neg (by decide)]
    exact (numE_yes (by rw [mlen_2', lp_yes h]; omega)).1
  | false =>
    refine Or.inr ⟨rfl, res_4 (onOk_mk (by omega)) ⟨y1, y9⟩ ?_⟩
    rw [rday, if_neg (by decide)]
    exact (numE_no (by rw [mlen_2', lp_no h]; omega)).1

set_option maxRecDepth 100000 in
set_option maxHeartbeats 6400000 in
theorem bad_any (how year : Int) (w : World) (hA : Ahead w) :
    Calls Tryd.prog 6 #[.int .i64 how, .int .i64 year] w fun e w' => e = .returned (.bool true) ∧ Below w.heap.size w w' := by
  have HA := Lib.hid hA
  clear hA
  have y0 : 0 ≤ (IntKind.u64.wrap year).tmod 9999 := Int.tmod_nonneg _ (u64_nn year)
  have y1 : (IntKind.u64.wrap year).tmod 9999 < 9999 := Int.tmod_lt_of_pos _ (by omega)
  have r0 : 0 ≤ (IntKind.u64.wrap how).tmod 9 := Int.tmod_nonneg _ (u64_nn how)
  have r1 : (IntKind.u64.wrap how).tmod 9 < 9 := Int.tmod_lt_of_pos _ (by omega)
  obtain ⟨r, hr⟩ : ∃ r, (IntKind.u64.wrap how).tmod 9 = r := ⟨_, rfl⟩
  rw [hr] at r0 r1
  have hcase : r = 0 ∨ r = 1 ∨ r = 2 ∨ r = 3 ∨ r = 4 ∨ r = 5 ∨ r = 6 ∨ r = 7 ∨ r = 8 := by omega
  clear r0 r1
  rcases hcase with rfl | rfl | rfl | rfl | rfl | rfl | rfl | rfl | rfl
  · go_enter Tryd.func6, Tryd.ntmps6
    go_wp2_with fail
    generalize (IntKind.u64.wrap year).tmod 9999 = yy at *
    obtain ⟨Y, hY⟩ : ∃ Y, 1 + yy = Y := ⟨_, rfl⟩
    have Y1 : 1 ≤ Y ∧ Y ≤ 9999 := by omega
    rw [hY]
    clear hY y0 y1
    obtain ⟨y1, y9⟩ := Y1
    have R := Lib.hid (res_8 (y := Y) (m := 3) (k := 0) (v := 0) (d := 0) (onOk_no (by omega)))
    have RC := Lib.hid (chE_no (k := 0) (w := 0) (d := 0) (onOk_no (by omega)))
    have RF := Lib.hid (bad_f Y y1 y9)
    have RG := Lib.hid (bad_g Y y1 y9)
    have RI := Lib.hid (bad_i Y y1 y9)
    refine (resolve_any _ _ _ _ _ _ (HA.out.stays (by repeat (first | exact Below.refl _ _ | refine Below.setCell ?_ (by simp) _ | refine below_drewN ?_ _ | refine Below.drew ?_ | refine Below.alloc ?_ (by simp; try omega) _)))).mono ?_
    rintro e w1 ⟨rfl, hb1⟩
    rw [R.out.1, R.out.2]
    have hw1 : w.heap.size + 1 < w1.heap.size := by have := hb1.size; simp at this; omega
    have c0 : w1.cell? ⟨w.heap.size + 1, 0, none⟩ = some (.int .i64 0) := (hb1.cell (p := ⟨w.heap.size + 1, 0, none⟩) (by simp)).trans (by go_simp)
    have c1 : w1.cell? ⟨w.heap.size + 1, 1, none⟩ = some (.int .i64 0) := (hb1.cell (p := ⟨w.heap.size + 1, 1, none⟩) (by simp)).trans (by go_simp)
    have c2 : w1.cell? ⟨w.heap.size + 1, 2, none⟩ = some (.int .i64 0) := (hb1.cell (p := ⟨w.heap.size + 1, 2, none⟩) (by simp)).trans (by go_simp)
    have hb1 : Below w.heap.size w w1 := Below.trans (by repeat (first | exact Below.refl _ _ | refine Below.setCell ?_ (by simp) _ | refine below_drewN ?_ _ | refine Below.drew ?_ | refine Below.alloc ?_ (by simp; try omega) _)) (hb1.mono (by simp; try omega))
    have HA1 := Lib.hid (HA.out.stays hb1)
    go_wp2_with fail
    refine (resolve_any _ _ _ _ _ _ HA1.out).mono ?_
    rintro e w2 ⟨rfl, hb2⟩
    rw [RF.out.1, RF.out.2]
    have HA2 := Lib.hid (HA1.out.stays hb2)
    go_wp2_with fail
    refine (resolve_any _ _ _ _ _ _ HA2.out).mono ?_
    rintro e w3 ⟨rfl, hb3⟩
    rw [RG.out.1, RG.out.2]
    have hb3 := hb2.trans (hb3.mono hb2.size)
    have HA3 := Lib.hid (HA1.out.stays hb3)
    go_wp2_with fail
    refine (resolve_any _ _ _ _ _ _ HA3.out).mono ?_
    rintro e w4 ⟨rfl, hb4⟩
    rw [bad_h.1, bad_h.2]
    have hb4 := hb3.trans (hb4.mono hb3.size)
    have HA4 := Lib.hid (HA1.out.stays hb4)
    go_wp2_with fail
    refine (resolve_any _ _ _ _ _ _ HA4.out).mono ?_
    rintro e w5 ⟨rfl, hb5⟩
    have hb5 := hb4.trans (hb5.mono hb4.size)
    have HA5 := Lib.hid (HA1.out.stays hb5)
    have d0 := (hb5.cell (p := ⟨w.heap.size + 1, 0, none⟩) hw1).trans c0
    have d1 := (hb5.cell (p := ⟨w.heap.size + 1, 1, none⟩) hw1).trans c1
    have d2 := (hb5.cell (p := ⟨w.heap.size + 1, 2, none⟩) hw1).trans c2
    clear hb2 hb3 hb4 c0 c1 c2
    have hbF := hb1.trans (hb5.mono hb1.size)
    rcases RI.out with ⟨i1, i2⟩ | ⟨i1, i2, i3⟩
    · rw [i2]
      have HL := Lib.hid i1
      clear i1 i2
      go_wp2_with fail
      refine (check_at _ _ _ _ _ RC).mono ?_
      rintro e w6 ⟨rfl, rfl⟩
      go_wp2_with fail
      refine (long_any _ _).mono ?_
      rintro e w6 ⟨rfl, rfl⟩
      rw [HL.out]
      go_wp2_with fail
      refine (wakes3_any _ (HA5.out.stays (by repeat (first | exact Below.refl _ _ | refine Below.setCell ?_ (by simp) _ | refine below_drewN ?_ _ | refine Below.drew ?_ | refine Below.alloc ?_ (by simp; try omega) _)))).mono ?_
      rintro e w6 ⟨rfl, hb6⟩
      go_wp2
      go_ret
      exact ⟨rfl, below_chain hbF (by repeat (first | exact Below.refl _ _ | refine Below.setCell ?_ (by simp) _ | refine below_drewN ?_ _ | refine Below.drew ?_ | refine Below.alloc ?_ (by simp; try omega) _)) hb6⟩
    · rw [i2, i3]
      have HL := Lib.hid i1
      clear i1 i2 i3
      go_wp2_with fail
      refine (check_at _ _ _ _ _ RC).mono ?_
      rintro e w6 ⟨rfl, rfl⟩
      go_wp2_with fail
      refine (long_any _ _).mono ?_
      rintro e w6 ⟨rfl, rfl⟩
      rw [HL.out]
      go_wp2_with fail
      refine (wakes3_any _ (HA5.out.stays (by repeat (first | exact Below.refl _ _ | refine Below.setCell ?_ (by simp) _ | refine below_drewN ?_ _ | refine Below.drew ?_ | refine Below.alloc ?_ (by simp; try omega) _)))).mono ?_
      rintro e w6 ⟨rfl, hb6⟩
      go_wp2
      go_ret
      exact ⟨rfl, below_chain hbF (by repeat (first | exact Below.refl _ _ | refine Below.setCell ?_ (by simp) _ | refine below_drewN ?_ _ | refine Below.drew ?_ | refine Below.alloc ?_ (by simp; try omega) _)) hb6⟩
  · go_enter Tryd.func6, Tryd.ntmps6
    go_wp2_with fail
    generalize (IntKind.u64.wrap year).tmod 9999 = yy at *
    obtain ⟨Y, hY⟩ : ∃ Y, 1 + yy = Y := ⟨_, rfl⟩
    have Y1 : 1 ≤ Y ∧ Y ≤ 9999 := by omega
    rw [hY]
    clear hY y0 y1
    obtain ⟨y1, y9⟩ := Y1
    have R := Lib.hid (res_8 (y := Y) (m := 3) (k := 5) (v := 0) (d := 1) (onOk_no (by omega)))
    have RC := Lib.hid (chE_no (k := 5) (w := 0) (d := 1) (onOk_no (by omega)))
    have RF := Lib.hid (bad_f Y y1 y9)
    have RG := Lib.hid (bad_g Y y1 y9)
    have RI := Lib.hid (bad_i Y y1 y9)
    refine (resolve_any _ _ _ _ _ _ (HA.out.stays (by repeat (first | exact Below.refl _ _ | refine Below.setCell ?_ (by simp) _ | refine below_drewN ?_ _ | refine Below.drew ?_ | refine Below.alloc ?_ (by simp; try omega) _)))).mono ?_
    rintro e w1 ⟨rfl, hb1⟩
    rw [R.out.1, R.out.2]
    have hw1 : w.heap.size + 1 < w1.heap.size := by have := hb1.size; simp at this; omega
    have c0 : w1.cell? ⟨w.heap.size + 1, 0, none⟩ = some (.int .i64 5) := (hb1.cell (p := ⟨w.heap.size + 1, 0, none⟩) (by simp)).trans (by go_simp)
    have c1 : w1.cell? ⟨w.heap.size + 1, 1, none⟩ = some (.int .i64 0) := (hb1.cell (p := ⟨w.heap.size + 1, 1, none⟩) (by simp)).trans (by go_simp)
    have c2 : w1.cell? ⟨w.heap.size + 1, 2, none⟩ = some (.int .i64 1) := (hb1.cell (p := ⟨w.heap.size + 1, 2, none⟩) (by simp)).trans (by go_simp)
    have hb1 : Below w.heap.size w w1 := Below.trans (by repeat (first | exact Below.refl _ _ | refine Below.setCell ?_ (by simp) _ | refine below_drewN ?_ _ | refine Below.drew ?_ | refine Below.alloc ?_ (by simp; try omega) _)) (hb1.mono (by simp; try omega))
    have HA1 := Lib.hid (HA.out.stays hb1)
    go_wp2_with fail
    refine (resolve_any _ _ _ _ _ _ HA1.out).mono ?_
    rintro e w2 ⟨rfl, hb2⟩
    rw [RF.out.1, RF.out.2]
    have HA2 := Lib.hid (HA1.out.stays hb2)
    go_wp2_with fail
    refine (resolve_any _ _ _ _ _ _ HA2.out).mono ?_
    rintro e w3 ⟨rfl, hb3⟩
    rw [RG.out.1, RG.out.2]
    have hb3 := hb2.trans (hb3.mono hb2.size)
    have HA3 := Lib.hid (HA1.out.stays hb3)
    go_wp2_with fail
    refine (resolve_any _ _ _ _ _ _ HA3.out).mono ?_
    rintro e w4 ⟨rfl, hb4⟩
    rw [bad_h.1, bad_h.2]
    have hb4 := hb3.trans (hb4.mono hb3.size)
    have HA4 := Lib.hid (HA1.out.stays hb4)
    go_wp2_with fail
    refine (resolve_any _ _ _ _ _ _ HA4.out).mono ?_
    rintro e w5 ⟨rfl, hb5⟩
    have hb5 := hb4.trans (hb5.mono hb4.size)
    have HA5 := Lib.hid (HA1.out.stays hb5)
    have d0 := (hb5.cell (p := ⟨w.heap.size + 1, 0, none⟩) hw1).trans c0
    have d1 := (hb5.cell (p := ⟨w.heap.size + 1, 1, none⟩) hw1).trans c1
    have d2 := (hb5.cell (p := ⟨w.heap.size + 1, 2, none⟩) hw1).trans c2
    clear hb2 hb3 hb4 c0 c1 c2
    have hbF := hb1.trans (hb5.mono hb1.size)
    rcases RI.out with ⟨i1, i2⟩ | ⟨i1, i2, i3⟩
    · rw [i2]
      have HL := Lib.hid i1
      clear i1 i2
      go_wp2_with fail
      refine (check_at _ _ _ _ _ RC).mono ?_
      rintro e w6 ⟨rfl, rfl⟩
      go_wp2_with fail
      refine (long_any _ _).mono ?_
      rintro e w6 ⟨rfl, rfl⟩
      rw [HL.out]
      go_wp2_with fail
      refine (wakes3_any _ (HA5.out.stays (by repeat (first | exact Below.refl _ _ | refine Below.setCell ?_ (by simp) _ | refine below_drewN ?_ _ | refine Below.drew ?_ | refine Below.alloc ?_ (by simp; try omega) _)))).mono ?_
      rintro e w6 ⟨rfl, hb6⟩
      go_wp2
      go_ret
      exact ⟨rfl, below_chain hbF (by repeat (first | exact Below.refl _ _ | refine Below.setCell ?_ (by simp) _ | refine below_drewN ?_ _ | refine Below.drew ?_ | refine Below.alloc ?_ (by simp; try omega) _)) hb6⟩
    · rw [i2, i3]
      have HL := Lib.hid i1
      clear i1 i2 i3
      go_wp2_with fail
      refine (check_at _ _ _ _ _ RC).mono ?_
      rintro e w6 ⟨rfl, rfl⟩
      go_wp2_with fail
      refine (long_any _ _).mono ?_
      rintro e w6 ⟨rfl, rfl⟩
      rw [HL.out]
      go_wp2_with fail
      refine (wakes3_any _ (HA5.out.stays (by repeat (first | exact Below.refl _ _ | refine Below.setCell ?_ (by simp) _ | refine below_drewN ?_ _ | refine Below.drew ?_ | refine Below.alloc ?_ (by simp; try omega) _)))).mono ?_
      rintro e w6 ⟨rfl, hb6⟩
      go_wp2
      go_ret
      exact ⟨rfl, below_chain hbF (by repeat (first | exact Below.refl _ _ | refine Below.setCell ?_ (by simp) _ | refine below_drewN ?_ _ | refine Below.drew ?_ | refine Below.alloc ?_ (by simp; try omega) _)) hb6⟩
  · go_enter Tryd.func6, Tryd.ntmps6
    go_wp2_with fail
    generalize (IntKind.u64.wrap year).tmod 9999 = yy at *
    obtain ⟨Y, hY⟩ : ∃ Y, 1 + yy = Y := ⟨_, rfl⟩
    have Y1 : 1 ≤ Y ∧ Y ≤ 9999 := by omega
    rw [hY]
    clear hY y0 y1
    obtain ⟨y1, y9⟩ := Y1
    have R := Lib.hid (res_8 (y := Y) (m := 3) (k := 1) (v := 0) (d := 0) (onOk_no (by omega)))
    have RC := Lib.hid (chE_no (k := 1) (w := 0) (d := 0) (onOk_no (by omega)))
    have RF := Lib.hid (bad_f Y y1 y9)
    have RG := Lib.hid (bad_g Y y1 y9)
    have RI := Lib.hid (bad_i Y y1 y9)
    refine (resolve_any _ _ _ _ _ _ (HA.out.stays (by repeat (first | exact Below.refl _ _ | refine Below.setCell ?_ (by simp) _ | refine below_drewN ?_ _ | refine Below.drew ?_ | refine Below.alloc ?_ (by simp; try omega) _)))).mono ?_
    rintro e w1 ⟨rfl, hb1⟩
    rw [R.out.1, R.out.2]
    have hw1 : w.heap.size + 1 < w1.heap.size := by have := hb1.size; simp at this; omega
    have c0 : w1.cell? ⟨w.heap.size + 1, 0, none⟩ = some (.int .i64 1) := (hb1.cell (p := ⟨w.heap.size + 1, 0, none⟩) (by simp)).trans (by go_simp)
    have c1 : w1.cell? ⟨w.heap.size + 1, 1, none⟩ = some (.int .i64 0) := (hb1.cell (p := ⟨w.heap.size + 1, 1, none⟩) (by simp)).trans (by go_simp)
    have c2 : w1.cell? ⟨w.heap.size + 1, 2, none⟩ = some (.int .i64 0) := (hb1.cell (p := ⟨w.heap.size + 1, 2, none⟩) (by simp)).trans (by go_simp)
    have hb1 : Below w.heap.size w w1 := Below.trans (by repeat (first | exact Below.refl _ _ | refine Below.setCell ?_ (by simp) _ | refine below_drewN ?_ _ | refine Below.drew ?_ | refine Below.alloc ?_ (by simp; try omega) _)) (hb1.mono (by simp; try omega))
    have HA1 := Lib.hid (HA.out.stays hb1)
    go_wp2_with fail
    refine (resolve_any _ _ _ _ _ _ HA1.out).mono ?_
    rintro e w2 ⟨rfl, hb2⟩
    rw [RF.out.1, RF.out.2]
    have HA2 := Lib.hid (HA1.out.stays hb2)
    go_wp2_with fail
    refine (resolve_any _ _ _ _ _ _ HA2.out).mono ?_
    rintro e w3 ⟨rfl, hb3⟩
    rw [RG.out.1, RG.out.2]
    have hb3 := hb2.trans (hb3.mono hb2.size)
    have HA3 := Lib.hid (HA1.out.stays hb3)
    go_wp2_with fail
    refine (resolve_any _ _ _ _ _ _ HA3.out).mono ?_
    rintro e w4 ⟨rfl, hb4⟩
    rw [bad_h.1, bad_h.2]
    have hb4 := hb3.trans (hb4.mono hb3.size)
    have HA4 := Lib.hid (HA1.out.stays hb4)
    go_wp2_with fail
    refine (resolve_any _ _ _ _ _ _ HA4.out).mono ?_
    rintro e w5 ⟨rfl, hb5⟩
    have hb5 := hb4.trans (hb5.mono hb4.size)
    have HA5 := Lib.hid (HA1.out.stays hb5)
    have d0 := (hb5.cell (p := ⟨w.heap.size + 1, 0, none⟩) hw1).trans c0
    have d1 := (hb5.cell (p := ⟨w.heap.size + 1, 1, none⟩) hw1).trans c1
    have d2 := (hb5.cell (p := ⟨w.heap.size + 1, 2, none⟩) hw1).trans c2
    clear hb2 hb3 hb4 c0 c1 c2
    have hbF := hb1.trans (hb5.mono hb1.size)
    rcases RI.out with ⟨i1, i2⟩ | ⟨i1, i2, i3⟩
    · rw [i2]
      have HL := Lib.hid i1
      clear i1 i2
      go_wp2_with fail
      refine (check_at _ _ _ _ _ RC).mono ?_
      rintro e w6 ⟨rfl, rfl⟩
      go_wp2_with fail
      refine (long_any _ _).mono ?_
      rintro e w6 ⟨rfl, rfl⟩
      rw [HL.out]
      go_wp2_with fail
      refine (wakes3_any _ (HA5.out.stays (by repeat (first | exact Below.refl _ _ | refine Below.setCell ?_ (by simp) _ | refine below_drewN ?_ _ | refine Below.drew ?_ | refine Below.alloc ?_ (by simp; try omega) _)))).mono ?_
      rintro e w6 ⟨rfl, hb6⟩
      go_wp2
      go_ret
      exact ⟨rfl, below_chain hbF (by repeat (first | exact Below.refl _ _ | refine Below.setCell ?_ (by simp) _ | refine below_drewN ?_ _ | refine Below.drew ?_ | refine Below.alloc ?_ (by simp; try omega) _)) hb6⟩
    · rw [i2, i3]
      have HL := Lib.hid i1
      clear i1 i2 i3
      go_wp2_with fail
      refine (check_at _ _ _ _ _ RC).mono ?_
      rintro e w6 ⟨rfl, rfl⟩
      go_wp2_with fail
      refine (long_any _ _).mono ?_
      rintro e w6 ⟨rfl, rfl⟩
      rw [HL.out]
      go_wp2_with fail
      refine (wakes3_any _ (HA5.out.stays (by repeat (first | exact Below.refl _ _ | refine Below.setCell ?_ (by simp) _ | refine below_drewN ?_ _ | refine Below.drew ?_ | refine Below.alloc ?_ (by simp; try omega) _)))).mono ?_
      rintro e w6 ⟨rfl, hb6⟩
      go_wp2
      go_ret
      exact ⟨rfl, below_chain hbF (by repeat (first | exact Below.refl _ _ | refine Below.setCell ?_ (by simp) _ | refine below_drewN ?_ _ | refine Below.drew ?_ | refine Below.alloc ?_ (by simp; try omega) _)) hb6⟩
  · go_enter Tryd.func6, Tryd.ntmps6
    go_wp2_with fail
    generalize (IntKind.u64.wrap year).tmod 9999 = yy at *
    obtain ⟨Y, hY⟩ : ∃ Y, 1 + yy = Y := ⟨_, rfl⟩
    have Y1 : 1 ≤ Y ∧ Y ≤ 9999 := by omega
    rw [hY]
    clear hY y0 y1
    obtain ⟨y1, y9⟩ := Y1
    have R := Lib.hid (res_8 (y := Y) (m := 3) (k := 1) (v := 0) (d := 32) (onOk_no (by omega)))
    have RC := Lib.hid (chE_no (k := 1) (w := 0) (d := 32) (onOk_no (by omega)))
    have RF := Lib.hid (bad_f Y y1 y9)
    have RG := Lib.hid (bad_g Y y1 y9)
    have RI := Lib.hid (bad_i Y y1 y9)
    refine (resolve_any _ _ _ _ _ _ (HA.out.stays (by repeat (first | exact Below.refl _ _ | refine Below.setCell ?_ (by simp) _ | refine below_drewN ?_ _ | refine Below.drew ?_ | refine Below.alloc ?_ (by simp; try omega) _)))).mono ?_
    rintro e w1 ⟨rfl, hb1⟩
    rw [R.out.1, R.out.2]
    have hw1 : w.heap.size + 1 < w1.heap.size := by have := hb1.size; simp at this; omega
    have c0 : w1.cell? ⟨w.heap.size + 1, 0, none⟩ = some (.int .i64 1) := (hb1.cell (p := ⟨w.heap.size + 1, 0, none⟩) (by simp)).trans (by go_simp)
    have c1 : w1.cell? ⟨w.heap.size + 1, 1, none⟩ = some (.int .i64 0) := (hb1.cell (p := ⟨w.heap.size + 1, 1, none⟩) (by simp)).trans (by go_simp)
    have c2 : w1.cell? ⟨w.heap.size + 1, 2, none⟩ = some (.int .i64 32) := (hb1.cell (p := ⟨w.heap.size + 1, 2, none⟩) (by simp)).trans (by go_simp)
    have hb1 : Below w.heap.size w w1 := Below.trans (by repeat (first | exact Below.refl _ _ | refine Below.setCell ?_ (by simp) _ | refine below_drewN ?_ _ | refine Below.drew ?_ | refine Below.alloc ?_ (by simp; try omega) _)) (hb1.mono (by simp; try omega))
    have HA1 := Lib.hid (HA.out.stays hb1)
    go_wp2_with fail
    refine (resolve_any _ _ _ _ _ _ HA1.out).mono ?_
    rintro e w2 ⟨rfl, hb2⟩
    rw [RF.out.1, RF.out.2]
    have HA2 := Lib.hid (HA1.out.stays hb2)
    go_wp2_with fail
    refine (resolve_any _ _ _ _ _ _ HA2.out).mono ?_
    rintro e w3 ⟨rfl, hb3⟩
    rw [RG.out.1, RG.out.2]
    have hb3 := hb2.trans (hb3.mono hb2.size)
    have HA3 := Lib.hid (HA1.out.stays hb3)
    go_wp2_with fail
    refine (resolve_any _ _ _ _ _ _ HA3.out).mono ?_
    rintro e w4 ⟨rfl, hb4⟩
    rw [bad_h.1, bad_h.2]
    have hb4 := hb3.trans (hb4.mono hb3.size)
    have HA4 := Lib.hid (HA1.out.stays hb4)
    go_wp2_with fail
    refine (resolve_any _ _ _ _ _ _ HA4.out).mono ?_
    rintro e w5 ⟨rfl, hb5⟩
    have hb5 := hb4.trans (hb5.mono hb4.size)
    have HA5 := Lib.hid (HA1.out.stays hb5)
    have d0 := (hb5.cell (p := ⟨w.heap.size + 1, 0, none⟩) hw1).trans c0
    have d1 := (hb5.cell (p := ⟨w.heap.size + 1, 1, none⟩) hw1).trans c1
    have d2 := (hb5.cell (p := ⟨w.heap.size + 1, 2, none⟩) hw1).trans c2
    clear hb2 hb3 hb4 c0 c1 c2
    have hbF := hb1.trans (hb5.mono hb1.size)
    rcases RI.out with ⟨i1, i2⟩ | ⟨i1, i2, i3⟩
    · rw [i2]
      have HL := Lib.hid i1
      clear i1 i2
      go_wp2_with fail
      refine (check_at _ _ _ _ _ RC).mono ?_
      rintro e w6 ⟨rfl, rfl⟩
      go_wp2_with fail
      refine (long_any _ _).mono ?_
      rintro e w6 ⟨rfl, rfl⟩
      rw [HL.out]
      go_wp2_with fail
      refine (wakes3_any _ (HA5.out.stays (by repeat (first | exact Below.refl _ _ | refine Below.setCell ?_ (by simp) _ | refine below_drewN ?_ _ | refine Below.drew ?_ | refine Below.alloc ?_ (by simp; try omega) _)))).mono ?_
      rintro e w6 ⟨rfl, hb6⟩
      go_wp2
      go_ret
      exact ⟨rfl, below_chain hbF (by repeat (first | exact Below.refl _ _ | refine Below.setCell ?_ (by simp) _ | refine below_drewN ?_ _ | refine Below.drew ?_ | refine Below.alloc ?_ (by simp; try omega) _)) hb6⟩
    · rw [i2, i3]
      have HL := Lib.hid i1
      clear i1 i2 i3
      go_wp2_with fail
      refine (check_at _ _ _ _ _ RC).mono ?_
      rintro e w6 ⟨rfl, rfl⟩
      go_wp2_with fail
      refine (long_any _ _).mono ?_
      rintro e w6 ⟨rfl, rfl⟩
      rw [HL.out]
      go_wp2_with fail
      refine (wakes3_any _ (HA5.out.stays (by repeat (first | exact Below.refl _ _ | refine Below.setCell ?_ (by simp) _ | refine below_drewN ?_ _ | refine Below.drew ?_ | refine Below.alloc ?_ (by simp; try omega) _)))).mono ?_
      rintro e w6 ⟨rfl, hb6⟩
      go_wp2
      go_ret
      exact ⟨rfl, below_chain hbF (by repeat (first | exact Below.refl _ _ | refine Below.setCell ?_ (by simp) _ | refine below_drewN ?_ _ | refine Below.drew ?_ | refine Below.alloc ?_ (by simp; try omega) _)) hb6⟩
  · go_enter Tryd.func6, Tryd.ntmps6
    go_wp2_with fail
    generalize (IntKind.u64.wrap year).tmod 9999 = yy at *
    obtain ⟨Y, hY⟩ : ∃ Y, 1 + yy = Y := ⟨_, rfl⟩
    have Y1 : 1 ≤ Y ∧ Y ≤ 9999 := by omega
    rw [hY]
    clear hY y0 y1
    obtain ⟨y1, y9⟩ := Y1
    have R := Lib.hid (res_8 (y := Y) (m := 3) (k := 1) (v := 1) (d := 1) (onOk_no (by omega)))
    have RC := Lib.hid (chE_no (k := 1) (w := 1) (d := 1) (onOk_no (by omega)))
    have RF := Lib.hid (bad_f Y y1 y9)
    have RG := Lib.hid (bad_g Y y1 y9)
    have RI := Lib.hid (bad_i Y y1 y9)
    refine (resolve_any _ _ _ _ _ _ (HA.out.stays (by repeat (first | exact Below.refl _ _ | refine Below.setCell ?_ (by simp) _ | refine below_drewN ?_ _ | refine Below.drew ?_ | refine Below.alloc ?_ (by simp; try omega) _)))).mono ?_
    rintro e w1 ⟨rfl, hb1⟩
    rw [R.out.1, R.out.2]
    have hw1 : w.heap.size + 1 < w1.heap.size := by have := hb1.size; simp at this; omega
    have c0 : w1.cell? ⟨w.heap.size + 1, 0, none⟩ = some (.int .i64 1) := (hb1.cell (p := ⟨w.heap.size + 1, 0, none⟩) (by simp)).trans (by go_simp)
    have c1 : w1.cell? ⟨w.heap.size + 1, 1, none⟩ = some (.int .i64 1) := (hb1.cell (p := ⟨w.heap.size + 1, 1, none⟩) (by simp)).trans (by go_simp)
    have c2 : w1.cell? ⟨w.heap.size + 1, 2, none⟩ = some (.int .i64 1) := (hb1.cell (p := ⟨w.heap.size + 1, 2, none⟩) (by simp)).trans (by go_simp)
    have hb1 : Below w.heap.size w w1 := Below.trans (by repeat (first | exact Below.refl _ _ | refine Below.setCell ?_ (by simp) _ | refine below_drewN ?_ _ | refine Below.drew ?_ | refine Below.alloc ?_ (by simp; try omega) _)) (hb1.mono (by simp; try omega))
    have HA1 := Lib.hid (HA.out.stays hb1)
    go_wp2_with fail
    refine (resolve_any _ _ _ _ _ _ HA1.out).mono ?_
    rintro e w2 ⟨rfl, hb2⟩
    rw [RF.out.1, RF.out.2]
    have HA2 := Lib.hid (HA1.out.stays hb2)
    go_wp2_with fail
    refine (resolve_any _ _ _ _ _ _ HA2.out).mono ?_
    rintro e w3 ⟨rfl, hb3⟩
    rw [RG.out.1, RG.out.2]
    have hb3 := hb2.trans (hb3.mono hb2.size)
    have HA3 := Lib.hid (HA1.out.stays hb3)
    go_wp2_with fail
    refine (resolve_any _ _ _ _ _ _ HA3.out).mono ?_
    rintro e w4 ⟨rfl, hb4⟩
    rw [bad_h.1, bad_h.2]
    have hb4 := hb3.trans (hb4.mono hb3.size)
    have HA4 := Lib.hid (HA1.out.stays hb4)
    go_wp2_with fail
    refine (resolve_any _ _ _ _ _ _ HA4.out).mono ?_
    rintro e w5 ⟨rfl, hb5⟩
    have hb5 := hb4.trans (hb5.mono hb4.size)
    have HA5 := Lib.hid (HA1.out.stays hb5)
    have d0 := (hb5.cell (p := ⟨w.heap.size + 1, 0, none⟩) hw1).trans c0
    have d1 := (hb5.cell (p := ⟨w.heap.size + 1, 1, none⟩) hw1).trans c1
    have d2 := (hb5.cell (p := ⟨w.heap.size + 1, 2, none⟩) hw1).trans c2
    clear hb2 hb3 hb4 c0 c1 c2
    have hbF := hb1.trans (hb5.mono hb1.size)
    rcases RI.out with ⟨i1, i2⟩ | ⟨i1, i2, i3⟩
    · rw [i2]
      have HL := Lib.hid i1
      clear i1 i2
      go_wp2_with fail
      refine (check_at _ _ _ _ _ RC).mono ?_
      rintro e w6 ⟨rfl, rfl⟩
      go_wp2_with fail
      refine (long_any _ _).mono ?_
      rintro e w6 ⟨rfl, rfl⟩
      rw [HL.out]
      go_wp2_with fail
      refine (wakes3_any _ (HA5.out.stays (by repeat (first | exact Below.refl _ _ | refine Below.setCell ?_ (by simp) _ | refine below_drewN ?_ _ | refine Below.drew ?_ | refine Below.alloc ?_ (by simp; try omega) _)))).mono ?_
      rintro e w6 ⟨rfl, hb6⟩
      go_wp2
      go_ret
      exact ⟨rfl, below_chain hbF (by repeat (first | exact Below.refl _ _ | refine Below.setCell ?_ (by simp) _ | refine below_drewN ?_ _ | refine Below.drew ?_ | refine Below.alloc ?_ (by simp; try omega) _)) hb6⟩
    · rw [i2, i3]
      have HL := Lib.hid i1
      clear i1 i2 i3
      go_wp2_with fail
      refine (check_at _ _ _ _ _ RC).mono ?_
      rintro e w6 ⟨rfl, rfl⟩
      go_wp2_with fail
      refine (long_any _ _).mono ?_
      rintro e w6 ⟨rfl, rfl⟩
      rw [HL.out]
      go_wp2_with fail
      refine (wakes3_any _ (HA5.out.stays (by repeat (first | exact Below.refl _ _ | refine Below.setCell ?_ (by simp) _ | refine below_drewN ?_ _ | refine Below.drew ?_ | refine Below.alloc ?_ (by simp; try omega) _)))).mono ?_
      rintro e w6 ⟨rfl, hb6⟩
      go_wp2
      go_ret
      exact ⟨rfl, below_chain hbF (by repeat (first | exact Below.refl _ _ | refine Below.setCell ?_ (by simp) _ | refine below_drewN ?_ _ | refine Below.drew ?_ | refine Below.alloc ?_ (by simp; try omega) _)) hb6⟩
  · go_enter Tryd.func6, Tryd.ntmps6
    go_wp2_with fail
    generalize (IntKind.u64.wrap year).tmod 9999 = yy at *
    obtain ⟨Y, hY⟩ : ∃ Y, 1 + yy = Y := ⟨_, rfl⟩
    have Y1 : 1 ≤ Y ∧ Y ≤ 9999 := by omega
    rw [hY]
    clear hY y0 y1
    obtain ⟨y1, y9⟩ := Y1
    have R := Lib.hid (res_8 (y := Y) (m := 3) (k := 2) (v := 7) (d := 0) (onOk_no (by omega)))
    have RC := Lib.hid (chE_no (k := 2) (w := 7) (d := 0) (onOk_no (by omega)))
    have RF := Lib.hid (bad_f Y y1 y9)
    have RG := Lib.hid (bad_g Y y1 y9)
    have RI := Lib.hid (bad_i Y y1 y9)
    refine (resolve_any _ _ _ _ _ _ (HA.out.stays (by repeat (first | exact Below.refl _ _ | refine Below.setCell ?_ (by simp) _ | refine below_drewN ?_ _ | refine Below.drew ?_ | refine Below.alloc ?_ (by simp; try omega) _)))).mono ?_
    rintro e w1 ⟨rfl, hb1⟩
    rw [R.out.1, R.out.2]
    have hw1 : w.heap.size + 1 < w1.heap.size := by have := hb1.size; simp at this; omega
    have c0 : w1.cell? ⟨w.heap.size + 1, 0, none⟩ = some (.int .i64 2) := (hb1.cell (p := ⟨w.heap.size + 1, 0, none⟩) (by simp)).trans (by go_simp)
    have c1 : w1.cell? ⟨w.heap.size + 1, 1, none⟩ = some (.int .i64 7) := (hb1.cell (p := ⟨w.heap.size + 1, 1, none⟩) (by simp)).trans (by go_simp)
    have c2 : w1.cell? ⟨w.heap.size + 1, 2, none⟩ = some (.int .i64 0) := (hb1.cell (p := ⟨w.heap.size + 1, 2, none⟩) (by simp)).trans (by go_simp)
    have hb1 : Below w.heap.size w w1 := Below.trans (by repeat (first | exact Below.refl _ _ | refine Below.setCell ?_ (by simp) _ | refine below_drewN ?_ _ | refine Below.drew ?_ | refine Below.alloc ?_ (by simp; try omega) _)) (hb1.mono (by simp; try omega))
    have HA1 := Lib.hid (HA.out.stays hb1)
    go_wp2_with fail
    refine (resolve_any _ _ _ _ _ _ HA1.out).mono ?_
    rintro e w2 ⟨rfl, hb2⟩
    rw [RF.out.1, RF.out.2]
    have HA2 := Lib.hid (HA1.out.stays hb2)
    go_wp2_with fail
    refine (resolve_any _ _ _ _ _ _ HA2.out).mono ?_
    rintro e w3 ⟨rfl, hb3⟩
    rw [RG.out.1, RG.out.2]
    have hb3 := hb2.trans (hb3.mono hb2.size)
    have HA3 := Lib.hid (HA1.out.stays hb3)
    go_wp2_with fail
    refine (resolve_any _ _ _ _ _ _ HA3.out).mono ?_
    rintro e w4 ⟨rfl, hb4⟩
    rw [bad_h.1, bad_h.2]
    have hb4 := hb3.trans (hb4.mono hb3.size)
    have HA4 := Lib.hid (HA1.out.stays hb4)
    go_wp2_with fail
    refine (resolve_any _ _ _ _ _ _ HA4.out).mono ?_
    rintro e w5 ⟨rfl, hb5⟩
    have hb5 := hb4.trans (hb5.mono hb4.size)
    have HA5 := Lib.hid (HA1.out.stays hb5)
    have d0 := (hb5.cell (p := ⟨w.heap.size + 1, 0, none⟩) hw1).trans c0
    have d1 := (hb5.cell (p := ⟨w.heap.size + 1, 1, none⟩) hw1).trans c1
    have d2 := (hb5.cell (p := ⟨w.heap.size + 1, 2, none⟩) hw1).trans c2
    clear hb2 hb3 hb4 c0 c1 c2
    have hbF := hb1.trans (hb5.mono hb1.size)
    rcases RI.out with ⟨i1, i2⟩ | ⟨i1, i2, i3⟩
    · rw [i2]
      have HL := Lib.hid i1
      clear i1 i2
      go_wp2_with fail
      refine (check_at _ _ _ _ _ RC).mono ?_
      rintro e w6 ⟨rfl, rfl⟩
      go_wp2_with fail
      refine (long_any _ _).mono ?_
      rintro e w6 ⟨rfl, rfl⟩
      rw [HL.out]
      go_wp2_with fail
      refine (wakes3_any _ (HA5.out.stays (by repeat (first | exact Below.refl _ _ | refine Below.setCell ?_ (by simp) _ | refine below_drewN ?_ _ | refine Below.drew ?_ | refine Below.alloc ?_ (by simp; try omega) _)))).mono ?_
      rintro e w6 ⟨rfl, hb6⟩
      go_wp2
      go_ret
      exact ⟨rfl, below_chain hbF (by repeat (first | exact Below.refl _ _ | refine Below.setCell ?_ (by simp) _ | refine below_drewN ?_ _ | refine Below.drew ?_ | refine Below.alloc ?_ (by simp; try omega) _)) hb6⟩
    · rw [i2, i3]
      have HL := Lib.hid i1
      clear i1 i2 i3
      go_wp2_with fail
      refine (check_at _ _ _ _ _ RC).mono ?_
      rintro e w6 ⟨rfl, rfl⟩
      go_wp2_with fail
      refine (long_any _ _).mono ?_
      rintro e w6 ⟨rfl, rfl⟩
      rw [HL.out]
      go_wp2_with fail
      refine (wakes3_any _ (HA5.out.stays (by repeat (first | exact Below.refl _ _ | refine Below.setCell ?_ (by simp) _ | refine below_drewN ?_ _ | refine Below.drew ?_ | refine Below.alloc ?_ (by simp; try omega) _)))).mono ?_
      rintro e w6 ⟨rfl, hb6⟩
      go_wp2
      go_ret
      exact ⟨rfl, below_chain hbF (by repeat (first | exact Below.refl _ _ | refine Below.setCell ?_ (by simp) _ | refine below_drewN ?_ _ | refine Below.drew ?_ | refine Below.alloc ?_ (by simp; try omega) _)) hb6⟩
  · go_enter Tryd.func6, Tryd.ntmps6
    go_wp2_with fail
    generalize (IntKind.u64.wrap year).tmod 9999 = yy at *
    obtain ⟨Y, hY⟩ : ∃ Y, 1 + yy = Y := ⟨_, rfl⟩
    have Y1 : 1 ≤ Y ∧ Y ≤ 9999 := by omega
    rw [hY]
    clear hY y0 y1
    obtain ⟨y1, y9⟩ := Y1
    have R := Lib.hid (res_8 (y := Y) (m := 3) (k := 2) (v := 0) (d := 1) (onOk_no (by omega)))
    have RC := Lib.hid (chE_no (k := 2) (w := 0) (d := 1) (onOk_no (by omega)))
    have RF := Lib.hid (bad_f Y y1 y9)
    have RG := Lib.hid (bad_g Y y1 y9)
    have RI := Lib.hid (bad_i Y y1 y9)
    refine (resolve_any _ _ _ _ _ _ (HA.out.stays (by repeat (first | exact Below.refl _ _ | refine Below.setCell ?_ (by simp) _ | refine below_drewN ?_ _ | refine Below.drew ?_ | refine Below.alloc ?_ (by simp; try omega) _)))).mono ?_
    rintro e w1 ⟨rfl, hb1⟩
    rw [R.out.1, R.out.2]
    have hw1 : w.heap.size + 1 < w1.heap.size := by have := hb1.size; simp at this; omega
    have c0 : w1.cell? ⟨w.heap.size + 1, 0, none⟩ = some (.int .i64 2) := (hb1.cell (p := ⟨w.heap.size + 1, 0, none⟩) (by simp)).trans (by go_simp)
    have c1 : w1.cell? ⟨w.heap.size + 1, 1, none⟩ = some (.int .i64 0) := (hb1.cell (p := ⟨w.heap.size + 1, 1, none⟩) (by simp)).trans (by go_simp)
    have c2 : w1.cell? ⟨w.heap.size + 1, 2, none⟩ = some (.int .i64 1) := (hb1.cell (p := ⟨w.heap.size + 1, 2, none⟩) (by simp)).trans (by go_simp)
    have hb1 : Below w.heap.size w w1 := Below.trans (by repeat (first | exact Below.refl _ _ | refine Below.setCell ?_ (by simp) _ | refine below_drewN ?_ _ | refine Below.drew ?_ | refine Below.alloc ?_ (by simp; try omega) _)) (hb1.mono (by simp; try omega))
    have HA1 := Lib.hid (HA.out.stays hb1)
    go_wp2_with fail
    refine (resolve_any _ _ _ _ _ _ HA1.out).mono ?_
    rintro e w2 ⟨rfl, hb2⟩
    rw [RF.out.1, RF.out.2]
    have HA2 := Lib.hid (HA1.out.stays hb2)
    go_wp2_with fail
    refine (resolve_any _ _ _ _ _ _ HA2.out).mono ?_
    rintro e w3 ⟨rfl, hb3⟩
    rw [RG.out.1, RG.out.2]
    have hb3 := hb2.trans (hb3.mono hb2.size)
    have HA3 := Lib.hid (HA1.out.stays hb3)
    go_wp2_with fail
    refine (resolve_any _ _ _ _ _ _ HA3.out).mono ?_
    rintro e w4 ⟨rfl, hb4⟩
    rw [bad_h.1, bad_h.2]
    have hb4 := hb3.trans (hb4.mono hb3.size)
    have HA4 := Lib.hid (HA1.out.stays hb4)
    go_wp2_with fail
    refine (resolve_any _ _ _ _ _ _ HA4.out).mono ?_
    rintro e w5 ⟨rfl, hb5⟩
    have hb5 := hb4.trans (hb5.mono hb4.size)
    have HA5 := Lib.hid (HA1.out.stays hb5)
    have d0 := (hb5.cell (p := ⟨w.heap.size + 1, 0, none⟩) hw1).trans c0
    have d1 := (hb5.cell (p := ⟨w.heap.size + 1, 1, none⟩) hw1).trans c1
    have d2 := (hb5.cell (p := ⟨w.heap.size + 1, 2, none⟩) hw1).trans c2
    clear hb2 hb3 hb4 c0 c1 c2
    have hbF := hb1.trans (hb5.mono hb1.size)
    rcases RI.out with ⟨i1, i2⟩ | ⟨i1, i2, i3⟩
    · rw [i2]
      have HL := Lib.hid i1
      clear i1 i2
      go_wp2_with fail
      refine (check_at _ _ _ _ _ RC).mono ?_
      rintro e w6 ⟨rfl, rfl⟩
      go_wp2_with fail
      refine (long_any _ _).mono ?_
      rintro e w6 ⟨rfl, rfl⟩
      rw [HL.out]
      go_wp2_with fail
      refine (wakes3_any _ (HA5.out.stays (by repeat (first | exact Below.refl _ _ | refine Below.setCell ?_ (by simp) _ | refine below_drewN ?_ _ | refine Below.drew ?_ | refine Below.alloc ?_ (by simp; try omega) _)))).mono ?_
      rintro e w6 ⟨rfl, hb6⟩
      go_wp2
      go_ret
      exact ⟨rfl, below_chain hbF (by repeat (first | exact Below.refl _ _ | refine Below.setCell ?_ (by simp) _ | refine below_drewN ?_ _ | refine Below.drew ?_ | refine Below.alloc ?_ (by simp; try omega) _)) hb6⟩
    · rw [i2, i3]
      have HL := Lib.hid i1
      clear i1 i2 i3
      go_wp2_with fail
      refine (check_at _ _ _ _ _ RC).mono ?_
      rintro e w6 ⟨rfl, rfl⟩
      go_wp2_with fail
      refine (long_any _ _).mono ?_
      rintro e w6 ⟨rfl, rfl⟩
      rw [HL.out]
      go_wp2_with fail
      refine (wakes3_any _ (HA5.out.stays (by repeat (first | exact Below.refl _ _ | refine Below.setCell ?_ (by simp) _ | refine below_drewN ?_ _ | refine Below.drew ?_ | refine Below.alloc ?_ (by simp; try omega) _)))).mono ?_
      rintro e w6 ⟨rfl, hb6⟩
      go_wp2
      go_ret
      exact ⟨rfl, below_chain hbF (by repeat (first | exact Below.refl _ _ | refine Below.setCell ?_ (by simp) _ | refine below_drewN ?_ _ | refine Below.drew ?_ | refine Below.alloc ?_ (by simp; try omega) _)) hb6⟩
  · go_enter Tryd.func6, Tryd.ntmps6
    go_wp2_with fail
    generalize (IntKind.u64.wrap year).tmod 9999 = yy at *
    obtain ⟨Y, hY⟩ : ∃ Y, 1 + yy = Y := ⟨_, rfl⟩
    have Y1 : 1 ≤ Y ∧ Y ≤ 9999 := by omega
    rw [hY]
    clear hY y0 y1
    obtain ⟨y1, y9⟩ := Y1
    have R := Lib.hid (res_8 (y := Y) (m := 3) (k := 3) (v := (-1)) (d := 1) (onOk_no (by omega)))
    have RC := Lib.hid (chE_no (k := 3) (w := (-1)) (d := 1) (onOk_no (by omega)))
    have RF := Lib.hid (bad_f Y y1 y9)
    have RG := Lib.hid (bad_g Y y1 y9)
    have RI := Lib.hid (bad_i Y y1 y9)
    refine (resolve_any _ _ _ _ _ _ (HA.out.stays (by repeat (first | exact Below.refl _ _ | refine Below.setCell ?_ (by simp) _ | refine below_drewN ?_ _ | refine Below.drew ?_ | refine Below.alloc ?_ (by simp; try omega) _)))).mono ?_
    rintro e w1 ⟨rfl, hb1⟩
    rw [R.out.1, R.out.2]
    have hw1 : w.heap.size + 1 < w1.heap.size := by have := hb1.size; simp at this; omega
    have c0 : w1.cell? ⟨w.heap.size + 1, 0, none⟩ = some (.int .i64 3) := (hb1.cell (p := ⟨w.heap.size + 1, 0, none⟩) (by simp)).trans (by go_simp)
    have c1 : w1.cell? ⟨w.heap.size + 1, 1, none⟩ = some (.int .i64 (-1)) := (hb1.cell (p := ⟨w.heap.size + 1, 1, none⟩) (by simp)).trans (by go_simp)
    have c2 : w1.cell? ⟨w.heap.size + 1, 2, none⟩ = some (.int .i64 1) := (hb1.cell (p := ⟨w.heap.size + 1, 2, none⟩) (by simp)).trans (by go_simp)
    have hb1 : Below w.heap.size w w1 := Below.trans (by repeat (first | exact Below.refl _ _ | refine Below.setCell ?_ (by simp) _ | refine below_drewN ?_ _ | refine Below.drew ?_ | refine Below.alloc ?_ (by simp; try omega) _)) (hb1.mono (by simp; try omega))
    have HA1 := Lib.hid (HA.out.stays hb1)
    go_wp2_with fail
    refine (resolve_any _ _ _ _ _ _ HA1.out).mono ?_
    rintro e w2 ⟨rfl, hb2⟩
    rw [RF.out.1, RF.out.2]
    have HA2 := Lib.hid (HA1.out.stays hb2)
    go_wp2_with fail
    refine (resolve_any _ _ _ _ _ _ HA2.out).mono ?_
    rintro e w3 ⟨rfl, hb3⟩
    rw [RG.out.1, RG.out.2]
    have hb3 := hb2.trans (hb3.mono hb2.size)
    have HA3 := Lib.hid (HA1.out.stays hb3)
    go_wp2_with fail
    refine (resolve_any _ _ _ _ _ _ HA3.out).mono ?_
    rintro e w4 ⟨rfl, hb4⟩
    rw [bad_h.1, bad_h.2]
    have hb4 := hb3.trans (hb4.mono hb3.size)
    have HA4 := Lib.hid (HA1.out.stays hb4)
    go_wp2_with fail
    refine (resolve_any _ _ _ _ _ _ HA4.out).mono ?_
    rintro e w5 ⟨rfl, hb5⟩
    have hb5 := hb4.trans (hb5.mono hb4.size)
    have HA5 := Lib.hid (HA1.out.stays hb5)
    have d0 := (hb5.cell (p := ⟨w.heap.size + 1, 0, none⟩) hw1).trans c0
    have d1 := (hb5.cell (p := ⟨w.heap.size + 1, 1, none⟩) hw1).trans c1
    have d2 := (hb5.cell (p := ⟨w.heap.size + 1, 2, none⟩) hw1).trans c2
    clear hb2 hb3 hb4 c0 c1 c2
    have hbF := hb1.trans (hb5.mono hb1.size)
    rcases RI.out with ⟨i1, i2⟩ | ⟨i1, i2, i3⟩
    · rw [i2]
      have HL := Lib.hid i1
      clear i1 i2
      go_wp2_with fail
      refine (check_at _ _ _ _ _ RC).mono ?_
      rintro e w6 ⟨rfl, rfl⟩
      go_wp2_with fail
      refine (long_any _ _).mono ?_
      rintro e w6 ⟨rfl, rfl⟩
      rw [HL.out]
      go_wp2_with fail
      refine (wakes3_any _ (HA5.out.stays (by repeat (first | exact Below.refl _ _ | refine Below.setCell ?_ (by simp) _ | refine below_drewN ?_ _ | refine Below.drew ?_ | refine Below.alloc ?_ (by simp; try omega) _)))).mono ?_
      rintro e w6 ⟨rfl, hb6⟩
      go_wp2
      go_ret
      exact ⟨rfl, below_chain hbF (by repeat (first | exact Below.refl _ _ | refine Below.setCell ?_ (by simp) _ | refine below_drewN ?_ _ | refine Below.drew ?_ | refine Below.alloc ?_ (by simp; try omega) _)) hb6⟩
    · rw [i2, i3]
      have HL := Lib.hid i1
      clear i1 i2 i3
      go_wp2_with fail
      refine (check_at _ _ _ _ _ RC).mono ?_
      rintro e w6 ⟨rfl, rfl⟩
      go_wp2_with fail
      refine (long_any _ _).mono ?_
      rintro e w6 ⟨rfl, rfl⟩
      rw [HL.out]
      go_wp2_with fail
      refine (wakes3_any _ (HA5.out.stays (by repeat (first | exact Below.refl _ _ | refine Below.setCell ?_ (by simp) _ | refine below_drewN ?_ _ | refine Below.drew ?_ | refine Below.alloc ?_ (by simp; try omega) _)))).mono ?_
      rintro e w6 ⟨rfl, hb6⟩
      go_wp2
      go_ret
      exact ⟨rfl, below_chain hbF (by repeat (first | exact Below.refl _ _ | refine Below.setCell ?_ (by simp) _ | refine below_drewN ?_ _ | refine Below.drew ?_ | refine Below.alloc ?_ (by simp; try omega) _)) hb6⟩
  · go_enter Tryd.func6, Tryd.ntmps6
    go_wp2_with fail
    generalize (IntKind.u64.wrap year).tmod 9999 = yy at *
    obtain ⟨Y, hY⟩ : ∃ Y, 1 + yy = Y := ⟨_, rfl⟩
    have Y1 : 1 ≤ Y ∧ Y ≤ 9999 := by omega
    rw [hY]
    clear hY y0 y1
    obtain ⟨y1, y9⟩ := Y1
    have R := Lib.hid (res_8 (y := Y) (m := 3) (k := 4) (v := 0) (d := 0) (onOk_no (by omega)))
    have RC := Lib.hid (chE_no (k := 4) (w := 0) (d := 0) (onOk_no (by omega)))
    have RF := Lib.hid (bad_f Y y1 y9)
    have RG := Lib.hid (bad_g Y y1 y9)
    have RI := Lib.hid (bad_i Y y1 y9)
    refine (resolve_any _ _ _ _ _ _ (HA.out.stays (by repeat (first | exact Below.refl _ _ | refine Below.setCell ?_ (by simp) _ | refine below_drewN ?_ _ | refine Below.drew ?_ | refine Below.alloc ?_ (by simp; try omega) _)))).mono ?_
    rintro e w1 ⟨rfl, hb1⟩
    rw [R.out.1, R.out.2]
    have hw1 : w.heap.size + 1 < w1.heap.size := by have := hb1.size; simp at this; omega
    have c0 : w1.cell? ⟨w.heap.size + 1, 0, none⟩ = some (.int .i64 4) := (hb1.cell (p := ⟨w.heap.size + 1, 0, none⟩) (by simp)).trans (by go_simp)
    have c1 : w1.cell? ⟨w.heap.size + 1, 1, none⟩ = some (.int .i64 0) := (hb1.cell (p := ⟨w.heap.size + 1, 1, none⟩) (by simp)).trans (by go_simp)
    have c2 : w1.cell? ⟨w.heap.size + 1, 2, none⟩ = some (.int .i64 0) := (hb1.cell (p := ⟨w.heap.size + 1, 2, none⟩) (by simp)).trans (by go_simp)
    have hb1 : Below w.heap.size w w1 := Below.trans (by repeat (first | exact Below.refl _ _ | refine Below.setCell ?_ (by simp) _ | refine below_drewN ?_ _ | refine Below.drew ?_ | refine Below.alloc ?_ (by simp; try omega) _)) (hb1.mono (by simp; try omega))
    have HA1 := Lib.hid (HA.out.stays hb1)
    go_wp2_with fail
    refine (resolve_any _ _ _ _ _ _ HA1.out).mono ?_
    rintro e w2 ⟨rfl, hb2⟩
    rw [RF.out.1, RF.out.2]
    have HA2 := Lib.hid (HA1.out.stays hb2)
    go_wp2_with fail
    refine (resolve_any _ _ _ _ _ _ HA2.out).mono ?_
    rintro e w3 ⟨rfl, hb3⟩
    rw [RG.out.1, RG.out.2]
    have hb3 := hb2.trans (hb3.mono hb2.size)
    have HA3 := Lib.hid (HA1.out.stays hb3)
    go_wp2_with fail
    refine (resolve_any _ _ _ _ _ _ HA3.out).mono ?_
    rintro e w4 ⟨rfl, hb4⟩
    rw [bad_h.1, bad_h.2]
    have hb4 := hb3.trans (hb4.mono hb3.size)
    have HA4 := Lib.hid (HA1.out.stays hb4)
    go_wp2_with fail
    refine (resolve_any _ _ _ _ _ _ HA4.out).mono ?_
    rintro e w5 ⟨rfl, hb5⟩
    have hb5 := hb4.trans (hb5.mono hb4.size)
    have HA5 := Lib.hid (HA1.out.stays hb5)
    have d0 := (hb5.cell (p := ⟨w.heap.size + 1, 0, none⟩) hw1).trans c0
    have d1 := (hb5.cell (p := ⟨w.heap.size + 1, 1, none⟩) hw1).trans c1
    have d2 := (hb5.cell (p := ⟨w.heap.size + 1, 2, none⟩) hw1).trans c2
    clear hb2 hb3 hb4 c0 c1 c2
    have hbF := hb1.trans (hb5.mono hb1.size)
    rcases RI.out with ⟨i1, i2⟩ | ⟨i1, i2, i3⟩
    · rw [i2]
      have HL := Lib.hid i1
      clear i1 i2
      go_wp2_with fail
      refine (check_at _ _ _ _ _ RC).mono ?_
      rintro e w6 ⟨rfl, rfl⟩
      go_wp2_with fail
      refine (long_any _ _).mono ?_
      rintro e w6 ⟨rfl, rfl⟩
      rw [HL.out]
      go_wp2_with fail
      refine (wakes3_any _ (HA5.out.stays (by repeat (first | exact Below.refl _ _ | refine Below.setCell ?_ (by simp) _ | refine below_drewN ?_ _ | refine Below.drew ?_ | refine Below.alloc ?_ (by simp; try omega) _)))).mono ?_
      rintro e w6 ⟨rfl, hb6⟩
      go_wp2
      go_ret
      exact ⟨rfl, below_chain hbF (by repeat (first | exact Below.refl _ _ | refine Below.setCell ?_ (by simp) _ | refine below_drewN ?_ _ | refine Below.drew ?_ | refine Below.alloc ?_ (by simp; try omega) _)) hb6⟩
    · rw [i2, i3]
      have HL := Lib.hid i1
      clear i1 i2 i3
      go_wp2_with fail
      refine (check_at _ _ _ _ _ RC).mono ?_
      rintro e w6 ⟨rfl, rfl⟩
      go_wp2_with fail
      refine (long_any _ _).mono ?_
      rintro e w6 ⟨rfl, rfl⟩
      rw [HL.out]
      go_wp2_with fail
      refine (wakes3_any _ (HA5.out.stays (by repeat (first | exact Below.refl _ _ | refine Below.setCell ?_ (by simp) _ | refine below_drewN ?_ _ | refine Below.drew ?_ | refine Below.alloc ?_ (by simp; try omega) _)))).mono ?_
      rintro e w6 ⟨rfl, hb6⟩
      go_wp2
      go_ret
      exact ⟨rfl, below_chain hbF (by repeat (first | exact Below.refl _ _ | refine Below.setCell ?_ (by simp) _ | refine below_drewN ?_ _ | refine Below.drew ?_ | refine Below.alloc ?_ (by simp; try omega) _)) hb6⟩
end Wk
end Go.Proofs.YtopclopmgnkoeabDoor
