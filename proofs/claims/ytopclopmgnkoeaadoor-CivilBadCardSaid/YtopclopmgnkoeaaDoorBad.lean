/-
  CivilBad: the law answers true at every three integers, in whatever world that holds the table of the months.
-/
import Derived.Test.YtopclopmgnkoeaaDoorDays
namespace Go.Proofs.YtopclopmgnkoeaaDoor
open Go.RowKit
namespace Civ
theorem bad_1 : numV 10000 12 31 = 2933262 ∧ numE 10000 12 31 = 0 := by decide +kernel
theorem bad_2 : numV 0 1 1 = -719528 ∧ numE 0 1 1 = 0 := by decide +kernel
theorem bad_3 : (dY 2933263 = 0 ∧ dM 2933263 = 0 ∧ dD 2933263 = 0) ∧ dnE 2933263 = 23 ∧ ydV 2933263 = 0 := by decide +kernel
theorem bad_4 : (dY (-719529) = 0 ∧ dM (-719529) = 0 ∧ dD (-719529) = 0) ∧ dnE (-719529) = 23 := by decide +kernel
theorem bad_5 (y : Int) : Cal.mlen y 0 = 0 ∧ Cal.mlen y 13 = 0 := by
  constructor <;> simp [Cal.mlen]

set_option maxRecDepth 100000 in
set_option maxHeartbeats 6400000 in
theorem bad_any (y m how : Int) (w : World) (hA : Ahead w) :
    Calls Tryd.prog 11 #[.int .i64 y, .int .i64 m, .int .i64 how] w fun e w' => e = .returned (.bool true) ∧ Below w.heap.size w w' := by
  have HA := Lib.hid hA
  clear hA
  have r0 : 0 ≤ (IntKind.u64.wrap how).tmod 6 := Int.tmod_nonneg _ (u64_nn how)
  have r1 : (IntKind.u64.wrap how).tmod 6 < 6 := Int.tmod_lt_of_pos _ (by omega)
  go_enter Tryd.func11, Tryd.ntmps11
  go_wp2_with fail
  refine (some_any _ _ _ _).mono ?_
  rintro e w1 ⟨rfl, hb1⟩
  obtain ⟨⟨y0, y1⟩, ⟨m0, m1⟩, d0, d1⟩ := some_bd y m 0
  have HA1 := Lib.hid (HA.out.stays hb1)
  have l1 := (Cal.mlen_bd (someY y) (someM m))
  have l28 := Cal.mlen_28 (y := someY y) m0 m1
  have hx : ∀ Y' M' D', ¬ (0 ≤ Y' ∧ Y' ≤ 10000 ∧ 1 ≤ D' ∧ D' ≤ Cal.mlen Y' M') → numE Y' M' D' = 4 ∧ numV Y' M' D' = 0 := fun _ _ _ h => numE_no h
  have HX := Lib.hid hx
  clear hx
  have HZ := Lib.hid (fun y => bad_5 y)
  generalize someD y m 0 = D at *
  generalize someY y = Y at *
  generalize someM m = M at *
  obtain ⟨r, hr0⟩ : ∃ r, (IntKind.u64.wrap how).tmod 6 = r := ⟨_, rfl⟩
  rw [hr0] at r0 r1
  have hr : r = 0 ∨ r = 1 ∨ r = 2 ∨ r = 3 ∨ r = 4 ∨ r = 5 := by omega
  clear r0 r1
  rcases hr with rfl | rfl | rfl | rfl | rfl | rfl
  · have t0 : ((IntKind.u64.wrap how).tmod 6 == 0) = true := by rw [hr0]; rfl
    clear hr0
    have H := Lib.hid (HX.out Y M 0 (by omega))
    go_wp2_with fail
    refine (number_w _ _ _ _ (HA1.out.stays (by repeat (first | exact Below.refl _ _ | refine Below.setCell ?_ (by simp) _ | refine below_drewN ?_ _ | refine Below.drew ?_ | refine Below.alloc ?_ (by simp; try omega) _))) (by omega) (by omega)).mono ?_
    rintro e w2 ⟨rfl, q1, rfl⟩
    rw [H.out.1, H.out.2]
    go_wp2_with fail
    refine (number_w _ _ _ _ (HA1.out.stays (by repeat (first | exact Below.refl _ _ | refine Below.setCell ?_ (by simp) _ | refine below_drewN ?_ _ | refine Below.drew ?_ | refine Below.alloc ?_ (by simp; try omega) _))) (by omega) (by omega)).mono ?_
    rintro e w2 ⟨rfl, q2, rfl⟩
    rw [bad_1.1, bad_1.2]
    go_wp2_with fail
    refine (number_w _ _ _ _ (HA1.out.stays (by repeat (first | exact Below.refl _ _ | refine Below.setCell ?_ (by simp) _ | refine below_drewN ?_ _ | refine Below.drew ?_ | refine Below.alloc ?_ (by simp; try omega) _))) (by omega) (by omega)).mono ?_
    rintro e w2 ⟨rfl, q3, rfl⟩
    rw [bad_2.1, bad_2.2]
    go_wp2_with fail
    refine (date_w _ _ (HA1.out.stays (by repeat (first | exact Below.refl _ _ | refine Below.setCell ?_ (by simp) _ | refine below_drewN ?_ _ | refine Below.drew ?_ | refine Below.alloc ?_ (by simp; try omega) _)))).mono ?_
    rintro e w2 ⟨rfl, rfl⟩
    rw [bad_3.1.1, bad_3.1.2.1, bad_3.1.2.2, bad_3.2.1]
    go_wp2_with fail
    refine (date_w _ _ (HA1.out.stays (by repeat (first | exact Below.refl _ _ | refine Below.setCell ?_ (by simp) _ | refine below_drewN ?_ _ | refine Below.drew ?_ | refine Below.alloc ?_ (by simp; try omega) _)))).mono ?_
    rintro e w2 ⟨rfl, rfl⟩
    rw [bad_4.1.1, bad_4.1.2.1, bad_4.1.2.2, bad_4.2]
    go_wp2_with fail
    refine (yearDay_any _ _).mono ?_
    rintro e w2 ⟨rfl, rfl⟩
    rw [bad_3.2.1, bad_3.2.2]
    go_wp2_with fail
    refine (len_any _ _ _).mono ?_
    rintro e w2 ⟨rfl, rfl⟩
    rw [(HZ.out _).1]
    go_wp2_with fail
    refine (len_any _ _ _).mono ?_
    rintro e w2 ⟨rfl, rfl⟩
    rw [(HZ.out _).2]
    go_wp2_with fail
    refine (wakes2_any _ (HA1.out.stays (by repeat (first | exact Below.refl _ _ | refine Below.setCell ?_ (by simp) _ | refine below_drewN ?_ _ | refine Below.drew ?_ | refine Below.alloc ?_ (by simp; try omega) _)))).mono ?_
    rintro e w2 ⟨rfl, hb2⟩
    go_wp2
    go_ret
    exact ⟨rfl, below_chain hb1 (by repeat (first | exact Below.refl _ _ | refine Below.setCell ?_ (by simp) _ | refine below_drewN ?_ _ | refine Below.drew ?_ | refine Below.alloc ?_ (by simp; try omega) _)) hb2⟩
  · have t0 : ((IntKind.u64.wrap how).tmod 6 == 0) = false := by rw [hr0]; rfl
    have t1 : ((IntKind.u64.wrap how).tmod 6 == 1) = true := by rw [hr0]; rfl
    clear hr0
    have H := Lib.hid (HX.out Y M (Cal.mlen Y M + 1) (by omega))
    go_wp2_with fail
    refine (len_any _ _ _).mono ?_
    rintro e w2 ⟨rfl, rfl⟩
    go_wp2_with fail
    refine (number_w _ _ _ _ (HA1.out.stays (by repeat (first | exact Below.refl _ _ | refine Below.setCell ?_ (by simp) _ | refine below_drewN ?_ _ | refine Below.drew ?_ | refine Below.alloc ?_ (by simp; try omega) _))) (by omega) (by omega)).mono ?_
    rintro e w2 ⟨rfl, q1, rfl⟩
    rw [H.out.1, H.out.2]
    go_wp2_with fail
    refine (number_w _ _ _ _ (HA1.out.stays (by repeat (first | exact Below.refl _ _ | refine Below.setCell ?_ (by simp) _ | refine below_drewN ?_ _ | refine Below.drew ?_ | refine Below.alloc ?_ (by simp; try omega) _))) (by omega) (by omega)).mono ?_
    rintro e w2 ⟨rfl, q2, rfl⟩
    rw [bad_1.1, bad_1.2]
    go_wp2_with fail
    refine (number_w _ _ _ _ (HA1.out.stays (by repeat (first | exact Below.refl _ _ | refine Below.setCell ?_ (by simp) _ | refine below_drewN ?_ _ | refine Below.drew ?_ | refine Below.alloc ?_ (by simp; try omega) _))) (by omega) (by omega)).mono ?_
    rintro e w2 ⟨rfl, q3, rfl⟩
    rw [bad_2.1, bad_2.2]
    go_wp2_with fail
    refine (date_w _ _ (HA1.out.stays (by repeat (first | exact Below.refl _ _ | refine Below.setCell ?_ (by simp) _ | refine below_drewN ?_ _ | refine Below.drew ?_ | refine Below.alloc ?_ (by simp; try omega) _)))).mono ?_
    rintro e w2 ⟨rfl, rfl⟩
    rw [bad_3.1.1, bad_3.1.2.1, bad_3.1.2.2, bad_3.2.1]
    go_wp2_with fail
    refine (date_w _ _ (HA1.out.stays (by repeat (first | exact Below.refl _ _ | refine Below.setCell ?_ (by simp) _ | refine below_drewN ?_ _ | refine Below.drew ?_ | refine Below.alloc ?_ (by simp; try omega) _)))).mono ?_
    rintro e w2 ⟨rfl, rfl⟩
    rw [bad_4.1.1, bad_4.1.2.1, bad_4.1.2.2, bad_4.2]
    go_wp2_with fail
    refine (yearDay_any _ _).mono ?_
    rintro e w2 ⟨rfl, rfl⟩
    rw [bad_3.2.1, bad_3.2.2]
    go_wp2_with fail
    refine (len_any _ _ _).mono ?_
    rintro e w2 ⟨rfl, rfl⟩
    rw [(HZ.out _).1]
    go_wp2_with fail
    refine (len_any _ _ _).mono ?_
    rintro e w2 ⟨rfl, rfl⟩
    rw [(HZ.out _).2]
    go_wp2_with fail
    refine (wakes2_any _ (HA1.out.stays (by repeat (first | exact Below.refl _ _ | refine Below.setCell ?_ (by simp) _ | refine below_drewN ?_ _ | refine Below.drew ?_ | refine Below.alloc ?_ (by simp; try omega) _)))).mono ?_
    rintro e w2 ⟨rfl, hb2⟩
    go_wp2
    go_ret
    exact ⟨rfl, below_chain hb1 (by repeat (first | exact Below.refl _ _ | refine Below.setCell ?_ (by simp) _ | refine below_drewN ?_ _ | refine Below.drew ?_ | refine Below.alloc ?_ (by simp; try omega) _)) hb2⟩
  · have t0 : ((IntKind.u64.wrap how).tmod 6 == 0) = false := by rw [hr0]; rfl
    have t1 : ((IntKind.u64.wrap how).tmod 6 == 1) = false := by rw [hr0]; rfl
    have t2 : ((IntKind.u64.wrap how).tmod 6 == 2) = true := by rw [hr0]; rfl
    clear hr0
    have H := Lib.hid (HX.out Y 0 D (by rw [(HZ.out Y).1]; omega))
    go_wp2_with fail
    refine (number_w _ _ _ _ (HA1.out.stays (by repeat (first | exact Below.refl _ _ | refine Below.setCell ?_ (by simp) _ | refine below_drewN ?_ _ | refine Below.drew ?_ | refine Below.alloc ?_ (by simp; try omega) _))) (by omega) (by omega)).mono ?_
    rintro e w2 ⟨rfl, q1, rfl⟩
    rw [H.out.1, H.out.2]
    go_wp2_with fail
    refine (number_w _ _ _ _ (HA1.out.stays (by repeat (first | exact Below.refl _ _ | refine Below.setCell ?_ (by simp) _ | refine below_drewN ?_ _ | refine Below.drew ?_ | refine Below.alloc ?_ (by simp; try omega) _))) (by omega) (by omega)).mono ?_
    rintro e w2 ⟨rfl, q2, rfl⟩
    rw [bad_1.1, bad_1.2]
    go_wp2_with fail
    refine (number_w _ _ _ _ (HA1.out.stays (by repeat (first | exact Below.refl _ _ | refine Below.setCell ?_ (by simp) _ | refine below_drewN ?_ _ | refine Below.drew ?_ | refine Below.alloc ?_ (by simp; try omega) _))) (by omega) (by omega)).mono ?_
    rintro e w2 ⟨rfl, q3, rfl⟩
    rw [bad_2.1, bad_2.2]
    go_wp2_with fail
    refine (date_w _ _ (HA1.out.stays (by repeat (first | exact Below.refl _ _ | refine Below.setCell ?_ (by simp) _ | refine below_drewN ?_ _ | refine Below.drew ?_ | refine Below.alloc ?_ (by simp; try omega) _)))).mono ?_
    rintro e w2 ⟨rfl, rfl⟩
    rw [bad_3.1.1, bad_3.1.2.1, bad_3.1.2.2, bad_3.2.1]
    go_wp2_with fail
    refine (date_w _ _ (HA1.out.stays (by repeat (first | exact Below.refl _ _ | refine Below.setCell ?_ (by simp) _ | refine below_drewN ?_ _ | refine Below.drew ?_ | refine Below.alloc ?_ (by simp; try omega) _)))).mono ?_
    rintro e w2 ⟨rfl, rfl⟩
    rw [bad_4.1.1, bad_4.1.2.1, bad_4.1.2.2, bad_4.2]
    go_wp2_with fail
    refine (yearDay_any _ _).mono ?_
    rintro e w2 ⟨rfl, rfl⟩
    rw [bad_3.2.1, bad_3.2.2]
    go_wp2_with fail
    refine (len_any _ _ _).mono ?_
    rintro e w2 ⟨rfl, rfl⟩
    rw [(HZ.out _).1]
    go_wp2_with fail
    refine (len_any _ _ _).mono ?_
    rintro e w2 ⟨rfl, rfl⟩
    rw [(HZ.out _).2]
    go_wp2_with fail
    refine (wakes2_any _ (HA1.out.stays (by repeat (first | exact Below.refl _ _ | refine Below.setCell ?_ (by simp) _ | refine below_drewN ?_ _ | refine Below.drew ?_ | refine Below.alloc ?_ (by simp; try omega) _)))).mono ?_
    rintro e w2 ⟨rfl, hb2⟩
    go_wp2
    go_ret
    exact ⟨rfl, below_chain hb1 (by repeat (first | exact Below.refl _ _ | refine Below.setCell ?_ (by simp) _ | refine below_drewN ?_ _ | refine Below.drew ?_ | refine Below.alloc ?_ (by simp; try omega) _)) hb2⟩
  · have t0 : ((IntKind.u64.wrap how).tmod 6 == 0) = false := by rw [hr0]; rfl
    have t1 : ((IntKind.u64.wrap how).tmod 6 == 1) = false := by rw [hr0]; rfl
    have t2 : ((IntKind.u64.wrap how).tmod 6 == 2) = false := by rw [hr0]; rfl
    have t3 : ((IntKind.u64.wrap how).tmod 6 == 3) = true := by rw [hr0]; rfl
    clear hr0
    have H := Lib.hid (HX.out Y 13 D (by rw [(HZ.out Y).2]; omega))
    go_wp2_with fail
    refine (number_w _ _ _ _ (HA1.out.stays (by repeat (first | exact Below.refl _ _ | refine Below.setCell ?_ (by simp) _ | refine below_drewN ?_ _ | refine Below.drew ?_ | refine Below.alloc ?_ (by simp; try omega) _))) (by omega) (by omega)).mono ?_
    rintro e w2 ⟨rfl, q1, rfl⟩
    rw [H.out.1, H.out.2]
    go_wp2_with fail
    refine (number_w _ _ _ _ (HA1.out.stays (by repeat (first | exact Below.refl _ _ | refine Below.setCell ?_ (by simp) _ | refine below_drewN ?_ _ | refine Below.drew ?_ | refine Below.alloc ?_ (by simp; try omega) _))) (by omega) (by omega)).mono ?_
    rintro e w2 ⟨rfl, q2, rfl⟩
    rw [bad_1.1, bad_1.2]
    go_wp2_with fail
    refine (number_w _ _ _ _ (HA1.out.stays (by repeat (first | exact Below.refl _ _ | refine Below.setCell ?_ (by simp) _ | refine below_drewN ?_ _ | refine Below.drew ?_ | refine Below.alloc ?_ (by simp; try omega) _))) (by omega) (by omega)).mono ?_
    rintro e w2 ⟨rfl, q3, rfl⟩
    rw [bad_2.1, bad_2.2]
    go_wp2_with fail
    refine (date_w _ _ (HA1.out.stays (by repeat (first | exact Below.refl _ _ | refine Below.setCell ?_ (by simp) _ | refine below_drewN ?_ _ | refine Below.drew ?_ | refine Below.alloc ?_ (by simp; try omega) _)))).mono ?_
    rintro e w2 ⟨rfl, rfl⟩
    rw [bad_3.1.1, bad_3.1.2.1, bad_3.1.2.2, bad_3.2.1]
    go_wp2_with fail
    refine (date_w _ _ (HA1.out.stays (by repeat (first | exact Below.refl _ _ | refine Below.setCell ?_ (by simp) _ | refine below_drewN ?_ _ | refine Below.drew ?_ | refine Below.alloc ?_ (by simp; try omega) _)))).mono ?_
    rintro e w2 ⟨rfl, rfl⟩
    rw [bad_4.1.1, bad_4.1.2.1, bad_4.1.2.2, bad_4.2]
    go_wp2_with fail
    refine (yearDay_any _ _).mono ?_
    rintro e w2 ⟨rfl, rfl⟩
    rw [bad_3.2.1, bad_3.2.2]
    go_wp2_with fail
    refine (len_any _ _ _).mono ?_
    rintro e w2 ⟨rfl, rfl⟩
    rw [(HZ.out _).1]
    go_wp2_with fail
    refine (len_any _ _ _).mono ?_
    rintro e w2 ⟨rfl, rfl⟩
    rw [(HZ.out _).2]
    go_wp2_with fail
    refine (wakes2_any _ (HA1.out.stays (by repeat (first | exact Below.refl _ _ | refine Below.setCell ?_ (by simp) _ | refine below_drewN ?_ _ | refine Below.drew ?_ | refine Below.alloc ?_ (by simp; try omega) _)))).mono ?_
    rintro e w2 ⟨rfl, hb2⟩
    go_wp2
    go_ret
    exact ⟨rfl, below_chain hb1 (by repeat (first | exact Below.refl _ _ | refine Below.setCell ?_ (by simp) _ | refine below_drewN ?_ _ | refine Below.drew ?_ | refine Below.alloc ?_ (by simp; try omega) _)) hb2⟩
  · have t0 : ((IntKind.u64.wrap how).tmod 6 == 0) = false := by rw [hr0]; rfl
    have t1 : ((IntKind.u64.wrap how).tmod 6 == 1) = false := by rw [hr0]; rfl
    have t2 : ((IntKind.u64.wrap how).tmod 6 == 2) = false := by rw [hr0]; rfl
    have t3 : ((IntKind.u64.wrap how).tmod 6 == 3) = false := by rw [hr0]; rfl
    have t4 : ((IntKind.u64.wrap how).tmod 6 == 4) = true := by rw [hr0]; rfl
    clear hr0
    have H := Lib.hid (HX.out (-1) M D (by omega))
    go_wp2_with fail
    refine (number_w _ _ _ _ (HA1.out.stays (by repeat (first | exact Below.refl _ _ | refine Below.setCell ?_ (by simp) _ | refine below_drewN ?_ _ | refine Below.drew ?_ | refine Below.alloc ?_ (by simp; try omega) _))) (by omega) (by omega)).mono ?_
    rintro e w2 ⟨rfl, q1, rfl⟩
    rw [H.out.1, H.out.2]
    go_wp2_with fail
    refine (number_w _ _ _ _ (HA1.out.stays (by repeat (first | exact Below.refl _ _ | refine Below.setCell ?_ (by simp) _ | refine below_drewN ?_ _ | refine Below.drew ?_ | refine Below.alloc ?_ (by simp; try omega) _))) (by omega) (by omega)).mono ?_
    rintro e w2 ⟨rfl, q2, rfl⟩
    rw [bad_1.1, bad_1.2]
    go_wp2_with fail
    refine (number_w _ _ _ _ (HA1.out.stays (by repeat (first | exact Below.refl _ _ | refine Below.setCell ?_ (by simp) _ | refine below_drewN ?_ _ | refine Below.drew ?_ | refine Below.alloc ?_ (by simp; try omega) _))) (by omega) (by omega)).mono ?_
    rintro e w2 ⟨rfl, q3, rfl⟩
    rw [bad_2.1, bad_2.2]
    go_wp2_with fail
    refine (date_w _ _ (HA1.out.stays (by repeat (first | exact Below.refl _ _ | refine Below.setCell ?_ (by simp) _ | refine below_drewN ?_ _ | refine Below.drew ?_ | refine Below.alloc ?_ (by simp; try omega) _)))).mono ?_
    rintro e w2 ⟨rfl, rfl⟩
    rw [bad_3.1.1, bad_3.1.2.1, bad_3.1.2.2, bad_3.2.1]
    go_wp2_with fail
    refine (date_w _ _ (HA1.out.stays (by repeat (first | exact Below.refl _ _ | refine Below.setCell ?_ (by simp) _ | refine below_drewN ?_ _ | refine Below.drew ?_ | refine Below.alloc ?_ (by simp; try omega) _)))).mono ?_
    rintro e w2 ⟨rfl, rfl⟩
    rw [bad_4.1.1, bad_4.1.2.1, bad_4.1.2.2, bad_4.2]
    go_wp2_with fail
    refine (yearDay_any _ _).mono ?_
    rintro e w2 ⟨rfl, rfl⟩
    rw [bad_3.2.1, bad_3.2.2]
    go_wp2_with fail
    refine (len_any _ _ _).mono ?_
    rintro e w2 ⟨rfl, rfl⟩
    rw [(HZ.out _).1]
    go_wp2_with fail
    refine (len_any _ _ _).mono ?_
    rintro e w2 ⟨rfl, rfl⟩
    rw [(HZ.out _).2]
    go_wp2_with fail
    refine (wakes2_any _ (HA1.out.stays (by repeat (first | exact Below.refl _ _ | refine Below.setCell ?_ (by simp) _ | refine below_drewN ?_ _ | refine Below.drew ?_ | refine Below.alloc ?_ (by simp; try omega) _)))).mono ?_
    rintro e w2 ⟨rfl, hb2⟩
    go_wp2
    go_ret
    exact ⟨rfl, below_chain hb1 (by repeat (first | exact Below.refl _ _ | refine Below.setCell ?_ (by simp) _ | refine below_drewN ?_ _ | refine Below.drew ?_ | refine Below.alloc ?_ (by simp; try omega) _)) hb2⟩
  · have t0 : ((IntKind.u64.wrap how).tmod 6 == 0) = false := by rw [hr0]; rfl
    have t1 : ((IntKind.u64.wrap how).tmod 6 == 1) = false := by rw [hr0]; rfl
    have t2 : ((IntKind.u64.wrap how).tmod 6 == 2) = false := by rw [hr0]; rfl
    have t3 : ((IntKind.u64.wrap how).tmod 6 == 3) = false := by rw [hr0]; rfl
    have t4 : ((IntKind.u64.wrap how).tmod 6 == 4) = false := by rw [hr0]; rfl
    clear hr0
    have H := Lib.hid (HX.out 10001 M D (by omega))
    go_wp2_with fail
    refine (number_w _ _ _ _ (HA1.out.stays (by repeat (first | exact Below.refl _ _ | refine Below.setCell ?_ (by simp) _ | refine below_drewN ?_ _ | refine Below.drew ?_ | refine Below.alloc ?_ (by simp; try omega) _))) (by omega) (by omega)).mono ?_
    rintro e w2 ⟨rfl, q1, rfl⟩
    rw [H.out.1, H.out.2]
    go_wp2_with fail
    refine (number_w _ _ _ _ (HA1.out.stays (by repeat (first | exact Below.refl _ _ | refine Below.setCell ?_ (by simp) _ | refine below_drewN ?_ _ | refine Below.drew ?_ | refine Below.alloc ?_ (by simp; try omega) _))) (by omega) (by omega)).mono ?_
    rintro e w2 ⟨rfl, q2, rfl⟩
    rw [bad_1.1, bad_1.2]
    go_wp2_with fail
    refine (number_w _ _ _ _ (HA1.out.stays (by repeat (first | exact Below.refl _ _ | refine Below.setCell ?_ (by simp) _ | refine below_drewN ?_ _ | refine Below.drew ?_ | refine Below.alloc ?_ (by simp; try omega) _))) (by omega) (by omega)).mono ?_
    rintro e w2 ⟨rfl, q3, rfl⟩
    rw [bad_2.1, bad_2.2]
    go_wp2_with fail
    refine (date_w _ _ (HA1.out.stays (by repeat (first | exact Below.refl _ _ | refine Below.setCell ?_ (by simp) _ | refine below_drewN ?_ _ | refine Below.drew ?_ | refine Below.alloc ?_ (by simp; try omega) _)))).mono ?_
    rintro e w2 ⟨rfl, rfl⟩
    rw [bad_3.1.1, bad_3.1.2.1, bad_3.1.2.2, bad_3.2.1]
    go_wp2_with fail
    refine (date_w _ _ (HA1.out.stays (by repeat (first | exact Below.refl _ _ | refine Below.setCell ?_ (by simp) _ | refine below_drewN ?_ _ | refine Below.drew ?_ | refine Below.alloc ?_ (by simp; try omega) _)))).mono ?_
    rintro e w2 ⟨rfl, rfl⟩
    rw [bad_4.1.1, bad_4.1.2.1, bad_4.1.2.2, bad_4.2]
    go_wp2_with fail
    refine (yearDay_any _ _).mono ?_
    rintro e w2 ⟨rfl, rfl⟩
    rw [bad_3.2.1, bad_3.2.2]
    go_wp2_with fail
    refine (len_any _ _ _).mono ?_
    rintro e w2 ⟨rfl, rfl⟩
    rw [(HZ.out _).1]
    go_wp2_with fail
    refine (len_any _ _ _).mono ?_
    rintro e w2 ⟨rfl, rfl⟩
    rw [(HZ.out _).2]
    go_wp2_with fail
    refine (wakes2_any _ (HA1.out.stays (by repeat (first | exact Below.refl _ _ | refine Below.setCell ?_ (by simp) _ | refine below_drewN ?_ _ | refine Below.drew ?_ | refine Below.alloc ?_ (by simp; try omega) _)))).mono ?_
    rintro e w2 ⟨rfl, hb2⟩
    go_wp2
    go_ret
    exact ⟨rfl, below_chain hb1 (by repeat (first | exact Below.refl _ _ | refine Below.setCell ?_ (by simp) _ | refine below_drewN ?_ _ | refine Below.drew ?_ | refine Below.alloc ?_ (by simp; try omega) _)) hb2⟩
end Civ
end Go.Proofs.YtopclopmgnkoeaaDoor
