/-
  CivilExact: the law answers true at every date and every number, in whatever world that holds the table of the months.
-/
import Derived.Test.YtpkknhbhliapcaaDoorRefCiv3
import Derived.Test.YtpkknhbhliapcaaDoorLaw2
import Derived.Deep.RegionHeld3
namespace Go.Proofs.YtpkknhbhliapcaaDoor
open Go.RowKit
namespace Civ
theorem number_to (y m d n c : Int) (w : World) (hA : Ahead w) (i1 : -9223372036854775808 ≤ d) (i2 : d ≤ 9223372036854775807) (h1 : Hid (numV y m d = n)) (h2 : Hid (numE y m d = c)) :
    Calls Tryd.prog 9 #[.agg #[.int .i64 y, .int .i64 m, .int .i64 d]] w fun e w' => e = .returned (.tuple #[.int .i64 n, .int .i64 c]) ∧ ∃ n, w' = (w.alloc (Obj.cells #[.int .i64 y, .int .i64 m, .int .i64 d] 23)).drewN n :=
  (number_w y m d w hA i1 i2).mono fun _ _ ⟨he, hw⟩ => ⟨by rw [he, h1.out, h2.out], hw⟩
theorem date_to (n Y M D c : Int) (w : World) (hA : Ahead w) (h : Hid (dY n = Y ∧ dM n = M ∧ dD n = D)) (h2 : Hid (dnE n = c)) :
    Calls Tryd.prog 10 #[.int .i64 n] w fun e w' => e = .returned (.tuple #[.agg #[.int .i64 Y, .int .i64 M, .int .i64 D], .int .i64 c]) ∧ w.alloc (Obj.cells #[.int .i64 Y, .int .i64 M, .int .i64 D] 23) = w' :=
  (date_w n w hA).mono fun _ _ ⟨he, hw⟩ => ⟨by rw [he, h.out.1, h.out.2.1, h.out.2.2, h2.out], by rw [← hw, h.out.1, h.out.2.1, h.out.2.2]⟩
theorem yearDay_to (n v c : Int) (w : World) (h1 : Hid (ydV n = v)) (h2 : Hid (dnE n = c)) :
    Calls Tryd.prog 11 #[.int .i64 n] w fun e w' => e = .returned (.tuple #[.int .i64 v, .int .i64 c]) ∧ w = w' :=
  (yearDay_any n w).mono fun _ _ ⟨he, hw⟩ => ⟨by rw [he, h1.out, h2.out], hw⟩
theorem right_to (y m d : Int) (b : Bool) (w : World) (d1 : -9223372036854775808 ≤ d) (d2 : d ≤ 9223372036854775807) (h : Hid (Cal.valid y m d = b)) :
    Calls Tryd.prog 18 #[.agg #[.int .i64 y, .int .i64 m, .int .i64 d]] w fun e w' => e = .returned (.bool b) ∧ ∃ q, w' = (w.alloc (Obj.cells #[.int .i64 y, .int .i64 m, .int .i64 d] 23)).drewN q :=
  (right_any y m d w d1 d2).mono fun _ _ ⟨he, hw⟩ => ⟨by rw [he, h.out], hw⟩

theorem s_below {w X : World} {a : Nat} {u v z : Value} (h : X.cell? ⟨a, 0, none⟩ = some u ∧ X.cell? ⟨a, 1, none⟩ = some v ∧ X.cell? ⟨a, 2, none⟩ = some z ∧ Below w.heap.size w X ∧ a < X.heap.size) : Below w.heap.size w X := h.2.2.2.1
theorem s_keep {w X Z : World} {a : Nat} {u v z : Value} (h : X.cell? ⟨a, 0, none⟩ = some u ∧ X.cell? ⟨a, 1, none⟩ = some v ∧ X.cell? ⟨a, 2, none⟩ = some z ∧ Below w.heap.size w X ∧ a < X.heap.size) (hb : Below X.heap.size X Z) :
    Z.cell? ⟨a, 0, none⟩ = some u ∧ Z.cell? ⟨a, 1, none⟩ = some v ∧ Z.cell? ⟨a, 2, none⟩ = some z ∧ Below w.heap.size w Z ∧ a < Z.heap.size :=
  ⟨(hb.cell (p := ⟨a, 0, none⟩) h.2.2.2.2).trans h.1, (hb.cell (p := ⟨a, 1, none⟩) h.2.2.2.2).trans h.2.1, (hb.cell (p := ⟨a, 2, none⟩) h.2.2.2.2).trans h.2.2.1, h.2.2.2.1.trans (hb.mono h.2.2.2.1.size), Nat.lt_of_lt_of_le h.2.2.2.2 hb.size⟩
theorem rdate_to (n Y M D : Int) (w : World) (h0 : -719528 ≤ n) (h1 : n ≤ 2933262) (h : Hid (dY n = Y ∧ dM n = M ∧ dD n = D)) :
    Calls Tryd.prog 23 #[.int .i64 n] w fun e w' => e = .returned (.agg #[.int .i64 Y, .int .i64 M, .int .i64 D]) ∧ Below w.heap.size w w' :=
  (rdate_any n w h0 h1).mono fun _ _ ⟨he, hw⟩ => ⟨by rw [he, h.out.1, h.out.2.1, h.out.2.2], hw⟩
theorem ryearDay_to (n v : Int) (w : World) (h0 : -719528 ≤ n) (h1 : n ≤ 2933262) (h : Hid (ydV n = v)) :
    Calls Tryd.prog 24 #[.int .i64 n] w fun e w' => e = .returned (.int .i64 v) ∧ Below w.heap.size w w' :=
  (ryearDay_any n w h0 h1).mono fun _ _ ⟨he, hw⟩ => ⟨by rw [he, h.out], hw⟩

set_option maxRecDepth 100000 in
set_option maxHeartbeats 6400000 in
theorem cexact_any (y m d n : Int) (w : World) (hA : Ahead w) (y1 : -9223372036854775808 ≤ y) (y2 : y ≤ 9223372036854775807) (d1 : -9223372036854775808 ≤ d) (d2 : d ≤ 9223372036854775807) (n1 : -9223372036854775808 ≤ n) (n2 : n ≤ 9223372036854775807) :
    Calls Tryd.prog 3 #[.agg #[.int .i64 y, .int .i64 m, .int .i64 d], .int .i64 n] w fun e w' => e = .returned (.bool true) ∧ Below w.heap.size w w' := by
  have HA := Lib.hid hA
  clear hA
  obtain ⟨Y, M, D, hD⟩ : ∃ Y M D, dY n = Y ∧ dM n = M ∧ dD n = D := ⟨_, _, _, rfl, rfl, rfl⟩
  have HD := Lib.hid hD
  clear hD
  obtain ⟨V, hV⟩ : ∃ v, numV y m d = v := ⟨_, rfl⟩
  obtain ⟨E, hE⟩ : ∃ v, numE y m d = v := ⟨_, rfl⟩
  obtain ⟨DE, hDE⟩ : ∃ v, dnE n = v := ⟨_, rfl⟩
  obtain ⟨YD, hYD⟩ : ∃ v, ydV n = v := ⟨_, rfl⟩
  have GV := Lib.hid hV
  have GE := Lib.hid hE
  have GD := Lib.hid hDE
  have GY := Lib.hid hYD
  clear hV hE hDE hYD
  go_enter Tryd.func3, Tryd.ntmps3
  go_wp2_with fail
  refine (number_to _ _ _ _ _ _ (Ahead.alloc HA.out _) d1 d2 GV GE).mono ?_
  rintro e w1 ⟨rfl, q1, rfl⟩
  go_wp2_with fail
  refine (date_to _ _ _ _ _ _ (HA.out.stays (by repeat (first | exact Below.refl _ _ | refine Below.setCell ?_ (by simp) _ | refine below_drewN ?_ _ | refine Below.drew ?_ | refine Below.alloc ?_ (by simp; try omega) _))) HD GD).mono ?_
  rintro e w1 ⟨rfl, rfl⟩
  go_wp2_with fail
  refine (yearDay_to _ _ _ _ GY GD).mono ?_
  rintro e w1 ⟨rfl, rfl⟩
  go_wp2_with fail
  go_quiet ((first | (go_at_call 12; exact quiet_left (long_any _ _)) | (go_at_call 13; refine quiet_drew (rlong_any _ _ ?_ ?_) <;> omega) | (go_at_call 14; exact quiet_left (len_any _ _ _)) | (go_at_call 15; refine quiet_drew (rlen_any _ _ _ ?_ ?_) <;> omega) | (go_at_call 16; exact quiet_left (weekday_any _ _)) | (go_at_call 17; refine quiet_drew (rweekday_any _ _ ?_ ?_) <;> omega)))
  go_wp2_with fail
  cases hb : Cal.valid y m d with
  | true =>
    have HB := Lib.hid hb
    have hv := of_decide_eq_true hb
    obtain ⟨q3, q4⟩ := numE_yes hv
    obtain ⟨k1, k2⟩ := Cal.mlen_pos (y := y) (m := m) (by omega)
    have k3 := Cal.mlen_bd y m
    have e1 : E = 0 := by rw [← GE.out]; exact q3
    have e2 : V = Cal.num y m d := by rw [← GV.out]; exact q4
    obtain ⟨u1, u2, u3, u4⟩ := hv
    subst e1 e2
    clear q3 q4 hb
    refine (right_to _ _ _ _ _ d1 d2 HB).mono ?_
    rintro e w1 ⟨rfl, q2, rfl⟩
    go_wp2_with fail
    refine (rnum_w _ _ _ _ (by omega) (by omega) (by omega) (by omega) (by omega) (by omega)).mono ?_
    rintro e w1 ⟨rfl, q5, rfl⟩
    by_cases hlo : n < -719528
    · have e1 : DE = 23 := by rw [← GD.out]; exact (dn_no (n := n) (by omega)).1
      have e2 : YD = 0 := by rw [← GY.out]; exact (dn_no (n := n) (by omega)).2
      obtain ⟨z1, z2, z3⟩ := dd_no (n := n) (by omega)
      rw [HD.out.1] at z1
      rw [HD.out.2.1] at z2
      rw [HD.out.2.2] at z3
      subst e1 e2 z1 z2 z3
      go_wp2_with fail
      refine (least_any _).mono ?_
      rintro e w2 ⟨rfl, hb2⟩
      obtain ⟨hc2, hf2⟩ := bcell hb2
      go_wp2_with fail
      refine (wakes2_any _ (HA.out.stays (Below.trans (by repeat (first | exact Below.refl _ _ | refine Below.setCell ?_ (by simp) _ | refine below_drewN ?_ _ | refine Below.drew ?_ | refine Below.alloc ?_ (by simp; try omega) _)) (hb2.mono (by simp; try omega))))).mono ?_
      rintro e w3 ⟨rfl, hb3⟩
      go_wp2
      go_ret
      exact ⟨rfl, below_chain (by repeat (first | exact Below.refl _ _ | refine Below.setCell ?_ (by simp) _ | refine below_drewN ?_ _ | refine Below.drew ?_ | refine Below.alloc ?_ (by simp; try omega) _)) (Below.refl _ _) ((hb2.mono (by simp; try omega)).trans (hb3.mono (by have := hb2.size; simp at this; simp; omega)))⟩
    · by_cases hhi : 2933262 < n
      · have e1 : DE = 23 := by rw [← GD.out]; exact (dn_no (n := n) (by omega)).1
        have e2 : YD = 0 := by rw [← GY.out]; exact (dn_no (n := n) (by omega)).2
        obtain ⟨z1, z2, z3⟩ := dd_no (n := n) (by omega)
        rw [HD.out.1] at z1
        rw [HD.out.2.1] at z2
        rw [HD.out.2.2] at z3
        subst e1 e2 z1 z2 z3
        go_wp2_with fail
        refine (least_any _).mono ?_
        rintro e w2 ⟨rfl, hb2⟩
        obtain ⟨hc2, hf2⟩ := bcell hb2
        go_wp2_with fail
        refine (most_any _).mono ?_
        rintro e w3 ⟨rfl, hb3⟩
        have hz2 := hb2.size
        simp at hz2
        have g0 : w3.cell? ⟨w.heap.size + 1 + 1 + 1, 0, none⟩ = some (.int .i64 0) := (hb3.cell (p := ⟨w.heap.size + 1 + 1 + 1, 0, none⟩) (by simp; omega)).trans ((hb2.cell (p := ⟨w.heap.size + 1 + 1 + 1, 0, none⟩) (by simp)).trans (by go_simp))
        have g1 : w3.cell? ⟨w.heap.size + 1 + 1 + 1, 1, none⟩ = some (.int .i64 0) := (hb3.cell (p := ⟨w.heap.size + 1 + 1 + 1, 1, none⟩) (by simp; omega)).trans ((hb2.cell (p := ⟨w.heap.size + 1 + 1 + 1, 1, none⟩) (by simp)).trans (by go_simp))
        have g2 : w3.cell? ⟨w.heap.size + 1 + 1 + 1, 2, none⟩ = some (.int .i64 0) := (hb3.cell (p := ⟨w.heap.size + 1 + 1 + 1, 2, none⟩) (by simp; omega)).trans ((hb2.cell (p := ⟨w.heap.size + 1 + 1 + 1, 2, none⟩) (by simp)).trans (by go_simp))
        go_wp2_with fail
        refine (wakes2_any _ (HA.out.stays (Below.trans (by repeat (first | exact Below.refl _ _ | refine Below.setCell ?_ (by simp) _ | refine below_drewN ?_ _ | refine Below.drew ?_ | refine Below.alloc ?_ (by simp; try omega) _)) ((hb2.trans (hb3.mono hb2.size)).mono (by simp; try omega))))).mono ?_
        rintro e w4 ⟨rfl, hb4⟩
        go_wp2
        go_ret
        exact ⟨rfl, below_chain (by repeat (first | exact Below.refl _ _ | refine Below.setCell ?_ (by simp) _ | refine below_drewN ?_ _ | refine Below.drew ?_ | refine Below.alloc ?_ (by simp; try omega) _)) (Below.refl _ _) (((hb2.trans (hb3.mono hb2.size)).mono (by simp; try omega)).trans (hb4.mono (by have := hb3.size; simp; omega)))⟩
      · have e1 : DE = 0 := by rw [← GD.out]; exact (dn_yes (n := n) ⟨by omega, by omega⟩).1
        subst e1
        go_wp2_with fail
        refine (least_any _).mono ?_
        rintro e w2 ⟨rfl, hb2⟩
        obtain ⟨hc2, hf2⟩ := bcell hb2
        go_wp2_with fail
        refine (most_any _).mono ?_
        rintro e w3 ⟨rfl, hb3⟩
        have hz2 := hb2.size
        simp at hz2
        have g0 : w3.cell? ⟨w.heap.size + 1 + 1 + 1, 0, none⟩ = some (.int .i64 Y) := (hb3.cell (p := ⟨w.heap.size + 1 + 1 + 1, 0, none⟩) (by simp; omega)).trans ((hb2.cell (p := ⟨w.heap.size + 1 + 1 + 1, 0, none⟩) (by simp)).trans (by go_simp))
        have g1 : w3.cell? ⟨w.heap.size + 1 + 1 + 1, 1, none⟩ = some (.int .i64 M) := (hb3.cell (p := ⟨w.heap.size + 1 + 1 + 1, 1, none⟩) (by simp; omega)).trans ((hb2.cell (p := ⟨w.heap.size + 1 + 1 + 1, 1, none⟩) (by simp)).trans (by go_simp))
        have g2 : w3.cell? ⟨w.heap.size + 1 + 1 + 1, 2, none⟩ = some (.int .i64 D) := (hb3.cell (p := ⟨w.heap.size + 1 + 1 + 1, 2, none⟩) (by simp; omega)).trans ((hb2.cell (p := ⟨w.heap.size + 1 + 1 + 1, 2, none⟩) (by simp)).trans (by go_simp))
        have h0 : -719528 ≤ n := by omega
        have h1 : n ≤ 2933262 := by omega
        have hb0 := below_chain (w := w) (by repeat (first | exact Below.refl _ _ | refine Below.setCell ?_ (by simp) _ | refine below_drewN ?_ _ | refine Below.drew ?_ | refine Below.alloc ?_ (by simp; try omega) _)) (Below.refl _ _) ((hb2.trans (hb3.mono hb2.size)).mono (by simp; try omega))
        have HA3 := Lib.hid (HA.out.stays hb0)
        have hz3 : w.heap.size + 1 + 1 + 1 < w3.heap.size := by have := hb3.size; omega
        clear hb2 hb3 hc2 hf2 hz2
        go_wp2_with fail
        have S0 : w3.drew.cell? ⟨w.heap.size + 1 + 1 + 1, 0, none⟩ = some (.int .i64 Y) ∧ w3.drew.cell? ⟨w.heap.size + 1 + 1 + 1, 1, none⟩ = some (.int .i64 M) ∧ w3.drew.cell? ⟨w.heap.size + 1 + 1 + 1, 2, none⟩ = some (.int .i64 D) ∧ Below w.heap.size w w3.drew ∧ w.heap.size + 1 + 1 + 1 < w3.drew.heap.size := ⟨by go_simp, by go_simp, by go_simp, hb0.drew, by simpa using hz3⟩
        go_region_held3 (fun w' => w'.cell? ⟨w.heap.size + 1 + 1 + 1, 0, none⟩ = some (.int .i64 Y) ∧ w'.cell? ⟨w.heap.size + 1 + 1 + 1, 1, none⟩ = some (.int .i64 M) ∧ w'.cell? ⟨w.heap.size + 1 + 1 + 1, 2, none⟩ = some (.int .i64 D) ∧ Below w.heap.size w w' ∧ w.heap.size + 1 + 1 + 1 < w'.heap.size) (first | exact S0 | exact s_keep (by assumption) hq1 | exact s_keep (by assumption) hq2 | exact s_keep (by assumption) hq3 | go_keep) (first | (go_at_call 23; (with_reducible refine (rdate_to _ _ _ _ _ h0 h1 HD).mono ?_); rintro e w' ⟨rfl, hq1⟩) | (go_at_call 24; (with_reducible refine (ryearDay_to _ _ _ h0 h1 GY).mono ?_); rintro e w' ⟨rfl, hq2⟩) | (go_at_call 22; (with_reducible refine (wakes2_any _ (HA.out.stays (s_below (by assumption)))).mono ?_); rintro e w' ⟨rfl, hq3⟩))
        all_goals go_wp2
        all_goals go_ret
        all_goals exact ⟨rfl, s_below (by assumption)⟩
  | false =>
    have HB := Lib.hid hb
    obtain ⟨q3, q4⟩ := numE_no (y := y) (m := m) (d := d) (of_decide_eq_false hb)
    have e1 : E = 4 := by rw [← GE.out]; exact q3
    have e2 : V = 0 := by rw [← GV.out]; exact q4
    subst e1 e2
    clear q3 q4 hb
    refine (right_to _ _ _ _ _ d1 d2 HB).mono ?_
    rintro e w1 ⟨rfl, q2, rfl⟩
    by_cases hlo : n < -719528
    · have e1 : DE = 23 := by rw [← GD.out]; exact (dn_no (n := n) (by omega)).1
      have e2 : YD = 0 := by rw [← GY.out]; exact (dn_no (n := n) (by omega)).2
      obtain ⟨z1, z2, z3⟩ := dd_no (n := n) (by omega)
      rw [HD.out.1] at z1
      rw [HD.out.2.1] at z2
      rw [HD.out.2.2] at z3
      subst e1 e2 z1 z2 z3
      go_wp2_with fail
      refine (least_any _).mono ?_
      rintro e w2 ⟨rfl, hb2⟩
      obtain ⟨hc2, hf2⟩ := bcell hb2
      go_wp2_with fail
      refine (wakes2_any _ (HA.out.stays (Below.trans (by repeat (first | exact Below.refl _ _ | refine Below.setCell ?_ (by simp) _ | refine below_drewN ?_ _ | refine Below.drew ?_ | refine Below.alloc ?_ (by simp; try omega) _)) (hb2.mono (by simp; try omega))))).mono ?_
      rintro e w3 ⟨rfl, hb3⟩
      go_wp2
      go_ret
      exact ⟨rfl, below_chain (by repeat (first | exact Below.refl _ _ | refine Below.setCell ?_ (by simp) _ | refine below_drewN ?_ _ | refine Below.drew ?_ | refine Below.alloc ?_ (by simp; try omega) _)) (Below.refl _ _) ((hb2.mono (by simp; try omega)).trans (hb3.mono (by have := hb2.size; simp at this; simp; omega)))⟩
    · by_cases hhi : 2933262 < n
      · have e1 : DE = 23 := by rw [← GD.out]; exact (dn_no (n := n) (by omega)).1
        have e2 : YD = 0 := by rw [← GY.out]; exact (dn_no (n := n) (by omega)).2
        obtain ⟨z1, z2, z3⟩ := dd_no (n := n) (by omega)
        rw [HD.out.1] at z1
        rw [HD.out.2.1] at z2
        rw [HD.out.2.2] at z3
        subst e1 e2 z1 z2 z3
        go_wp2_with fail
        refine (least_any _).mono ?_
        rintro e w2 ⟨rfl, hb2⟩
        obtain ⟨hc2, hf2⟩ := bcell hb2
        go_wp2_with fail
        refine (most_any _).mono ?_
        rintro e w3 ⟨rfl, hb3⟩
        have hz2 := hb2.size
        simp at hz2
        have g0 : w3.cell? ⟨w.heap.size + 1 + 1 + 1, 0, none⟩ = some (.int .i64 0) := (hb3.cell (p := ⟨w.heap.size + 1 + 1 + 1, 0, none⟩) (by simp; omega)).trans ((hb2.cell (p := ⟨w.heap.size + 1 + 1 + 1, 0, none⟩) (by simp)).trans (by go_simp))
        have g1 : w3.cell? ⟨w.heap.size + 1 + 1 + 1, 1, none⟩ = some (.int .i64 0) := (hb3.cell (p := ⟨w.heap.size + 1 + 1 + 1, 1, none⟩) (by simp; omega)).trans ((hb2.cell (p := ⟨w.heap.size + 1 + 1 + 1, 1, none⟩) (by simp)).trans (by go_simp))
        have g2 : w3.cell? ⟨w.heap.size + 1 + 1 + 1, 2, none⟩ = some (.int .i64 0) := (hb3.cell (p := ⟨w.heap.size + 1 + 1 + 1, 2, none⟩) (by simp; omega)).trans ((hb2.cell (p := ⟨w.heap.size + 1 + 1 + 1, 2, none⟩) (by simp)).trans (by go_simp))
        go_wp2_with fail
        refine (wakes2_any _ (HA.out.stays (Below.trans (by repeat (first | exact Below.refl _ _ | refine Below.setCell ?_ (by simp) _ | refine below_drewN ?_ _ | refine Below.drew ?_ | refine Below.alloc ?_ (by simp; try omega) _)) ((hb2.trans (hb3.mono hb2.size)).mono (by simp; try omega))))).mono ?_
        rintro e w4 ⟨rfl, hb4⟩
        go_wp2
        go_ret
        exact ⟨rfl, below_chain (by repeat (first | exact Below.refl _ _ | refine Below.setCell ?_ (by simp) _ | refine below_drewN ?_ _ | refine Below.drew ?_ | refine Below.alloc ?_ (by simp; try omega) _)) (Below.refl _ _) (((hb2.trans (hb3.mono hb2.size)).mono (by simp; try omega)).trans (hb4.mono (by have := hb3.size; simp; omega)))⟩
      · have e1 : DE = 0 := by rw [← GD.out]; exact (dn_yes (n := n) ⟨by omega, by omega⟩).1
        subst e1
        go_wp2_with fail
        refine (least_any _).mono ?_
        rintro e w2 ⟨rfl, hb2⟩
        obtain ⟨hc2, hf2⟩ := bcell hb2
        go_wp2_with fail
        refine (most_any _).mono ?_
        rintro e w3 ⟨rfl, hb3⟩
        have hz2 := hb2.size
        simp at hz2
        have g0 : w3.cell? ⟨w.heap.size + 1 + 1 + 1, 0, none⟩ = some (.int .i64 Y) := (hb3.cell (p := ⟨w.heap.size + 1 + 1 + 1, 0, none⟩) (by simp; omega)).trans ((hb2.cell (p := ⟨w.heap.size + 1 + 1 + 1, 0, none⟩) (by simp)).trans (by go_simp))
        have g1 : w3.cell? ⟨w.heap.size + 1 + 1 + 1, 1, none⟩ = some (.int .i64 M) := (hb3.cell (p := ⟨w.heap.size + 1 + 1 + 1, 1, none⟩) (by simp; omega)).trans ((hb2.cell (p := ⟨w.heap.size + 1 + 1 + 1, 1, none⟩) (by simp)).trans (by go_simp))
        have g2 : w3.cell? ⟨w.heap.size + 1 + 1 + 1, 2, none⟩ = some (.int .i64 D) := (hb3.cell (p := ⟨w.heap.size + 1 + 1 + 1, 2, none⟩) (by simp; omega)).trans ((hb2.cell (p := ⟨w.heap.size + 1 + 1 + 1, 2, none⟩) (by simp)).trans (by go_simp))
        have h0 : -719528 ≤ n := by omega
        have h1 : n ≤ 2933262 := by omega
        have hb0 := below_chain (w := w) (by repeat (first | exact Below.refl _ _ | refine Below.setCell ?_ (by simp) _ | refine below_drewN ?_ _ | refine Below.drew ?_ | refine Below.alloc ?_ (by simp; try omega) _)) (Below.refl _ _) ((hb2.trans (hb3.mono hb2.size)).mono (by simp; try omega))
        have HA3 := Lib.hid (HA.out.stays hb0)
        have hz3 : w.heap.size + 1 + 1 + 1 < w3.heap.size := by have := hb3.size; omega
        clear hb2 hb3 hc2 hf2 hz2
        go_wp2_with fail
        have S0 : w3.drew.cell? ⟨w.heap.size + 1 + 1 + 1, 0, none⟩ = some (.int .i64 Y) ∧ w3.drew.cell? ⟨w.heap.size + 1 + 1 + 1, 1, none⟩ = some (.int .i64 M) ∧ w3.drew.cell? ⟨w.heap.size + 1 + 1 + 1, 2, none⟩ = some (.int .i64 D) ∧ Below w.heap.size w w3.drew ∧ w.heap.size + 1 + 1 + 1 < w3.drew.heap.size := ⟨by go_simp, by go_simp, by go_simp, hb0.drew, by simpa using hz3⟩
        go_region_held3 (fun w' => w'.cell? ⟨w.heap.size + 1 + 1 + 1, 0, none⟩ = some (.int .i64 Y) ∧ w'.cell? ⟨w.heap.size + 1 + 1 + 1, 1, none⟩ = some (.int .i64 M) ∧ w'.cell? ⟨w.heap.size + 1 + 1 + 1, 2, none⟩ = some (.int .i64 D) ∧ Below w.heap.size w w' ∧ w.heap.size + 1 + 1 + 1 < w'.heap.size) (first | exact S0 | exact s_keep (by assumption) hq1 | exact s_keep (by assumption) hq2 | exact s_keep (by assumption) hq3 | go_keep) (first | (go_at_call 23; (with_reducible refine (rdate_to _ _ _ _ _ h0 h1 HD).mono ?_); rintro e w' ⟨rfl, hq1⟩) | (go_at_call 24; (with_reducible refine (ryearDay_to _ _ _ h0 h1 GY).mono ?_); rintro e w' ⟨rfl, hq2⟩) | (go_at_call 22; (with_reducible refine (wakes2_any _ (HA.out.stays (s_below (by assumption)))).mono ?_); rintro e w' ⟨rfl, hq3⟩))
        all_goals go_wp2
        all_goals go_ret
        all_goals exact ⟨rfl, s_below (by assumption)⟩
end Civ
end Go.Proofs.YtpkknhbhliapcaaDoor
