/-
  Contracts of package week, its second part: Resolve.
-/
import Derived.Test.YtpcnpacllkiieaaGreatDoorWeek
namespace Go.Proofs.YtpcnpacllkiieaaGreatDoor
open Go.RowKit
namespace Wk
open Civ
theorem numE_4 {y m d : Int} (h : numE y m d = 4) : numV y m d = 0 := by
  by_cases hv : Cal.valid y m d = true
  · rw [numE, if_pos hv] at h; omega
  · rw [numV, if_neg hv]
theorem check_at (k v d c : Int) (w : World) (h : Hid (chE k v d = c)) :
    Calls Tryz.prog 65 #[.agg #[.int .i64 k, .int .i64 v, .int .i64 d]] w fun e w' => e = .returned (.int .i64 c) ∧ w.alloc (Obj.cells #[.int .i64 k, .int .i64 v, .int .i64 d] 23) = w' :=
  (check_any k v d w).mono fun _ _ ⟨he, hw⟩ => ⟨by rw [he, h.out], hw⟩
theorem number_at (y m d n c : Int) (w : World) (hA : Ahead w) (i1 : -9223372036854775808 ≤ d) (i2 : d ≤ 9223372036854775807) (h1 : Hid (numV y m d = n)) (h2 : Hid (numE y m d = c)) :
    Calls Tryz.prog 160 #[.agg #[.int .i64 y, .int .i64 m, .int .i64 d]] w fun e w' => e = .returned (.tuple #[.int .i64 n, .int .i64 c]) ∧ ∃ n, w' = (w.alloc (Obj.cells #[.int .i64 y, .int .i64 m, .int .i64 d] 140)).drewN n :=
  (number_w y m d w hA i1 i2).mono fun _ _ ⟨he, hw⟩ => ⟨by rw [he, h1.out, h2.out], hw⟩

set_option maxRecDepth 100000 in
set_option maxHeartbeats 3200000 in
theorem resolve_any (y m k v d : Int) (w : World) (hA : Ahead w) :
    Calls Tryz.prog 143 #[.int .i64 y, .int .i64 m, .agg #[.int .i64 k, .int .i64 v, .int .i64 d]] w fun e w' => e = .returned (.tuple #[.int .i64 (resV y m k v d), .int .i64 (resE y m k v d)]) ∧ Below w.heap.size w w' := by
  have HA := Lib.hid hA
  clear hA
  cases ho : onOk k v d with
  | false =>
    have H := Lib.hid (res_8 (y := y) (m := m) ho)
    have HC := Lib.hid (chE_no ho)
    go_enter Tryz.func143, Tryz.ntmps143
    go_wp2_with (go_at_call 65; refine (check_at _ _ _ _ _ HC).mono ?_; rintro e w' ⟨rfl, rfl⟩)
    go_ret2
    exact ⟨ret_ii H.out.2.symm H.out.1.symm, by repeat (first | exact Below.refl _ _ | refine Below.setCell ?_ (by simp) _ | refine below_drewN ?_ _ | refine Below.drew ?_ | refine Below.alloc ?_ (by simp; try omega) _)⟩
  | true =>
    have HC := Lib.hid (chE_yes ho)
    obtain ⟨⟨v0, v6⟩, ⟨k1, k4⟩, d0, d31⟩ := onOk_v ho
    by_cases hy : 1 ≤ y ∧ y ≤ 9999
    · obtain ⟨y1, y9⟩ := hy
      obtain ⟨D, hD⟩ : ∃ D, rday y m k d = D := ⟨_, rfl⟩
      have bD : 0 ≤ D ∧ D ≤ 31 := by
        rw [← hD, rday]
        have := Cal.mlen_bd y m
        split <;> omega
      rcases numE_04 y m D with hn | hn
      · obtain ⟨g1, g2, g3⟩ := numE_0 hn
        have HR := res_0 ho ⟨y1, y9⟩ (by rw [hD]; exact hn)
        rw [hD] at HR
        obtain ⟨n, hnn⟩ : ∃ n, Cal.num y m D = n := ⟨_, rfl⟩
        rw [hnn] at g1 g2 g3 HR
        have G1 := Lib.hid g1
        have G0 := Lib.hid hn
        have s1 := since_bd v n
        have s2 := untl_bd n v
        have hk : k = 1 ∨ k = 2 ∨ k = 3 ∨ k = 4 := by omega
        clear g1 hn hnn
        rcases hk with rfl | rfl | rfl | rfl
        · rw [if_neg (by decide), if_neg (by decide)] at HR
          have H := Lib.hid HR
          rw [rday, if_neg (by decide)] at hD
          subst hD
          clear HR ho
          go_enter Tryz.func143, Tryz.ntmps143
          go_wp2_with (first | (go_at_call 65; refine (check_at _ _ _ _ _ HC).mono ?_; rintro e w' ⟨rfl, rfl⟩) | (go_at_call 160; refine (number_at _ _ _ _ _ _ (HA.out.stays (by repeat (first | exact Below.refl _ _ | refine Below.setCell ?_ (by simp) _ | refine below_drewN ?_ _ | refine Below.drew ?_ | refine Below.alloc ?_ (by simp; try omega) _))) (by omega) (by omega) G1 G0).mono ?_; rintro e w' ⟨rfl, q, rfl⟩))
          go_ret2
          exact ⟨ret_ii H.out.2.symm H.out.1.symm, by repeat (first | exact Below.refl _ _ | refine Below.setCell ?_ (by simp) _ | refine below_drewN ?_ _ | refine Below.drew ?_ | refine Below.alloc ?_ (by simp; try omega) _)⟩
        · rw [if_pos (by decide)] at HR
          have H := Lib.hid HR
          rw [rday, if_pos (by decide)] at hD
          have HDD := Lib.hid hD
          clear HR ho hD
          go_enter Tryz.func143, Tryz.ntmps143
          go_wp2_with (first | (go_at_call 65; refine (check_at _ _ _ _ _ HC).mono ?_; rintro e w' ⟨rfl, rfl⟩) | (go_at_call 104; refine (len_any _ _ _).mono ?_; rintro e w' ⟨rfl, rfl⟩; rw [HDD.out]) | (go_at_call 160; refine (number_at _ _ _ _ _ _ (HA.out.stays (by repeat (first | exact Below.refl _ _ | refine Below.setCell ?_ (by simp) _ | refine below_drewN ?_ _ | refine Below.drew ?_ | refine Below.alloc ?_ (by simp; try omega) _))) (by omega) (by omega) G1 G0).mono ?_; rintro e w' ⟨rfl, q, rfl⟩) | (go_at_call 161; refine (since_any _ _ _ (by omega) (by omega)).mono ?_; rintro e w' ⟨rfl, rfl⟩))
          go_ret2
          exact ⟨ret_ii H.out.2.symm H.out.1.symm, by repeat (first | exact Below.refl _ _ | refine Below.setCell ?_ (by simp) _ | refine below_drewN ?_ _ | refine Below.drew ?_ | refine Below.alloc ?_ (by simp; try omega) _)⟩
        · rw [if_neg (by decide), if_pos (by decide)] at HR
          have H := Lib.hid HR
          rw [rday, if_neg (by decide)] at hD
          subst hD
          clear HR ho
          go_enter Tryz.func143, Tryz.ntmps143
          go_wp2_with (first | (go_at_call 65; refine (check_at _ _ _ _ _ HC).mono ?_; rintro e w' ⟨rfl, rfl⟩) | (go_at_call 160; refine (number_at _ _ _ _ _ _ (HA.out.stays (by repeat (first | exact Below.refl _ _ | refine Below.setCell ?_ (by simp) _ | refine below_drewN ?_ _ | refine Below.drew ?_ | refine Below.alloc ?_ (by simp; try omega) _))) (by omega) (by omega) G1 G0).mono ?_; rintro e w' ⟨rfl, q, rfl⟩) | (go_at_call 162; refine (until_any _ _ _ (by omega) (by omega)).mono ?_; rintro e w' ⟨rfl, rfl⟩))
          go_ret2
          exact ⟨ret_ii H.out.2.symm H.out.1.symm, by repeat (first | exact Below.refl _ _ | refine Below.setCell ?_ (by simp) _ | refine below_drewN ?_ _ | refine Below.drew ?_ | refine Below.alloc ?_ (by simp; try omega) _)⟩
        · rw [if_pos (by decide)] at HR
          have H := Lib.hid HR
          rw [rday, if_neg (by decide)] at hD
          subst hD
          clear HR ho
          go_enter Tryz.func143, Tryz.ntmps143
          go_wp2_with (first | (go_at_call 65; refine (check_at _ _ _ _ _ HC).mono ?_; rintro e w' ⟨rfl, rfl⟩) | (go_at_call 160; refine (number_at _ _ _ _ _ _ (HA.out.stays (by repeat (first | exact Below.refl _ _ | refine Below.setCell ?_ (by simp) _ | refine below_drewN ?_ _ | refine Below.drew ?_ | refine Below.alloc ?_ (by simp; try omega) _))) (by omega) (by omega) G1 G0).mono ?_; rintro e w' ⟨rfl, q, rfl⟩) | (go_at_call 161; refine (since_any _ _ _ (by omega) (by omega)).mono ?_; rintro e w' ⟨rfl, rfl⟩))
          go_ret2
          exact ⟨ret_ii H.out.2.symm H.out.1.symm, by repeat (first | exact Below.refl _ _ | refine Below.setCell ?_ (by simp) _ | refine below_drewN ?_ _ | refine Below.drew ?_ | refine Below.alloc ?_ (by simp; try omega) _)⟩
      · have H := Lib.hid (res_4 ho ⟨y1, y9⟩ (by rw [hD]; exact hn))
        have G1 : Hid (numV y m D = 0) := Lib.hid (numE_4 hn)
        have G0 := Lib.hid hn
        clear hn ho
        by_cases h2 : k = 2
        · subst h2
          rw [rday, if_pos (by decide)] at hD
          have HDD := Lib.hid hD
          clear hD
          go_enter Tryz.func143, Tryz.ntmps143
          go_wp2_with (first | (go_at_call 65; refine (check_at _ _ _ _ _ HC).mono ?_; rintro e w' ⟨rfl, rfl⟩) | (go_at_call 104; refine (len_any _ _ _).mono ?_; rintro e w' ⟨rfl, rfl⟩; rw [HDD.out]) | (go_at_call 160; refine (number_at _ _ _ _ _ _ (HA.out.stays (by repeat (first | exact Below.refl _ _ | refine Below.setCell ?_ (by simp) _ | refine below_drewN ?_ _ | refine Below.drew ?_ | refine Below.alloc ?_ (by simp; try omega) _))) (by omega) (by omega) G1 G0).mono ?_; rintro e w' ⟨rfl, q, rfl⟩))
          go_ret2
          exact ⟨ret_ii H.out.2.symm H.out.1.symm, by repeat (first | exact Below.refl _ _ | refine Below.setCell ?_ (by simp) _ | refine below_drewN ?_ _ | refine Below.drew ?_ | refine Below.alloc ?_ (by simp; try omega) _)⟩
        · rw [rday, if_neg h2] at hD
          subst hD
          have b2 : (k == 2) = false := beq_eq_false_iff_ne.2 h2
          clear h2
          go_enter Tryz.func143, Tryz.ntmps143
          go_wp2_with (first | (go_at_call 65; refine (check_at _ _ _ _ _ HC).mono ?_; rintro e w' ⟨rfl, rfl⟩) | (go_at_call 160; refine (number_at _ _ _ _ _ _ (HA.out.stays (by repeat (first | exact Below.refl _ _ | refine Below.setCell ?_ (by simp) _ | refine below_drewN ?_ _ | refine Below.drew ?_ | refine Below.alloc ?_ (by simp; try omega) _))) (by omega) (by omega) G1 G0).mono ?_; rintro e w' ⟨rfl, q, rfl⟩))
          go_ret2
          exact ⟨ret_ii H.out.2.symm H.out.1.symm, by repeat (first | exact Below.refl _ _ | refine Below.setCell ?_ (by simp) _ | refine below_drewN ?_ _ | refine Below.drew ?_ | refine Below.alloc ?_ (by simp; try omega) _)⟩
    · have H := Lib.hid (res_23 (m := m) ho hy)
      by_cases hy1 : y < 1
      · clear hy ho
        go_enter Tryz.func143, Tryz.ntmps143
        go_wp2_with (go_at_call 65; refine (check_at _ _ _ _ _ HC).mono ?_; rintro e w' ⟨rfl, rfl⟩)
        go_ret2
        exact ⟨ret_ii H.out.2.symm H.out.1.symm, by repeat (first | exact Below.refl _ _ | refine Below.setCell ?_ (by simp) _ | refine below_drewN ?_ _ | refine Below.drew ?_ | refine Below.alloc ?_ (by simp; try omega) _)⟩
      · have hy2 : 9999 < y := by omega
        clear hy ho
        go_enter Tryz.func143, Tryz.ntmps143
        go_wp2_with (go_at_call 65; refine (check_at _ _ _ _ _ HC).mono ?_; rintro e w' ⟨rfl, rfl⟩)
        go_ret2
        exact ⟨ret_ii H.out.2.symm H.out.1.symm, by repeat (first | exact Below.refl _ _ | refine Below.setCell ?_ (by simp) _ | refine below_drewN ?_ _ | refine Below.drew ?_ | refine Below.alloc ?_ (by simp; try omega) _)⟩
end Wk
end Go.Proofs.YtpcnpacllkiieaaGreatDoor
