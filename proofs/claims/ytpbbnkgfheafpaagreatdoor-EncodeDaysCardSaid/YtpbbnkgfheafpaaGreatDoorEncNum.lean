/-
  Contracts of package encode: On, where a form has a number.
-/
import Derived.Test.YtpbbnkgfheafpaaGreatDoorEncD
namespace Go.Proofs.YtpbbnkgfheafpaaGreatDoor
open Go.RowKit
namespace Enc
open Wk
set_option maxHeartbeats 12800000 in
set_option maxRecDepth 100000 in
theorem on_num (month k v d m len F : Int) (w : World) (hmo : 1 ≤ month ∧ month ≤ 12) (hm : -40 ≤ m ∧ m ≤ 40) (ho : onOk k v d = true) (hk : (k == 1) = false ∧ (k == 2) = false)
    (hl : Hid (Cal.mlen 2001 month = len)) (hF : Hid (fromV k d m = F ∧ toV k d m = F + 6)) (h1 : 1 ≤ F) (h2 : F + 6 ≤ len) (h3 : d ≤ len) (h4 : F % 7 = 1) (h5 : F ≤ 22) :
    Calls Tryz.prog 5 #[.int .i64 month, .agg #[.int .i64 k, .int .i64 v, .int .i64 d], .int .i64 m] w (NumQ (F / 7 + 1) ((v + m.tmod 7 + 7) % 7) w) := by
  have HC := Lib.hid (chE_yes ho)
  obtain ⟨⟨v0, v6⟩, hk4, ⟨d0, d31⟩⟩ := onOk_v ho
  have HK := Lib.hid hk
  obtain ⟨mo1, mo2⟩ := hmo
  obtain ⟨m1, m2⟩ := hm
  obtain ⟨k1, k2⟩ := hk
  have t1 := Int.tmod_lt_of_pos m (show (0 : Int) < 7 by decide)
  have t2 := Int.lt_tmod_of_pos m (show (0 : Int) < 7 by decide)
  obtain ⟨M, hM⟩ : ∃ x, m.tmod 7 = x := ⟨_, rfl⟩
  have HM := Lib.hid hM
  rw [hM] at t1 t2
  have H4 := Lib.hid h4
  have h4b : (F % 7 == 1) = true := by rw [h4]; rfl
  have hml : len ≤ 31 := by rw [← hl.out]; exact (Cal.mlen_bd 2001 month).2
  clear ho hM h4
  have l0_1 : w.heap.size < w.heap.size + 1 := by omega
  have n0_1 : w.heap.size ≠ w.heap.size + 1 := by omega
  have m0_1 : w.heap.size + 1 ≠ w.heap.size := by omega
  have l0_2 : w.heap.size < w.heap.size + 1 + 1 := by omega
  have n0_2 : w.heap.size ≠ w.heap.size + 1 + 1 := by omega
  have m0_2 : w.heap.size + 1 + 1 ≠ w.heap.size := by omega
  have l0_3 : w.heap.size < w.heap.size + 1 + 1 + 1 := by omega
  have n0_3 : w.heap.size ≠ w.heap.size + 1 + 1 + 1 := by omega
  have m0_3 : w.heap.size + 1 + 1 + 1 ≠ w.heap.size := by omega
  have l0_4 : w.heap.size < w.heap.size + 1 + 1 + 1 + 1 := by omega
  have n0_4 : w.heap.size ≠ w.heap.size + 1 + 1 + 1 + 1 := by omega
  have m0_4 : w.heap.size + 1 + 1 + 1 + 1 ≠ w.heap.size := by omega
  have l0_5 : w.heap.size < w.heap.size + 1 + 1 + 1 + 1 + 1 := by omega
  have n0_5 : w.heap.size ≠ w.heap.size + 1 + 1 + 1 + 1 + 1 := by omega
  have m0_5 : w.heap.size + 1 + 1 + 1 + 1 + 1 ≠ w.heap.size := by omega
  have l0_6 : w.heap.size < w.heap.size + 1 + 1 + 1 + 1 + 1 + 1 := by omega
  have n0_6 : w.heap.size ≠ w.heap.size + 1 + 1 + 1 + 1 + 1 + 1 := by omega
  have m0_6 : w.heap.size + 1 + 1 + 1 + 1 + 1 + 1 ≠ w.heap.size := by omega
  have l0_7 : w.heap.size < w.heap.size + 1 + 1 + 1 + 1 + 1 + 1 + 1 := by omega
  have n0_7 : w.heap.size ≠ w.heap.size + 1 + 1 + 1 + 1 + 1 + 1 + 1 := by omega
  have m0_7 : w.heap.size + 1 + 1 + 1 + 1 + 1 + 1 + 1 ≠ w.heap.size := by omega
  have l1_2 : w.heap.size + 1 < w.heap.size + 1 + 1 := by omega
  have n1_2 : w.heap.size + 1 ≠ w.heap.size + 1 + 1 := by omega
  have m1_2 : w.heap.size + 1 + 1 ≠ w.heap.size + 1 := by omega
  have l1_3 : w.heap.size + 1 < w.heap.size + 1 + 1 + 1 := by omega
  have n1_3 : w.heap.size + 1 ≠ w.heap.size + 1 + 1 + 1 := by omega
  have m1_3 : w.heap.size + 1 + 1 + 1 ≠ w.heap.size + 1 := by omega
  have l1_4 : w.heap.size + 1 < w.heap.size + 1 + 1 + 1 + 1 := by omega
  have n1_4 : w.heap.size + 1 ≠ w.heap.size + 1 + 1 + 1 + 1 := by omega
  have m1_4 : w.heap.size + 1 + 1 + 1 + 1 ≠ w.heap.size + 1 := by omega
  have l1_5 : w.heap.size + 1 < w.heap.size + 1 + 1 + 1 + 1 + 1 := by omega
  have n1_5 : w.heap.size + 1 ≠ w.heap.size + 1 + 1 + 1 + 1 + 1 := by omega
  have m1_5 : w.heap.size + 1 + 1 + 1 + 1 + 1 ≠ w.heap.size + 1 := by omega
  have l1_6 : w.heap.size + 1 < w.heap.size + 1 + 1 + 1 + 1 + 1 + 1 := by omega
  have n1_6 : w.heap.size + 1 ≠ w.heap.size + 1 + 1 + 1 + 1 + 1 + 1 := by omega
  have m1_6 : w.heap.size + 1 + 1 + 1 + 1 + 1 + 1 ≠ w.heap.size + 1 := by omega
  have l1_7 : w.heap.size + 1 < w.heap.size + 1 + 1 + 1 + 1 + 1 + 1 + 1 := by omega
  have n1_7 : w.heap.size + 1 ≠ w.heap.size + 1 + 1 + 1 + 1 + 1 + 1 + 1 := by omega
  have m1_7 : w.heap.size + 1 + 1 + 1 + 1 + 1 + 1 + 1 ≠ w.heap.size + 1 := by omega
  have l4_5 : w.heap.size + 1 + 1 + 1 + 1 < w.heap.size + 1 + 1 + 1 + 1 + 1 := by omega
  have n4_5 : w.heap.size + 1 + 1 + 1 + 1 ≠ w.heap.size + 1 + 1 + 1 + 1 + 1 := by omega
  have m4_5 : w.heap.size + 1 + 1 + 1 + 1 + 1 ≠ w.heap.size + 1 + 1 + 1 + 1 := by omega
  have l4_6 : w.heap.size + 1 + 1 + 1 + 1 < w.heap.size + 1 + 1 + 1 + 1 + 1 + 1 := by omega
  have n4_6 : w.heap.size + 1 + 1 + 1 + 1 ≠ w.heap.size + 1 + 1 + 1 + 1 + 1 + 1 := by omega
  have m4_6 : w.heap.size + 1 + 1 + 1 + 1 + 1 + 1 ≠ w.heap.size + 1 + 1 + 1 + 1 := by omega
  have l4_7 : w.heap.size + 1 + 1 + 1 + 1 < w.heap.size + 1 + 1 + 1 + 1 + 1 + 1 + 1 := by omega
  have n4_7 : w.heap.size + 1 + 1 + 1 + 1 ≠ w.heap.size + 1 + 1 + 1 + 1 + 1 + 1 + 1 := by omega
  have m4_7 : w.heap.size + 1 + 1 + 1 + 1 + 1 + 1 + 1 ≠ w.heap.size + 1 + 1 + 1 + 1 := by omega
  have l6_7 : w.heap.size + 1 + 1 + 1 + 1 + 1 + 1 < w.heap.size + 1 + 1 + 1 + 1 + 1 + 1 + 1 := by omega
  have n6_7 : w.heap.size + 1 + 1 + 1 + 1 + 1 + 1 ≠ w.heap.size + 1 + 1 + 1 + 1 + 1 + 1 + 1 := by omega
  have m6_7 : w.heap.size + 1 + 1 + 1 + 1 + 1 + 1 + 1 ≠ w.heap.size + 1 + 1 + 1 + 1 + 1 + 1 := by omega
  go_enter Tryz.func5, Tryz.ntmps5
  go_wp2_with fail
  refine (check_at _ _ _ _ _ HC).mono ?_
  rintro e w1 ⟨rfl, rfl⟩
  go_wp2_with fail
  refine (days_w _ _ _ _ F (F + 6) _ HK.out hk4 ⟨d0, d31⟩ ⟨m1, m2⟩ hF).mono ?_
  rintro e w1 ⟨rfl, q, rfl⟩
  go_wp2_with fail
  refine (mlen_to _ _ _ _ hl).mono ?_
  rintro e w1 ⟨rfl, rfl⟩
  have hM := HM.out
  go_wp2
  exact bodyPost_ret (v := .tuple #[.agg #[.int .i64 7, .int .i64 1, .int .i64 0, .bool false, .int .i64 0, .bool false, .slice none 0 0, .slice none 0 0, .slice none 0 0, .slice (some ⟨w.heap.size + 1 + 1 + 1 + 1 + 1 + 1 + 1, 0, none⟩) 1 1, .slice none 0 0, .slice none 0 0, .slice none 0 0, .slice (some ⟨w.heap.size + 1 + 1 + 1, 0, none⟩) 1 1, .slice none 0 0, .int .i64 1], .int .i64 0]) (by simp [results, Tryz.results5, go_sem]) rfl ⟨_, _, rfl, (by (repeat (first | (with_reducible exact Below.refl _ _) | (with_reducible refine Below.setCell ?_ ?_ _) | (with_reducible refine below_drewN ?_ _) | (with_reducible refine Below.alloc ?_ ?_ _))); all_goals (first | (simp; done) | (simp; omega) | omega)), by simp, by go_simp, by go_simp⟩
end Enc
end Go.Proofs.YtpbbnkgfheafpaaGreatDoor
