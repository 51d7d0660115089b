/-
  Contracts of package encode: On, a day of the month; the last weekday. (Written by gen/gen_encs.py.)
-/
import Derived.Test.YtklanblifjgppaaDoorEncNo
namespace Go.Proofs.YtklanblifjgppaaDoor
open Go.RowKit
namespace Enc
open Wk
/-- A rule with one day of the month. -/
def DayQ (n month : Int) (w : World) (e : Ending) (w' : World) : Prop := ∃ gd gm, e = .returned (.tuple #[.agg #[.int .i64 7, .int .i64 1, .int .i64 0, .bool false, .int .i64 0, .bool false, .slice none 0 0, .slice none 0 0, .slice none 0 0, .slice none 0 0, .slice (some ⟨gd, 0, none⟩) 1 1, .slice none 0 0, .slice none 0 0, .slice (some ⟨gm, 0, none⟩) 1 1, .slice none 0 0, .int .i64 1], .int .i64 0]) ∧ Below w.heap.size w w' ∧ gd < w'.heap.size ∧ gm < w'.heap.size ∧ w'.cell? ⟨gd, 0, none⟩ = some (.int .i64 n) ∧ w'.cell? ⟨gm, 0, none⟩ = some (.int .i64 month)
/-- A rule with one weekday, with a number. -/
def WdQ (n v month : Int) (w : World) (e : Ending) (w' : World) : Prop := ∃ gd gm, e = .returned (.tuple #[.agg #[.int .i64 7, .int .i64 1, .int .i64 0, .bool false, .int .i64 0, .bool false, .slice none 0 0, .slice none 0 0, .slice none 0 0, .slice (some ⟨gd, 0, none⟩) 1 1, .slice none 0 0, .slice none 0 0, .slice none 0 0, .slice (some ⟨gm, 0, none⟩) 1 1, .slice none 0 0, .int .i64 1], .int .i64 0]) ∧ Below w.heap.size w w' ∧ gd < w'.heap.size ∧ gm < w'.heap.size ∧ w'.cell? ⟨gd, 0, none⟩ = some (.int .i64 n) ∧ w'.cell? ⟨gd, 1, none⟩ = some (.int .i64 v) ∧ w'.cell? ⟨gm, 0, none⟩ = some (.int .i64 month)
set_option maxHeartbeats 12800000 in
set_option maxRecDepth 100000 in
theorem on_day (month v d m len F : Int) (w : World) (hmo : 1 ≤ month ∧ month ≤ 12) (hm : -40 ≤ m ∧ m ≤ 40) (ho : onOk 1 v d = true)
    (hl : Hid (Cal.mlen 2001 month = len)) (hF : Hid (fromV 1 d m = F ∧ toV 1 d m = F)) (h1 : d ≤ len) (h2 : 1 ≤ F) (h3 : F ≤ len) :
    Calls Tryd.prog 13 #[.int .i64 month, .agg #[.int .i64 1, .int .i64 v, .int .i64 d], .int .i64 m] w (DayQ F month w) := by
  have HC := Lib.hid (chE_yes ho)
  obtain ⟨⟨v0, v6⟩, hk4, ⟨d0, d31⟩⟩ := onOk_v ho
  obtain ⟨mo1, mo2⟩ := hmo
  obtain ⟨m1, m2⟩ := hm
  have hml : len ≤ 31 := by rw [← hl.out]; exact (Cal.mlen_bd 2001 month).2
  clear ho
  have l0_1 : w.heap.size < w.heap.size + 1 := by omega
  have n0_1 : w.heap.size ≠ w.heap.size + 1 := by omega
  have m0_1 : w.heap.size + 1 ≠ w.heap.size := by omega
  have l0_2 : w.heap.size < w.heap.size + 1 + 1 := by omega
  have n0_2 : w.heap.size ≠ w.heap.size + 1 + 1 := by omega
  have m0_2 : w.heap.size + 1 + 1 ≠ w.heap.size := by omega
  have l0_3 : w.heap.size < w.heap.size + 1 + 1 + 1 := by omega
  have n0_3 : w.heap.size ≠ w.heap.size + 1 + 1 + 1 := by omega
  have m0_3 : w.heap.size + 1 + 1 + 1 ≠ w.heap.size := by omega
  have l0_4 : w.heap.size < w.heap.size + 1 + 1 + 1 + 1 := by omega
  have n0_4 : w.heap.size ≠ w.heap.size + 1 + 1 + 1 + 1 := by omega
  have m0_4 : w.heap.size + 1 + 1 + 1 + 1 ≠ w.heap.size := by omega
  have l0_5 : w.heap.size < w.heap.size + 1 + 1 + 1 + 1 + 1 := by omega
  have n0_5 : w.heap.size ≠ w.heap.size + 1 + 1 + 1 + 1 + 1 := by omega
  have m0_5 : w.heap.size + 1 + 1 + 1 + 1 + 1 ≠ w.heap.size := by omega
  have l0_6 : w.heap.size < w.heap.size + 1 + 1 + 1 + 1 + 1 + 1 := by omega
  have n0_6 : w.heap.size ≠ w.heap.size + 1 + 1 + 1 + 1 + 1 + 1 := by omega
  have m0_6 : w.heap.size + 1 + 1 + 1 + 1 + 1 + 1 ≠ w.heap.size := by omega
  have l0_7 : w.heap.size < w.heap.size + 1 + 1 + 1 + 1 + 1 + 1 + 1 := by omega
  have n0_7 : w.heap.size ≠ w.heap.size + 1 + 1 + 1 + 1 + 1 + 1 + 1 := by omega
  have m0_7 : w.heap.size + 1 + 1 + 1 + 1 + 1 + 1 + 1 ≠ w.heap.size := by omega
  have l1_2 : w.heap.size + 1 < w.heap.size + 1 + 1 := by omega
  have n1_2 : w.heap.size + 1 ≠ w.heap.size + 1 + 1 := by omega
  have m1_2 : w.heap.size + 1 + 1 ≠ w.heap.size + 1 := by omega
  have l1_3 : w.heap.size + 1 < w.heap.size + 1 + 1 + 1 := by omega
  have n1_3 : w.heap.size + 1 ≠ w.heap.size + 1 + 1 + 1 := by omega
  have m1_3 : w.heap.size + 1 + 1 + 1 ≠ w.heap.size + 1 := by omega
  have l1_4 : w.heap.size + 1 < w.heap.size + 1 + 1 + 1 + 1 := by omega
  have n1_4 : w.heap.size + 1 ≠ w.heap.size + 1 + 1 + 1 + 1 := by omega
  have m1_4 : w.heap.size + 1 + 1 + 1 + 1 ≠ w.heap.size + 1 := by omega
  have l1_5 : w.heap.size + 1 < w.heap.size + 1 + 1 + 1 + 1 + 1 := by omega
  have n1_5 : w.heap.size + 1 ≠ w.heap.size + 1 + 1 + 1 + 1 + 1 := by omega
  have m1_5 : w.heap.size + 1 + 1 + 1 + 1 + 1 ≠ w.heap.size + 1 := by omega
  have l1_6 : w.heap.size + 1 < w.heap.size + 1 + 1 + 1 + 1 + 1 + 1 := by omega
  have n1_6 : w.heap.size + 1 ≠ w.heap.size + 1 + 1 + 1 + 1 + 1 + 1 := by omega
  have m1_6 : w.heap.size + 1 + 1 + 1 + 1 + 1 + 1 ≠ w.heap.size + 1 := by omega
  have l1_7 : w.heap.size + 1 < w.heap.size + 1 + 1 + 1 + 1 + 1 + 1 + 1 := by omega
  have n1_7 : w.heap.size + 1 ≠ w.heap.size + 1 + 1 + 1 + 1 + 1 + 1 + 1 := by omega
  have m1_7 : w.heap.size + 1 + 1 + 1 + 1 + 1 + 1 + 1 ≠ w.heap.size + 1 := by omega
  go_enter Tryd.func13, Tryd.ntmps13
  go_wp2_with fail
  refine (check_at _ _ _ _ _ HC).mono ?_
  rintro e w1 ⟨rfl, rfl⟩
  go_wp2_with fail
  refine (days_w3 _ _ _ _ F F _ rfl hk4 ⟨d0, d31⟩ ⟨m1, m2⟩ hF).mono ?_
  rintro e w1 ⟨rfl, q, rfl⟩
  go_wp2_with fail
  refine (mlen_to _ _ _ _ hl).mono ?_
  rintro e w1 ⟨rfl, rfl⟩
  go_wp2
  exact bodyPost_ret (v := .tuple #[.agg #[.int .i64 7, .int .i64 1, .int .i64 0, .bool false, .int .i64 0, .bool false, .slice none 0 0, .slice none 0 0, .slice none 0 0, .slice none 0 0, .slice (some ⟨w.heap.size + 1 + 1 + 1 + 1 + 1 + 1, 0, none⟩) 1 1, .slice none 0 0, .slice none 0 0, .slice (some ⟨w.heap.size + 1 + 1 + 1, 0, none⟩) 1 1, .slice none 0 0, .int .i64 1], .int .i64 0]) (by simp [results, Tryd.results13, go_sem]) rfl ⟨_, _, rfl, (by (repeat (first | (with_reducible exact Below.refl _ _) | (with_reducible refine Below.setCell ?_ ?_ _) | (with_reducible refine below_drewN ?_ _) | (with_reducible refine Below.alloc ?_ ?_ _))); all_goals (first | (simp; done) | (simp; omega) | omega)), by simp, by simp, by go_simp, by go_simp⟩
set_option maxHeartbeats 12800000 in
set_option maxRecDepth 100000 in
theorem on_last (month v d : Int) (w : World) (hmo : 1 ≤ month ∧ month ≤ 12) (ho : onOk 2 v d = true) :
    Calls Tryd.prog 13 #[.int .i64 month, .agg #[.int .i64 2, .int .i64 v, .int .i64 d], .int .i64 0] w (WdQ (-1) v month w) := by
  have HC := Lib.hid (chE_yes ho)
  obtain ⟨⟨v0, v6⟩, hk4, ⟨d0, d31⟩⟩ := onOk_v ho
  obtain ⟨mo1, mo2⟩ := hmo
  clear ho
  have l0_1 : w.heap.size < w.heap.size + 1 := by omega
  have n0_1 : w.heap.size ≠ w.heap.size + 1 := by omega
  have m0_1 : w.heap.size + 1 ≠ w.heap.size := by omega
  have l0_2 : w.heap.size < w.heap.size + 1 + 1 := by omega
  have n0_2 : w.heap.size ≠ w.heap.size + 1 + 1 := by omega
  have m0_2 : w.heap.size + 1 + 1 ≠ w.heap.size := by omega
  have l0_3 : w.heap.size < w.heap.size + 1 + 1 + 1 := by omega
  have n0_3 : w.heap.size ≠ w.heap.size + 1 + 1 + 1 := by omega
  have m0_3 : w.heap.size + 1 + 1 + 1 ≠ w.heap.size := by omega
  have l0_4 : w.heap.size < w.heap.size + 1 + 1 + 1 + 1 := by omega
  have n0_4 : w.heap.size ≠ w.heap.size + 1 + 1 + 1 + 1 := by omega
  have m0_4 : w.heap.size + 1 + 1 + 1 + 1 ≠ w.heap.size := by omega
  have l0_5 : w.heap.size < w.heap.size + 1 + 1 + 1 + 1 + 1 := by omega
  have n0_5 : w.heap.size ≠ w.heap.size + 1 + 1 + 1 + 1 + 1 := by omega
  have m0_5 : w.heap.size + 1 + 1 + 1 + 1 + 1 ≠ w.heap.size := by omega
  have l0_6 : w.heap.size < w.heap.size + 1 + 1 + 1 + 1 + 1 + 1 := by omega
  have n0_6 : w.heap.size ≠ w.heap.size + 1 + 1 + 1 + 1 + 1 + 1 := by omega
  have m0_6 : w.heap.size + 1 + 1 + 1 + 1 + 1 + 1 ≠ w.heap.size := by omega
  have l0_7 : w.heap.size < w.heap.size + 1 + 1 + 1 + 1 + 1 + 1 + 1 := by omega
  have n0_7 : w.heap.size ≠ w.heap.size + 1 + 1 + 1 + 1 + 1 + 1 + 1 := by omega
  have m0_7 : w.heap.size + 1 + 1 + 1 + 1 + 1 + 1 + 1 ≠ w.heap.size := by omega
  have l1_2 : w.heap.size + 1 < w.heap.size + 1 + 1 := by omega
  have n1_2 : w.heap.size + 1 ≠ w.heap.size + 1 + 1 := by omega
  have m1_2 : w.heap.size + 1 + 1 ≠ w.heap.size + 1 := by omega
  have l1_3 : w.heap.size + 1 < w.heap.size + 1 + 1 + 1 := by omega
  have n1_3 : w.heap.size + 1 ≠ w.heap.size + 1 + 1 + 1 := by omega
  have m1_3 : w.heap.size + 1 + 1 + 1 ≠ w.heap.size + 1 := by omega
  have l1_4 : w.heap.size + 1 < w.heap.size + 1 + 1 + 1 + 1 := by omega
  have n1_4 : w.heap.size + 1 ≠ w.heap.size + 1 + 1 + 1 + 1 := by omega
  have m1_4 : w.heap.size + 1 + 1 + 1 + 1 ≠ w.heap.size + 1 := by omega
  have l1_5 : w.heap.size + 1 < w.heap.size + 1 + 1 + 1 + 1 + 1 := by omega
  have n1_5 : w.heap.size + 1 ≠ w.heap.size + 1 + 1 + 1 + 1 + 1 := by omega
  have m1_5 : w.heap.size + 1 + 1 + 1 + 1 + 1 ≠ w.heap.size + 1 := by omega
  have l1_6 : w.heap.size + 1 < w.heap.size + 1 + 1 + 1 + 1 + 1 + 1 := by omega
  have n1_6 : w.heap.size + 1 ≠ w.heap.size + 1 + 1 + 1 + 1 + 1 + 1 := by omega
  have m1_6 : w.heap.size + 1 + 1 + 1 + 1 + 1 + 1 ≠ w.heap.size + 1 := by omega
  have l1_7 : w.heap.size + 1 < w.heap.size + 1 + 1 + 1 + 1 + 1 + 1 + 1 := by omega
  have n1_7 : w.heap.size + 1 ≠ w.heap.size + 1 + 1 + 1 + 1 + 1 + 1 + 1 := by omega
  have m1_7 : w.heap.size + 1 + 1 + 1 + 1 + 1 + 1 + 1 ≠ w.heap.size + 1 := by omega
  go_enter Tryd.func13, Tryd.ntmps13
  go_wp2_with fail
  refine (check_at _ _ _ _ _ HC).mono ?_
  rintro e w1 ⟨rfl, rfl⟩
  go_wp2
  exact bodyPost_ret (v := .tuple #[.agg #[.int .i64 7, .int .i64 1, .int .i64 0, .bool false, .int .i64 0, .bool false, .slice none 0 0, .slice none 0 0, .slice none 0 0, .slice (some ⟨w.heap.size + 1 + 1 + 1 + 1 + 1, 0, none⟩) 1 1, .slice none 0 0, .slice none 0 0, .slice none 0 0, .slice (some ⟨w.heap.size + 1 + 1 + 1, 0, none⟩) 1 1, .slice none 0 0, .int .i64 1], .int .i64 0]) (by simp [results, Tryd.results13, go_sem]) rfl ⟨_, _, rfl, (by (repeat (first | (with_reducible exact Below.refl _ _) | (with_reducible refine Below.setCell ?_ ?_ _) | (with_reducible refine below_drewN ?_ _) | (with_reducible refine Below.alloc ?_ ?_ _))); all_goals (first | (simp; done) | (simp; omega) | omega)), by simp, by simp, by go_simp, by go_simp, by go_simp⟩
end Enc
end Go.Proofs.YtklanblifjgppaaDoor
