/-
  Contracts of package encode: On, seven days of the month, the first of a week. (Written by gen/gen_encs.py.)
-/
import Derived.Test.YtklanblifjgppaaDoorEncSevF
namespace Go.Proofs.YtklanblifjgppaaDoor
open Go.RowKit
namespace Enc
open Wk
set_option maxHeartbeats 12800000 in
set_option maxRecDepth 100000 in
theorem on_seven_b (month k v d m len F : Int) (w : World) (hmo : 1 ≤ month ∧ month ≤ 12) (hm : -40 ≤ m ∧ m ≤ 40) (ho : onOk k v d = true) (hk : (k == 1) = false ∧ (k == 2) = false)
    (hl : Hid (Cal.mlen 2001 month = len)) (hF : Hid (fromV k d m = F ∧ toV k d m = F + 6)) (h1 : 1 ≤ F) (h2 : F + 6 ≤ len) (h3 : d ≤ len) (h4 : (F % 7 == 1) = true) (h5 : 22 < F) :
    Calls Tryd.prog 13 #[.int .i64 month, .agg #[.int .i64 k, .int .i64 v, .int .i64 d], .int .i64 m] w (fun e w' => ∃ r, RecQ r ∧ e = .returned (.tuple #[r, .int .i64 0]) ∧ Below w.heap.size w w') := by
  have HC := Lib.hid (chE_yes ho)
  obtain ⟨⟨v0, v6⟩, hk4, ⟨d0, d31⟩⟩ := onOk_v ho
  have HK := Lib.hid hk
  obtain ⟨mo1, mo2⟩ := hmo
  obtain ⟨m1, m2⟩ := hm
  obtain ⟨k1, k2⟩ := hk
  have t1 := Int.tmod_lt_of_pos m (show (0 : Int) < 7 by decide)
  have t2 := Int.lt_tmod_of_pos m (show (0 : Int) < 7 by decide)
  obtain ⟨M, hM⟩ : ∃ x, m.tmod 7 = x := ⟨_, rfl⟩
  have HM := Lib.hid hM
  rw [hM] at t1 t2
  have hml : len ≤ 31 := by rw [← hl.out]; exact (Cal.mlen_bd 2001 month).2
  clear ho hM
  have l0_1 : w.heap.size < w.heap.size + 1 := by omega
  have n0_1 : w.heap.size ≠ w.heap.size + 1 := by omega
  have m0_1 : w.heap.size + 1 ≠ w.heap.size := by omega
  have l0_2 : w.heap.size < w.heap.size + 1 + 1 := by omega
  have n0_2 : w.heap.size ≠ w.heap.size + 1 + 1 := by omega
  have m0_2 : w.heap.size + 1 + 1 ≠ w.heap.size := by omega
  have l0_3 : w.heap.size < w.heap.size + 1 + 1 + 1 := by omega
  have n0_3 : w.heap.size ≠ w.heap.size + 1 + 1 + 1 := by omega
  have m0_3 : w.heap.size + 1 + 1 + 1 ≠ w.heap.size := by omega
  have l0_4 : w.heap.size < w.heap.size + 1 + 1 + 1 + 1 := by omega
  have n0_4 : w.heap.size ≠ w.heap.size + 1 + 1 + 1 + 1 := by omega
  have m0_4 : w.heap.size + 1 + 1 + 1 + 1 ≠ w.heap.size := by omega
  have l0_5 : w.heap.size < w.heap.size + 1 + 1 + 1 + 1 + 1 := by omega
  have n0_5 : w.heap.size ≠ w.heap.size + 1 + 1 + 1 + 1 + 1 := by omega
  have m0_5 : w.heap.size + 1 + 1 + 1 + 1 + 1 ≠ w.heap.size := by omega
  have l0_6 : w.heap.size < w.heap.size + 1 + 1 + 1 + 1 + 1 + 1 := by omega
  have n0_6 : w.heap.size ≠ w.heap.size + 1 + 1 + 1 + 1 + 1 + 1 := by omega
  have m0_6 : w.heap.size + 1 + 1 + 1 + 1 + 1 + 1 ≠ w.heap.size := by omega
  have l0_7 : w.heap.size < w.heap.size + 1 + 1 + 1 + 1 + 1 + 1 + 1 := by omega
  have n0_7 : w.heap.size ≠ w.heap.size + 1 + 1 + 1 + 1 + 1 + 1 + 1 := by omega
  have m0_7 : w.heap.size + 1 + 1 + 1 + 1 + 1 + 1 + 1 ≠ w.heap.size := by omega
  have l1_2 : w.heap.size + 1 < w.heap.size + 1 + 1 := by omega
  have n1_2 : w.heap.size + 1 ≠ w.heap.size + 1 + 1 := by omega
  have m1_2 : w.heap.size + 1 + 1 ≠ w.heap.size + 1 := by omega
  have l1_3 : w.heap.size + 1 < w.heap.size + 1 + 1 + 1 := by omega
  have n1_3 : w.heap.size + 1 ≠ w.heap.size + 1 + 1 + 1 := by omega
  have m1_3 : w.heap.size + 1 + 1 + 1 ≠ w.heap.size + 1 := by omega
  have l1_4 : w.heap.size + 1 < w.heap.size + 1 + 1 + 1 + 1 := by omega
  have n1_4 : w.heap.size + 1 ≠ w.heap.size + 1 + 1 + 1 + 1 := by omega
  have m1_4 : w.heap.size + 1 + 1 + 1 + 1 ≠ w.heap.size + 1 := by omega
  have l1_5 : w.heap.size + 1 < w.heap.size + 1 + 1 + 1 + 1 + 1 := by omega
  have n1_5 : w.heap.size + 1 ≠ w.heap.size + 1 + 1 + 1 + 1 + 1 := by omega
  have m1_5 : w.heap.size + 1 + 1 + 1 + 1 + 1 ≠ w.heap.size + 1 := by omega
  have l1_6 : w.heap.size + 1 < w.heap.size + 1 + 1 + 1 + 1 + 1 + 1 := by omega
  have n1_6 : w.heap.size + 1 ≠ w.heap.size + 1 + 1 + 1 + 1 + 1 + 1 := by omega
  have m1_6 : w.heap.size + 1 + 1 + 1 + 1 + 1 + 1 ≠ w.heap.size + 1 := by omega
  have l1_7 : w.heap.size + 1 < w.heap.size + 1 + 1 + 1 + 1 + 1 + 1 + 1 := by omega
  have n1_7 : w.heap.size + 1 ≠ w.heap.size + 1 + 1 + 1 + 1 + 1 + 1 + 1 := by omega
  have m1_7 : w.heap.size + 1 + 1 + 1 + 1 + 1 + 1 + 1 ≠ w.heap.size + 1 := by omega
  have l4_5 : w.heap.size + 1 + 1 + 1 + 1 < w.heap.size + 1 + 1 + 1 + 1 + 1 := by omega
  have n4_5 : w.heap.size + 1 + 1 + 1 + 1 ≠ w.heap.size + 1 + 1 + 1 + 1 + 1 := by omega
  have m4_5 : w.heap.size + 1 + 1 + 1 + 1 + 1 ≠ w.heap.size + 1 + 1 + 1 + 1 := by omega
  have l4_6 : w.heap.size + 1 + 1 + 1 + 1 < w.heap.size + 1 + 1 + 1 + 1 + 1 + 1 := by omega
  have n4_6 : w.heap.size + 1 + 1 + 1 + 1 ≠ w.heap.size + 1 + 1 + 1 + 1 + 1 + 1 := by omega
  have m4_6 : w.heap.size + 1 + 1 + 1 + 1 + 1 + 1 ≠ w.heap.size + 1 + 1 + 1 + 1 := by omega
  have l4_7 : w.heap.size + 1 + 1 + 1 + 1 < w.heap.size + 1 + 1 + 1 + 1 + 1 + 1 + 1 := by omega
  have n4_7 : w.heap.size + 1 + 1 + 1 + 1 ≠ w.heap.size + 1 + 1 + 1 + 1 + 1 + 1 + 1 := by omega
  have m4_7 : w.heap.size + 1 + 1 + 1 + 1 + 1 + 1 + 1 ≠ w.heap.size + 1 + 1 + 1 + 1 := by omega
  have l6_7 : w.heap.size + 1 + 1 + 1 + 1 + 1 + 1 < w.heap.size + 1 + 1 + 1 + 1 + 1 + 1 + 1 := by omega
  have n6_7 : w.heap.size + 1 + 1 + 1 + 1 + 1 + 1 ≠ w.heap.size + 1 + 1 + 1 + 1 + 1 + 1 + 1 := by omega
  have m6_7 : w.heap.size + 1 + 1 + 1 + 1 + 1 + 1 + 1 ≠ w.heap.size + 1 + 1 + 1 + 1 + 1 + 1 := by omega
  go_enter Tryd.func13, Tryd.ntmps13
  go_wp2_with fail
  refine (check_at _ _ _ _ _ HC).mono ?_
  rintro e w1 ⟨rfl, rfl⟩
  go_wp2_with fail
  refine (days_w _ _ _ _ F (F + 6) _ HK.out hk4 ⟨d0, d31⟩ ⟨m1, m2⟩ hF).mono ?_
  rintro e w1 ⟨rfl, q, rfl⟩
  go_wp2_with fail
  refine (mlen_to _ _ _ _ hl).mono ?_
  rintro e w1 ⟨rfl, rfl⟩
  have hM := HM.out
  obtain ⟨i0, hi0, hz0, hz1, hz2⟩ := info_parts i3
  all_goals
    go_wp2
    obtain ⟨W0, hW0⟩ : ∃ x, (((((((w.alloc (Obj.cells #[.int .i64 k, .int .i64 v, .int .i64 d] 37)).alloc (Obj.cells #[.int .i64 0, .int .i64 0, .int .i64 0, .bool false, .int .i64 0, .bool false, .slice none 0 0, .slice none 0 0, .slice none 0 0, .slice none 0 0, .slice none 0 0, .slice none 0 0, .slice none 0 0, .slice none 0 0, .slice none 0 0, .int .i64 0] 42)).alloc (Obj.cells #[.int .i64 k, .int .i64 v, .int .i64 d] 37)).alloc (Obj.cells #[.int .i64 month] 3)).alloc (Obj.cells #[.int .i64 7, .int .i64 1, .int .i64 0, .bool false, .int .i64 0, .bool false, .slice none 0 0, .slice none 0 0, .slice none 0 0, .slice none 0 0, .slice none 0 0, .slice none 0 0, .slice none 0 0, .slice (some ⟨w.heap.size + 1 + 1 + 1, 0, none⟩) 1 1, .slice none 0 0, .int .i64 1] 42)).alloc (Obj.cells #[.int .i64 k, .int .i64 v, .int .i64 d] 37)).drewN q).alloc (Obj.cells #[.int .i64 0, .int .i64 ((v + M) % 7)] 66) = x := ⟨_, rfl⟩
    obtain ⟨c0, c1, c2, c3, c4, c5, c6, c7, c8, c9, c10, c11, c12, c13, c14, c15⟩ := sev_c w W0 month k v d M q hW0
    obtain ⟨z0, z1, z2, z3, z4, z5, z6, z7, z8, z9, z10, z11, z12, z13, z14, z15⟩ := sev_z w W0 month k v d M q hW0
    obtain ⟨y0, y1, y2, y3, y4, y5, y6, y7, y8, y9, y10, y11, y12, y13, y14, y15⟩ := sev_y w W0 month k v d M q hW0
    obtain ⟨x9, x10, u0, u1⟩ := sev_u w W0 month k v d M q hW0
    have hs : W0.heap.size = w.heap.size + 1 + 1 + 1 + 1 + 1 + 1 + 1 := by rw [← hW0]; simp
    have hb : Below w.heap.size w W0 := by subst hW0; exact (by (repeat (first | (with_reducible exact Below.refl _ _) | (with_reducible refine Below.setCell ?_ ?_ _) | (with_reducible refine below_drewN ?_ _) | (with_reducible refine Below.alloc ?_ ?_ _))); all_goals (first | (simp; done) | (simp; omega) | omega))
    rw [hW0]
    clear hW0
    rw [show (v + M + 7) % 7 = (v + M) % 7 from by omega]
    go_loopw [14] (fun day wr => ∃ (i : Nat) (s : Value) (l : List Value), i ≤ 7 ∧ day = .int .i64 (F + i) ∧ Keep (w.heap.size + 1 + 1 + 1 + 1) W0 wr ∧ wr.cell? ⟨w.heap.size + 1 + 1 + 1 + 1, 10, none⟩ = some s ∧ wr.ownsRow (w.heap.size + 1 + 1 + 1 + 1 + 1 + 1 + 1) 3 1 s i l ∧ Below w.heap.size w wr) (fun day _ => (F + 7 - intOf day).toNat)
    case atStart => exact ⟨0, .slice none 0 0, [], by omega, by simp, Keep.refl _ _, c10, World.ownsRow_nil _ _ _ _, hb⟩
    case round =>
      obtain ⟨i, s, l, hi, rfl, hK, hc, hown, hB⟩ := hrel
      have hsz := hK.2.2
      have lR : w.heap.size + 1 + 1 + 1 + 1 < wr.heap.size := by omega
      have lZ : w.heap.size + 1 < wr.heap.size := by omega
      have lM : w.heap.size + 1 + 1 + 1 + 1 + 1 + 1 < wr.heap.size := by omega
      have lR1 : w.heap.size + 1 + 1 + 1 + 1 ≠ wr.heap.size := by omega
      have lZ1 : w.heap.size + 1 ≠ wr.heap.size := by omega
      have lR2 : wr.heap.size ≠ w.heap.size + 1 + 1 + 1 + 1 := by omega
      have lZ2 : wr.heap.size ≠ w.heap.size + 1 := by omega
      by_cases hx : i = 7
      · subst hx
        obtain ⟨gs, cs, rfl, _, _⟩ := hown.form (by decide)
        have d0 := (hK.1 ⟨w.heap.size + 1 + 1 + 1 + 1, 0, none⟩ (by show w.heap.size + 1 + 1 + 1 + 1 < _; omega) (Or.inr (by show (0 : Nat) ≠ 10; decide))).trans c0
        have d1 := (hK.1 ⟨w.heap.size + 1 + 1 + 1 + 1, 1, none⟩ (by show w.heap.size + 1 + 1 + 1 + 1 < _; omega) (Or.inr (by show (1 : Nat) ≠ 10; decide))).trans c1
        have d2 := (hK.1 ⟨w.heap.size + 1 + 1 + 1 + 1, 2, none⟩ (by show w.heap.size + 1 + 1 + 1 + 1 < _; omega) (Or.inr (by show (2 : Nat) ≠ 10; decide))).trans c2
        have d3 := (hK.1 ⟨w.heap.size + 1 + 1 + 1 + 1, 3, none⟩ (by show w.heap.size + 1 + 1 + 1 + 1 < _; omega) (Or.inr (by show (3 : Nat) ≠ 10; decide))).trans c3
        have d4 := (hK.1 ⟨w.heap.size + 1 + 1 + 1 + 1, 4, none⟩ (by show w.heap.size + 1 + 1 + 1 + 1 < _; omega) (Or.inr (by show (4 : Nat) ≠ 10; decide))).trans c4
        have d5 := (hK.1 ⟨w.heap.size + 1 + 1 + 1 + 1, 5, none⟩ (by show w.heap.size + 1 + 1 + 1 + 1 < _; omega) (Or.inr (by show (5 : Nat) ≠ 10; decide))).trans c5
        have d6 := (hK.1 ⟨w.heap.size + 1 + 1 + 1 + 1, 6, none⟩ (by show w.heap.size + 1 + 1 + 1 + 1 < _; omega) (Or.inr (by show (6 : Nat) ≠ 10; decide))).trans c6
        have d7 := (hK.1 ⟨w.heap.size + 1 + 1 + 1 + 1, 7, none⟩ (by show w.heap.size + 1 + 1 + 1 + 1 < _; omega) (Or.inr (by show (7 : Nat) ≠ 10; decide))).trans c7
        have d8 := (hK.1 ⟨w.heap.size + 1 + 1 + 1 + 1, 8, none⟩ (by show w.heap.size + 1 + 1 + 1 + 1 < _; omega) (Or.inr (by show (8 : Nat) ≠ 10; decide))).trans c8
        have d9 := (hK.1 ⟨w.heap.size + 1 + 1 + 1 + 1, 9, none⟩ (by show w.heap.size + 1 + 1 + 1 + 1 < _; omega) (Or.inr (by show (9 : Nat) ≠ 10; decide))).trans c9
        have d11 := (hK.1 ⟨w.heap.size + 1 + 1 + 1 + 1, 11, none⟩ (by show w.heap.size + 1 + 1 + 1 + 1 < _; omega) (Or.inr (by show (11 : Nat) ≠ 10; decide))).trans c11
        have d12 := (hK.1 ⟨w.heap.size + 1 + 1 + 1 + 1, 12, none⟩ (by show w.heap.size + 1 + 1 + 1 + 1 < _; omega) (Or.inr (by show (12 : Nat) ≠ 10; decide))).trans c12
        have d13 := (hK.1 ⟨w.heap.size + 1 + 1 + 1 + 1, 13, none⟩ (by show w.heap.size + 1 + 1 + 1 + 1 < _; omega) (Or.inr (by show (13 : Nat) ≠ 10; decide))).trans c13
        have d14 := (hK.1 ⟨w.heap.size + 1 + 1 + 1 + 1, 14, none⟩ (by show w.heap.size + 1 + 1 + 1 + 1 < _; omega) (Or.inr (by show (14 : Nat) ≠ 10; decide))).trans c14
        have d15 := (hK.1 ⟨w.heap.size + 1 + 1 + 1 + 1, 15, none⟩ (by show w.heap.size + 1 + 1 + 1 + 1 < _; omega) (Or.inr (by show (15 : Nat) ≠ 10; decide))).trans c15
        have f0 := (hK.1 ⟨w.heap.size + 1, 0, none⟩ (by show w.heap.size + 1 < _; omega) (Or.inl (by show w.heap.size + 1 ≠ w.heap.size + 1 + 1 + 1 + 1; omega))).trans z0
        have f1 := (hK.1 ⟨w.heap.size + 1, 1, none⟩ (by show w.heap.size + 1 < _; omega) (Or.inl (by show w.heap.size + 1 ≠ w.heap.size + 1 + 1 + 1 + 1; omega))).trans z1
        have f2 := (hK.1 ⟨w.heap.size + 1, 2, none⟩ (by show w.heap.size + 1 < _; omega) (Or.inl (by show w.heap.size + 1 ≠ w.heap.size + 1 + 1 + 1 + 1; omega))).trans z2
        have f3 := (hK.1 ⟨w.heap.size + 1, 3, none⟩ (by show w.heap.size + 1 < _; omega) (Or.inl (by show w.heap.size + 1 ≠ w.heap.size + 1 + 1 + 1 + 1; omega))).trans z3
        have f4 := (hK.1 ⟨w.heap.size + 1, 4, none⟩ (by show w.heap.size + 1 < _; omega) (Or.inl (by show w.heap.size + 1 ≠ w.heap.size + 1 + 1 + 1 + 1; omega))).trans z4
        have f5 := (hK.1 ⟨w.heap.size + 1, 5, none⟩ (by show w.heap.size + 1 < _; omega) (Or.inl (by show w.heap.size + 1 ≠ w.heap.size + 1 + 1 + 1 + 1; omega))).trans z5
        have f6 := (hK.1 ⟨w.heap.size + 1, 6, none⟩ (by show w.heap.size + 1 < _; omega) (Or.inl (by show w.heap.size + 1 ≠ w.heap.size + 1 + 1 + 1 + 1; omega))).trans z6
        have f7 := (hK.1 ⟨w.heap.size + 1, 7, none⟩ (by show w.heap.size + 1 < _; omega) (Or.inl (by show w.heap.size + 1 ≠ w.heap.size + 1 + 1 + 1 + 1; omega))).trans z7
        have f8 := (hK.1 ⟨w.heap.size + 1, 8, none⟩ (by show w.heap.size + 1 < _; omega) (Or.inl (by show w.heap.size + 1 ≠ w.heap.size + 1 + 1 + 1 + 1; omega))).trans z8
        have f9 := (hK.1 ⟨w.heap.size + 1, 9, none⟩ (by show w.heap.size + 1 < _; omega) (Or.inl (by show w.heap.size + 1 ≠ w.heap.size + 1 + 1 + 1 + 1; omega))).trans z9
        have f10 := (hK.1 ⟨w.heap.size + 1, 10, none⟩ (by show w.heap.size + 1 < _; omega) (Or.inl (by show w.heap.size + 1 ≠ w.heap.size + 1 + 1 + 1 + 1; omega))).trans z10
        have f11 := (hK.1 ⟨w.heap.size + 1, 11, none⟩ (by show w.heap.size + 1 < _; omega) (Or.inl (by show w.heap.size + 1 ≠ w.heap.size + 1 + 1 + 1 + 1; omega))).trans z11
        have f12 := (hK.1 ⟨w.heap.size + 1, 12, none⟩ (by show w.heap.size + 1 < _; omega) (Or.inl (by show w.heap.size + 1 ≠ w.heap.size + 1 + 1 + 1 + 1; omega))).trans z12
        have f13 := (hK.1 ⟨w.heap.size + 1, 13, none⟩ (by show w.heap.size + 1 < _; omega) (Or.inl (by show w.heap.size + 1 ≠ w.heap.size + 1 + 1 + 1 + 1; omega))).trans z13
        have f14 := (hK.1 ⟨w.heap.size + 1, 14, none⟩ (by show w.heap.size + 1 < _; omega) (Or.inl (by show w.heap.size + 1 ≠ w.heap.size + 1 + 1 + 1 + 1; omega))).trans z14
        have f15 := (hK.1 ⟨w.heap.size + 1, 15, none⟩ (by show w.heap.size + 1 < _; omega) (Or.inl (by show w.heap.size + 1 ≠ w.heap.size + 1 + 1 + 1 + 1; omega))).trans z15
        have g0 := (hK.2.1 ⟨w.heap.size + 1, 0, none⟩ (by show w.heap.size + 1 < _; omega)).trans y0
        have g1 := (hK.2.1 ⟨w.heap.size + 1, 1, none⟩ (by show w.heap.size + 1 < _; omega)).trans y1
        have g2 := (hK.2.1 ⟨w.heap.size + 1, 2, none⟩ (by show w.heap.size + 1 < _; omega)).trans y2
        have g3 := (hK.2.1 ⟨w.heap.size + 1, 3, none⟩ (by show w.heap.size + 1 < _; omega)).trans y3
        have g4 := (hK.2.1 ⟨w.heap.size + 1, 4, none⟩ (by show w.heap.size + 1 < _; omega)).trans y4
        have g5 := (hK.2.1 ⟨w.heap.size + 1, 5, none⟩ (by show w.heap.size + 1 < _; omega)).trans y5
        have g6 := (hK.2.1 ⟨w.heap.size + 1, 6, none⟩ (by show w.heap.size + 1 < _; omega)).trans y6
        have g7 := (hK.2.1 ⟨w.heap.size + 1, 7, none⟩ (by show w.heap.size + 1 < _; omega)).trans y7
        have g8 := (hK.2.1 ⟨w.heap.size + 1, 8, none⟩ (by show w.heap.size + 1 < _; omega)).trans y8
        have g9 := (hK.2.1 ⟨w.heap.size + 1, 9, none⟩ (by show w.heap.size + 1 < _; omega)).trans y9
        have g10 := (hK.2.1 ⟨w.heap.size + 1, 10, none⟩ (by show w.heap.size + 1 < _; omega)).trans y10
        have g11 := (hK.2.1 ⟨w.heap.size + 1, 11, none⟩ (by show w.heap.size + 1 < _; omega)).trans y11
        have g12 := (hK.2.1 ⟨w.heap.size + 1, 12, none⟩ (by show w.heap.size + 1 < _; omega)).trans y12
        have g13 := (hK.2.1 ⟨w.heap.size + 1, 13, none⟩ (by show w.heap.size + 1 < _; omega)).trans y13
        have g14 := (hK.2.1 ⟨w.heap.size + 1, 14, none⟩ (by show w.heap.size + 1 < _; omega)).trans y14
        have g15 := (hK.2.1 ⟨w.heap.size + 1, 15, none⟩ (by show w.heap.size + 1 < _; omega)).trans y15
        have h9 := (hK.2.1 ⟨w.heap.size + 1 + 1 + 1 + 1, 9, none⟩ (by show w.heap.size + 1 + 1 + 1 + 1 < _; omega)).trans x9
        have e0 := (hK.1 ⟨w.heap.size + 1 + 1 + 1 + 1 + 1 + 1, 0, none⟩ (by show w.heap.size + 1 + 1 + 1 + 1 + 1 + 1 < _; omega) (Or.inl (by show w.heap.size + 1 + 1 + 1 + 1 + 1 + 1 ≠ w.heap.size + 1 + 1 + 1 + 1; omega))).trans u0
        have e1 := (hK.1 ⟨w.heap.size + 1 + 1 + 1 + 1 + 1 + 1, 1, none⟩ (by show w.heap.size + 1 + 1 + 1 + 1 + 1 + 1 < _; omega) (Or.inl (by show w.heap.size + 1 + 1 + 1 + 1 + 1 + 1 ≠ w.heap.size + 1 + 1 + 1 + 1; omega))).trans u1
        clear c0 c1 c2 c3 c4 c5 c6 c7 c8 c9 c10 c11 c12 c13 c14 c15 z0 z1 z2 z3 z4 z5 z6 z7 z8 z9 z10 z11 z12 z13 z14 z15 y0 y1 y2 y3 y4 y5 y6 y7 y8 y9 y10 y11 y12 y13 y14 y15 x9 u0 u1
        have hv : Value.int IntKind.i64 (F + ((7 : Nat) : Int)) = .int .i64 (F + 7) := rfl
        rw [hv]
        go_wp2
        exact bodyPost_ret (v := .tuple #[.agg #[.int .i64 7, .int .i64 1, .int .i64 0, .bool false, .int .i64 0, .bool false, .slice none 0 0, .slice none 0 0, .slice none 0 0, .slice (some ⟨wr.heap.size, 0, none⟩) 1 1, .slice (some ⟨gs, 0, none⟩) 7 cs, .slice none 0 0, .slice none 0 0, .slice (some ⟨w.heap.size + 1 + 1 + 1, 0, none⟩) 1 1, .slice none 0 0, .int .i64 1], .int .i64 0]) (by simp [results, Tryd.results13, go_sem, lZ, f0, f1, f2, f3, f4, f5, f6, f7, f8, f9, f10, f11, f12, f13, f14, f15]) rfl ⟨_, ⟨_, _, _, _, _, _, _, _, _, _, _, _, rfl⟩, rfl, (by (repeat (first | (with_reducible exact hB) | (with_reducible refine Below.setCell ?_ ?_ _) | (with_reducible refine Below.alloc ?_ ?_ _))); all_goals (first | (simp; done) | (simp; omega) | omega | (have := hB.size; simp; omega)))⟩
      · have hlt : i < 7 := by omega
        have ho2 := hown.alloc (Obj.cells #[.int .i64 (F + i)] 3)
        go_wp2_with (at_builtin; refine wpList_append_own _ rfl _ _ 39 rfl (w.heap.size + 1 + 1 + 1 + 1 + 1 + 1 + 1) 3 i0 (.int .i64 0) 1 8 (by kernel_rfl) hi0 hz0 hz1 hz2 rfl (by decide) _ _ _ rfl ho2 ⟨wr.heap.size, 0, none⟩ 1 1 [.int .i64 (F + i)] rfl rfl ?d1 ?d2 ?d3 ?d4 ?d5 ?_)
        case d1 =>
          intro j u hj
          match j, hj with
          | 0, hj => simp at hj; subst hj; simp [Addr.add]
        case d2 => intro u hu; simp at hu; subst hu; rfl
        case d3 => unfold maxLen; omega
        case d4 => omega
        case d5 => simp; omega
        intro s' w5 r3 g3 hne
        obtain ⟨gs, cs, rfl, _, _⟩ := r3.form (by omega)
        have hlow : ∀ j, s.ownBlock = some j → w.heap.size + 1 + 1 + 1 + 1 + 1 + 1 + 1 ≤ j := fun j hj => (ho2.lt j hj).1
        have hK5 : Keep (w.heap.size + 1 + 1 + 1 + 1) W0 w5 := (hK.alloc _).grown g3 (fun j hj => by have := hlow j hj; omega)
        have hB5 : Below w.heap.size w w5 := (hB.alloc (hB.size) _).grown g3 (by have := hB.size; simp; omega) (fun j hj => by have := hlow j hj; omega)
        have hc5 : w5.cell? ⟨w.heap.size + 1 + 1 + 1 + 1, 10, none⟩ = some s := (g3.cell_far ⟨w.heap.size + 1 + 1 + 1 + 1, 10, none⟩ (by rw [World.size_alloc]; show w.heap.size + 1 + 1 + 1 + 1 < _; omega) (fun e => by have : w.heap.size + 1 + 1 + 1 + 1 + 1 + 1 + 1 ≤ w.heap.size + 1 + 1 + 1 + 1 := hlow _ e.symm; omega)).trans ((World.cell?_alloc_lt wr _ ⟨w.heap.size + 1 + 1 + 1 + 1, 10, none⟩ (by show w.heap.size + 1 + 1 + 1 + 1 < _; omega)).trans hc)
        have hf5 : w5.frozen? ⟨w.heap.size + 1 + 1 + 1 + 1, 10, none⟩ = false := (hK5.2.1 ⟨w.heap.size + 1 + 1 + 1 + 1, 10, none⟩ (by show w.heap.size + 1 + 1 + 1 + 1 < _; omega)).trans x10
        go_wp2
        go_roundw
        case rel =>
          exact ⟨i + 1, .slice (some ⟨gs, 0, none⟩) (i + 1) cs, _, by omega, congrArg _ (by omega), hK5.set _, World.cell?_setCell_same _ _ _ hc5, ownsRow_setCell_below r3 (by show w.heap.size + 1 + 1 + 1 + 1 < w.heap.size + 1 + 1 + 1 + 1 + 1 + 1 + 1; omega) _, hB5.setCell (by show w.heap.size ≤ w.heap.size + 1 + 1 + 1 + 1; omega) _⟩
        case measure => simp [intOf]; omega
end Enc
end Go.Proofs.YtklanblifjgppaaDoor
