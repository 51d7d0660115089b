/-
  WeekSame: the law answers true at every three integers, in whatever world that holds the table of the months.
-/
import Derived.Test.YtopclopmgnkoeabDoorLaw3
namespace Go.Proofs.YtopclopmgnkoeabDoor
open Go.RowKit
namespace Wk
open Civ
theorem num_d (Y M D : Int) : Cal.num Y M D = Cal.num Y M 1 + (D - 1) := by unfold Cal.num; omega
theorem res_v {Y M k K D : Int} (y1 : 1 ≤ Y) (y9 : Y ≤ 9999) (m1 : 1 ≤ M) (m2 : M ≤ 12) (k0 : 0 ≤ K) (k6 : K ≤ 6) (d1 : 1 ≤ D) (d2 : D ≤ 28) (hk : k = 3 ∨ k = 4) :
    resE Y M k K D = 0 ∧ resV Y M k K D = (if k = 4 then Cal.num Y M D - since K (Cal.num Y M D) else Cal.num Y M D + untl (Cal.num Y M D) K) := by
  have ml := Cal.mlen_28 (y := Y) m1 m2
  obtain ⟨a1, _⟩ := num_bd (Y := Y) (M := M) (D := D) (by omega) (by omega) m1 m2 d1 (by omega)
  obtain ⟨p1, p2⟩ := res_0 (y := Y) (m := M) (k := k) (v := K) (d := D) (onOk_mk (by omega)) ⟨y1, y9⟩ (by rw [rday, if_neg (by omega)]; exact a1)
  rcases hk with rfl | rfl
  · rw [if_neg (by decide), if_pos rfl, rday, if_neg (by decide)] at p2
    exact ⟨p1, by rw [p2, if_neg (by decide)]⟩
  · rw [if_pos (by decide), rday, if_neg (by decide)] at p2
    exact ⟨p1, by rw [p2, if_pos rfl]⟩
theorem same_facts (Y M K : Int) (y1 : 1 ≤ Y) (y9 : Y ≤ 9999) (m1 : 1 ≤ M) (m2 : M ≤ 12) (k0 : 0 ≤ K) (k6 : K ≤ 6) :
    ∃ F a d : Int, (numV Y M 1 = F ∧ numE Y M 1 = 0) ∧ (resV Y M 3 K 1 = a ∧ resE Y M 3 K 1 = 0) ∧ (resV Y M 3 K 8 = a + 7 ∧ resE Y M 3 K 8 = 0) ∧ (resV Y M 4 K 14 = a + 7 ∧ resE Y M 4 K 14 = 0) ∧
      (resV Y M 2 K 0 = d ∧ resE Y M 2 K 0 = 0) ∧ (d = a + 21 ∨ d = a + 28) ∧ (nthV F (F + Cal.mlen Y M - 1) 1 K = a ∧ nthB F (F + Cal.mlen Y M - 1) 1 K = true) ∧ (nthV F (F + Cal.mlen Y M - 1) (-1) K = d ∧ nthB F (F + Cal.mlen Y M - 1) (-1) K = true) ∧
      (-719528 ≤ F ∧ F ≤ 2933262) ∧ (-719528 ≤ a ∧ a ≤ 2933300) := by
  have ml := Cal.mlen_28 (y := Y) m1 m2
  have mh := (Cal.mlen_bd Y M).2
  obtain ⟨a1, a2, _, _, a5, a6⟩ := num_bd (Y := Y) (M := M) (D := 1) (by omega) (by omega) m1 m2 (by omega) (by omega)
  obtain ⟨b1, b2, _, _, b5, b6⟩ := num_bd (Y := Y) (M := M) (D := Cal.mlen Y M) (by omega) (by omega) m1 m2 (by omega) (Int.le_refl _)
  obtain ⟨r1, r2⟩ := res_0 (y := Y) (m := M) (k := 2) (v := K) (d := 0) (onOk_mk (by omega)) ⟨y1, y9⟩ (by rw [rday, if_pos rfl]; exact b1)
  rw [if_pos (by decide), rday, if_pos rfl] at r2
  obtain ⟨p1, p2⟩ := res_v (k := 3) (D := 1) y1 y9 m1 m2 k0 k6 (by omega) (by omega) (Or.inl rfl)
  obtain ⟨q1, q2⟩ := res_v (k := 3) (D := 8) y1 y9 m1 m2 k0 k6 (by omega) (by omega) (Or.inl rfl)
  obtain ⟨s1, s2⟩ := res_v (k := 4) (D := 14) y1 y9 m1 m2 k0 k6 (by omega) (by omega) (Or.inr rfl)
  rw [if_neg (by decide)] at p2
  rw [if_neg (by decide), num_d Y M 8] at q2
  rw [if_pos rfl, num_d Y M 14] at s2
  rw [num_d Y M (Cal.mlen Y M)] at r2
  generalize Cal.num Y M 1 = F at *
  generalize Cal.mlen Y M = L at *
  have u := untl_bd F K
  have e8 : F + (8 - 1) + untl (F + (8 - 1)) K = F + untl F K + 7 := by unfold untl Cal.wday; omega
  have e14 : F + (14 - 1) - since K (F + (14 - 1)) = F + untl F K + 7 := by unfold untl since Cal.wday; omega
  have ed : F + (L - 1) - since K (F + (L - 1)) = F + untl F K + 21 ∨ F + (L - 1) - since K (F + (L - 1)) = F + untl F K + 28 := by unfold untl since Cal.wday; omega
  have s := since_bd K (F + (L - 1))
  have eT : F + L - 1 = F + (L - 1) := by omega
  obtain ⟨n1, n2⟩ := nth_pos (f := F) (t := F + L - 1) (num := 1) (k := K) (by omega) (by omega) (by omega)
  obtain ⟨n3, n4⟩ := nth_neg (f := F) (t := F + L - 1) (num := -1) (k := K) (by omega) (by omega) (by rw [eT]; omega)
  refine ⟨F, _, _, ⟨a2, a1⟩, ⟨p2, p1⟩, ⟨q2.trans e8, q1⟩, ⟨s2.trans e14, s1⟩, ⟨r2, r1⟩, ed, ⟨by rw [n2]; omega, n1⟩, ⟨by rw [n4, eT]; omega, n3⟩, ⟨a5, a6⟩, by omega⟩
theorem nth_at (f t num k v : Int) (w : World) (f1 : -9223372036854775808 ≤ f) (f2 : f ≤ 9223372036854775807) (t1 : -9223372036854775808 ≤ t) (t2 : t ≤ 9223372036854775807) (h1 : Hid (nthV f t num k = v)) (h2 : Hid (nthB f t num k = true)) :
    Calls Tryd.prog 11 #[.int .i64 f, .int .i64 t, .int .i64 num, .int .i64 k] w fun e w' => e = .returned (.tuple #[.int .i64 v, .bool true]) ∧ w = w' :=
  (nth_any f t num k w f1 f2 t1 t2).mono fun _ _ ⟨he, hw⟩ => ⟨by rw [he, h1.out, h2.out], hw⟩

set_option maxRecDepth 100000 in
set_option maxHeartbeats 3200000 in
theorem same_any (year month k : Int) (w : World) (hA : Ahead w) :
    Calls Tryd.prog 5 #[.int .i64 year, .int .i64 month, .int .i64 k] w fun e w' => e = .returned (.bool true) ∧ Below w.heap.size w w' := by
  have HA := Lib.hid hA
  clear hA
  have y0 : 0 ≤ (IntKind.u64.wrap year).tmod 9999 := Int.tmod_nonneg _ (u64_nn year)
  have y1 : (IntKind.u64.wrap year).tmod 9999 < 9999 := Int.tmod_lt_of_pos _ (by omega)
  have m0 : 0 ≤ (IntKind.u64.wrap month).tmod 12 := Int.tmod_nonneg _ (u64_nn month)
  have m1 : (IntKind.u64.wrap month).tmod 12 < 12 := Int.tmod_lt_of_pos _ (by omega)
  have k0 : 0 ≤ (IntKind.u64.wrap k).tmod 7 := Int.tmod_nonneg _ (u64_nn k)
  have k1 : (IntKind.u64.wrap k).tmod 7 < 7 := Int.tmod_lt_of_pos _ (by omega)
  go_enter Tryd.func5, Tryd.ntmps5
  go_wp2_with fail
  generalize (IntKind.u64.wrap year).tmod 9999 = yy at *
  generalize (IntKind.u64.wrap month).tmod 12 = mm at *
  generalize (IntKind.u64.wrap k).tmod 7 = K at *
  obtain ⟨Y, hY⟩ : ∃ Y, 1 + yy = Y := ⟨_, rfl⟩
  obtain ⟨M, hM⟩ : ∃ M, 1 + mm = M := ⟨_, rfl⟩
  have Y1 : 1 ≤ Y ∧ Y ≤ 9999 := by omega
  have M1 : 1 ≤ M ∧ M ≤ 12 := by omega
  rw [hY, hM]
  clear hY hM y0 y1 m0 m1
  obtain ⟨y1, y9⟩ := Y1
  obtain ⟨m1, m2⟩ := M1
  obtain ⟨F, a, d, ⟨g1, g2⟩, ⟨g3, g4⟩, ⟨g5, g6⟩, ⟨g7, g8⟩, ⟨g9, g10⟩, hd, ⟨g11, g12⟩, ⟨g13, g14⟩, ⟨f1, f2⟩, ⟨a1, a2⟩⟩ := same_facts Y M K y1 y9 m1 m2 k0 (by omega)
  have ml := Cal.mlen_28 (y := Y) m1 m2
  have mh := (Cal.mlen_bd Y M).2
  obtain ⟨L, hL⟩ : ∃ L, Cal.mlen Y M = L := ⟨_, rfl⟩
  rw [hL] at g11 g12 g13 g14 ml mh
  have GL := Lib.hid hL
  have G1 := Lib.hid g1
  have G2 := Lib.hid g2
  have G3 := Lib.hid g3
  have G4 := Lib.hid g4
  have G5 := Lib.hid g5
  have G6 := Lib.hid g6
  have G7 := Lib.hid g7
  have G8 := Lib.hid g8
  have G9 := Lib.hid g9
  have G10 := Lib.hid g10
  have G11 := Lib.hid g11
  have G12 := Lib.hid g12
  have G13 := Lib.hid g13
  have G14 := Lib.hid g14
  clear g1 g2 g3 g4 g5 g6 g7 g8 g9 g10 g11 g12 g13 g14 hL
  refine (resolve_any _ _ _ _ _ _ HA.out).mono ?_
  rintro e w1 ⟨rfl, hb1⟩
  rw [G3.out, G4.out]
  have HA1 := Lib.hid (HA.out.stays hb1)
  go_wp2_with fail
  refine (resolve_any _ _ _ _ _ _ HA1.out).mono ?_
  rintro e w2 ⟨rfl, hb2⟩
  rw [G5.out, G6.out]
  have hb2 := hb1.trans (hb2.mono hb1.size)
  have HA2 := Lib.hid (HA.out.stays hb2)
  go_wp2_with fail
  refine (resolve_any _ _ _ _ _ _ HA2.out).mono ?_
  rintro e w3 ⟨rfl, hb3⟩
  rw [G7.out, G8.out]
  have hb3 := hb2.trans (hb3.mono hb2.size)
  have HA3 := Lib.hid (HA.out.stays hb3)
  go_wp2_with fail
  refine (resolve_any _ _ _ _ _ _ HA3.out).mono ?_
  rintro e w4 ⟨rfl, hb4⟩
  rw [G9.out, G10.out]
  have hb4 := hb3.trans (hb4.mono hb3.size)
  have HA4 := Lib.hid (HA.out.stays hb4)
  clear hb1 hb2 hb3
  rcases hd with rfl | rfl
  all_goals
    go_wp2_with fail
    refine (number_at _ _ _ _ _ _ HA4.out (by omega) (by omega) G1 G2).mono ?_
    rintro e w5 ⟨rfl, q1, rfl⟩
    go_wp2_with fail
    refine (len_any _ _ _).mono ?_
    rintro e w5 ⟨rfl, rfl⟩
    rw [GL.out]
    go_wp2_with fail
    refine (nth_at _ _ _ _ _ _ (by omega) (by omega) (by omega) (by omega) G11 G12).mono ?_
    rintro e w5 ⟨rfl, rfl⟩
    go_wp2_with fail
    refine (nth_at _ _ _ _ _ _ (by omega) (by omega) (by omega) (by omega) G13 G14).mono ?_
    rintro e w5 ⟨rfl, rfl⟩
    go_wp2_with fail
    refine (wakes3_any _ (HA4.out.stays (by repeat (first | exact Below.refl _ _ | refine Below.setCell ?_ (by simp) _ | refine below_drewN ?_ _ | refine Below.drew ?_ | refine Below.alloc ?_ (by simp; try omega) _)))).mono ?_
    rintro e w5 ⟨rfl, hb5⟩
    go_wp2
    go_ret
    exact ⟨rfl, below_chain hb4 (by repeat (first | exact Below.refl _ _ | refine Below.setCell ?_ (by simp) _ | refine below_drewN ?_ _ | refine Below.drew ?_ | refine Below.alloc ?_ (by simp; try omega) _)) hb5⟩
end Wk
end Go.Proofs.YtopclopmgnkoeabDoor
