/-
  WeekForms: the law answers true at every four integers, in whatever world that holds the table of the months.
-/
import Derived.Test.YtopclopmgnkoeaaDoorLaw3
namespace Go.Proofs.YtopclopmgnkoeaaDoor
open Go.RowKit
namespace Wk
open Civ
theorem wday_since {k n : Int} (h : 0 ≤ k ∧ k ≤ 6) : Cal.wday (n - since k n) = k := by unfold since Cal.wday; omega
theorem wday_until {k n : Int} (h : 0 ≤ k ∧ k ≤ 6) : Cal.wday (n + untl n k) = k := by unfold untl Cal.wday; omega
theorem forms_facts (Y M K D : Int) (y1 : 1 ≤ Y) (y9 : Y ≤ 9999) (m1 : 1 ≤ M) (m2 : M ≤ 12) (k0 : 0 ≤ K) (k6 : K ≤ 6) (d1 : 1 ≤ D) (d2 : D ≤ Cal.mlen Y M) :
    ∃ at' en a b c : Int, (numV Y M D = at' ∧ numE Y M D = 0) ∧ (numV Y M (Cal.mlen Y M) = en ∧ numE Y M (Cal.mlen Y M) = 0) ∧
      (resV Y M 3 K D = a ∧ resE Y M 3 K D = 0) ∧ (resV Y M 4 K D = b ∧ resE Y M 4 K D = 0) ∧ (resV Y M 2 K 0 = c ∧ resE Y M 2 K 0 = 0) ∧ (resV Y M 1 0 D = at' ∧ resE Y M 1 0 D = 0) ∧
      (at' ≤ a ∧ a < at' + 7) ∧ (b ≤ at' ∧ at' - 7 < b) ∧ (c ≤ en ∧ en - 7 < c) ∧ Cal.wday a = K ∧ Cal.wday b = K ∧ Cal.wday c = K ∧ (D < Cal.mlen Y M ∨ b = c) ∧ (-719528 ≤ at' ∧ at' ≤ 2933262) ∧ (-719528 ≤ en ∧ en ≤ 2933262) := by
  obtain ⟨a1, a2, _, _, a5, a6⟩ := num_bd (Y := Y) (by omega) (by omega) m1 m2 d1 d2
  have ml := Cal.mlen_28 (y := Y) m1 m2
  have mh := Cal.mlen_bd Y M
  obtain ⟨b1, b2, _, _, b5, b6⟩ := num_bd (Y := Y) (by omega) (by omega) m1 m2 (D := Cal.mlen Y M) (by omega) (Int.le_refl _)
  obtain ⟨p1, p2⟩ := res_0 (y := Y) (m := M) (k := 3) (v := K) (d := D) (onOk_mk (by omega)) ⟨y1, y9⟩ (by rw [rday, if_neg (by decide)]; exact a1)
  obtain ⟨q1, q2⟩ := res_0 (y := Y) (m := M) (k := 4) (v := K) (d := D) (onOk_mk (by omega)) ⟨y1, y9⟩ (by rw [rday, if_neg (by decide)]; exact a1)
  obtain ⟨r1, r2⟩ := res_0 (y := Y) (m := M) (k := 2) (v := K) (d := 0) (onOk_mk (by omega)) ⟨y1, y9⟩ (by rw [rday, if_pos rfl]; exact b1)
  obtain ⟨s1, s2⟩ := res_0 (y := Y) (m := M) (k := 1) (v := 0) (d := D) (onOk_mk (by omega)) ⟨y1, y9⟩ (by rw [rday, if_neg (by decide)]; exact a1)
  rw [if_neg (by decide), if_pos rfl, rday, if_neg (by decide)] at p2
  rw [if_pos (by decide), rday, if_neg (by decide)] at q2
  rw [if_pos (by decide), rday, if_pos rfl] at r2
  rw [if_neg (by decide), if_neg (by decide), rday, if_neg (by decide)] at s2
  have u := untl_bd (Cal.num Y M D) K
  have s := since_bd K (Cal.num Y M D)
  have z := since_bd K (Cal.num Y M (Cal.mlen Y M))
  refine ⟨Cal.num Y M D, Cal.num Y M (Cal.mlen Y M), _, _, _, ⟨a2, a1⟩, ⟨b2, b1⟩, ⟨p2, p1⟩, ⟨q2, q1⟩, ⟨r2, r1⟩, ⟨s2, s1⟩, by omega, by omega, by omega, wday_until ⟨k0, k6⟩, wday_since ⟨k0, k6⟩, wday_since ⟨k0, k6⟩, ?_, ⟨a5, a6⟩, ⟨b5, b6⟩⟩
  by_cases h : D < Cal.mlen Y M
  · exact Or.inl h
  · obtain rfl : D = Cal.mlen Y M := by omega
    exact Or.inr rfl
theorem weekday_is (n v : Int) (w : World) (h : Hid (Cal.wday n = v)) :
    Calls Tryd.prog 35 #[.int .i64 n] w fun e w' => e = .returned (.int .i64 v) ∧ w = w' :=
  (weekday_any n w).mono fun _ _ ⟨he, hw⟩ => ⟨by rw [he, h.out], hw⟩

set_option maxRecDepth 100000 in
set_option maxHeartbeats 3200000 in
theorem forms_any (year month k d : Int) (w : World) (hA : Ahead w) :
    Calls Tryd.prog 14 #[.int .i64 year, .int .i64 month, .int .i64 k, .int .i64 d] w fun e w' => e = .returned (.bool true) ∧ Below w.heap.size w w' := by
  have HA := Lib.hid hA
  clear hA
  have y0 : 0 ≤ (IntKind.u64.wrap year).tmod 9999 := Int.tmod_nonneg _ (u64_nn year)
  have y1 : (IntKind.u64.wrap year).tmod 9999 < 9999 := Int.tmod_lt_of_pos _ (by omega)
  have m0 : 0 ≤ (IntKind.u64.wrap month).tmod 12 := Int.tmod_nonneg _ (u64_nn month)
  have m1 : (IntKind.u64.wrap month).tmod 12 < 12 := Int.tmod_lt_of_pos _ (by omega)
  have k0 : 0 ≤ (IntKind.u64.wrap k).tmod 7 := Int.tmod_nonneg _ (u64_nn k)
  have k1 : (IntKind.u64.wrap k).tmod 7 < 7 := Int.tmod_lt_of_pos _ (by omega)
  go_enter Tryd.func14, Tryd.ntmps14
  go_wp2_with fail
  generalize (IntKind.u64.wrap year).tmod 9999 = yy at *
  generalize (IntKind.u64.wrap month).tmod 12 = mm at *
  generalize (IntKind.u64.wrap k).tmod 7 = K at *
  obtain ⟨Y, hY⟩ : ∃ Y, 1 + yy = Y := ⟨_, rfl⟩
  obtain ⟨M, hM⟩ : ∃ M, 1 + mm = M := ⟨_, rfl⟩
  have Y1 : 1 ≤ Y ∧ Y ≤ 9999 := by omega
  have M1 : 1 ≤ M ∧ M ≤ 12 := by omega
  rw [hY, hM]
  clear hY hM y0 y1 m0 m1
  obtain ⟨y1, y9⟩ := Y1
  obtain ⟨m1, m2⟩ := M1
  have ml := Cal.mlen_28 (y := Y) m1 m2
  have mh := (Cal.mlen_bd Y M).2
  have HFF := Lib.hid (fun D h1 h2 => forms_facts Y M K D y1 y9 m1 m2 k0 (by omega) h1 h2)
  refine (len_any _ _ _).mono ?_
  rintro e w1 ⟨rfl, rfl⟩
  generalize Cal.mlen Y M = L at *
  have u0 := u64_nn d
  have d0 : 0 ≤ (IntKind.u64.wrap d).tmod L := Int.tmod_nonneg _ (u64_nn d)
  have d1 : (IntKind.u64.wrap d).tmod L < L := Int.tmod_lt_of_pos _ (by omega)
  rw [Int.tmod_eq_emod_of_nonneg u0] at d0 d1
  go_wp2_with fail
  generalize (IntKind.u64.wrap d) % L = dd at *
  obtain ⟨D, hD⟩ : ∃ D, 1 + dd = D := ⟨_, rfl⟩
  have D1 : 1 ≤ D ∧ D ≤ L := by omega
  rw [hD]
  clear hD d0 d1 u0
  obtain ⟨d1, d2⟩ := D1
  obtain ⟨t, n, a, b, c, ⟨g1, g2⟩, ⟨g3, g4⟩, ⟨g5, g6⟩, ⟨g7, g8⟩, ⟨g9, g10⟩, ⟨g11, g12⟩, ⟨h1, h2⟩, ⟨h3, h4⟩, ⟨h5, h6⟩, e1, e2, e3, e4, ⟨t1, t2⟩, ⟨n1, n2⟩⟩ := HFF.out D d1 d2
  have G1 := Lib.hid g1
  have G2 := Lib.hid g2
  have G3 := Lib.hid g3
  have G4 := Lib.hid g4
  have G5 := Lib.hid g5
  have G6 := Lib.hid g6
  have G7 := Lib.hid g7
  have G8 := Lib.hid g8
  have G9 := Lib.hid g9
  have G10 := Lib.hid g10
  have G11 := Lib.hid g11
  have G12 := Lib.hid g12
  have E1 := Lib.hid e1
  have E2 := Lib.hid e2
  have E3 := Lib.hid e3
  clear g1 g2 g3 g4 g5 g6 g7 g8 g9 g10 g11 g12 e1 e2 e3 HFF
  refine (number_at _ _ _ _ _ _ HA.out (by omega) (by omega) G1 G2).mono ?_
  rintro e w1 ⟨rfl, q1, rfl⟩
  go_wp2_with fail
  refine (number_at _ _ _ _ _ _ (HA.out.stays (by repeat (first | exact Below.refl _ _ | refine Below.setCell ?_ (by simp) _ | refine below_drewN ?_ _ | refine Below.drew ?_ | refine Below.alloc ?_ (by simp; try omega) _))) (by omega) (by omega) G3 G4).mono ?_
  rintro e w1 ⟨rfl, q2, rfl⟩
  go_wp2_with fail
  refine (resolve_any _ _ _ _ _ _ (HA.out.stays (by repeat (first | exact Below.refl _ _ | refine Below.setCell ?_ (by simp) _ | refine below_drewN ?_ _ | refine Below.drew ?_ | refine Below.alloc ?_ (by simp; try omega) _)))).mono ?_
  rintro e w1 ⟨rfl, hb1⟩
  rw [G5.out, G6.out]
  have hb1 : Below w.heap.size w w1 := Below.trans (by repeat (first | exact Below.refl _ _ | refine Below.setCell ?_ (by simp) _ | refine below_drewN ?_ _ | refine Below.drew ?_ | refine Below.alloc ?_ (by simp; try omega) _)) (hb1.mono (by simp; try omega))
  have HA1 := Lib.hid (HA.out.stays hb1)
  go_wp2_with fail
  refine (resolve_any _ _ _ _ _ _ HA1.out).mono ?_
  rintro e w2 ⟨rfl, hb2⟩
  rw [G7.out, G8.out]
  have hb2 := hb1.trans (hb2.mono hb1.size)
  have HA2 := Lib.hid (HA.out.stays hb2)
  go_wp2_with fail
  refine (resolve_any _ _ _ _ _ _ HA2.out).mono ?_
  rintro e w3 ⟨rfl, hb3⟩
  rw [G9.out, G10.out]
  have hb3 := hb2.trans (hb3.mono hb2.size)
  have HA3 := Lib.hid (HA.out.stays hb3)
  go_wp2_with fail
  refine (resolve_any _ _ _ _ _ _ HA3.out).mono ?_
  rintro e w4 ⟨rfl, hb4⟩
  rw [G11.out, G12.out]
  have hb4 := hb3.trans (hb4.mono hb3.size)
  have HA4 := Lib.hid (HA.out.stays hb4)
  clear hb1 hb2 hb3
  go_wp2_with fail
  refine (weekday_is _ _ _ E1).mono ?_
  rintro e w5 ⟨rfl, rfl⟩
  go_wp2_with fail
  refine (weekday_is _ _ _ E2).mono ?_
  rintro e w5 ⟨rfl, rfl⟩
  go_wp2_with fail
  refine (weekday_is _ _ _ E3).mono ?_
  rintro e w5 ⟨rfl, rfl⟩
  by_cases hdl : D < L
  · clear e4
    go_wp2_with fail
    refine (wakes3_any _ HA4.out).mono ?_
    rintro e w5 ⟨rfl, hb5⟩
    go_wp2
    go_ret
    exact ⟨rfl, hb4.trans (hb5.mono hb4.size)⟩
  · obtain rfl : b = c := e4.resolve_left hdl
    go_wp2_with fail
    refine (wakes3_any _ HA4.out).mono ?_
    rintro e w5 ⟨rfl, hb5⟩
    go_wp2
    go_ret
    exact ⟨rfl, hb4.trans (hb5.mono hb4.size)⟩
end Wk
end Go.Proofs.YtopclopmgnkoeaaDoor
