/-
  CivilDays: the law answers true at every three integers, in whatever world that holds the table of the months.
-/
import Derived.Test.YtopclopmgnkoeaaDoorLaw2
namespace Go.Proofs.YtopclopmgnkoeaaDoor
open Go.RowKit
namespace Civ
theorem num_bd {Y M D : Int} (h0 : 0 ≤ Y) (h1 : Y ≤ 10000) (m1 : 1 ≤ M) (m2 : M ≤ 12) (d1 : 1 ≤ D) (d2 : D ≤ Cal.mlen Y M) :
    numE Y M D = 0 ∧ numV Y M D = Cal.num Y M D ∧ Cal.ny Y ≤ Cal.num Y M D ∧ Cal.num Y M D < Cal.ny (Y + 1) ∧ -719528 ≤ Cal.num Y M D ∧ Cal.num Y M D ≤ 2933262 := by
  obtain ⟨k1, k2⟩ := numE_yes (y := Y) (m := M) (d := D) ⟨h0, h1, d1, d2⟩
  obtain ⟨n1, n2⟩ := Cal.ny_bd (y := Y) h0 (by omega)
  obtain ⟨n3, n4⟩ := Cal.ny_bd (y := Y + 1) (by omega) (by omega)
  obtain ⟨p1, p2⟩ := Cal.cum_bd (y := Y) m1 m2
  have s := Cal.ny_succ Y
  refine ⟨k1, k2, ?_, ?_, ?_, ?_⟩ <;> unfold Cal.num <;> omega
theorem yd_of {Y n : Int} (h1 : Cal.ny Y ≤ n) (h2 : n < Cal.ny (Y + 1)) (h3 : -719528 ≤ n) (h4 : n ≤ 2933262) : dnE n = 0 ∧ ydV n = n - Cal.ny Y + 1 := by
  obtain ⟨a, b⟩ := dn_yes (n := n) ⟨h3, h4⟩
  exact ⟨a, by rw [b, Cal.yr_of h1 h2 h3 h4]⟩
theorem days_facts (Y M D : Int) (h0 : 0 ≤ Y) (h1 : Y ≤ 10000) (m1 : 1 ≤ M) (m2 : M ≤ 12) (d1 : 1 ≤ D) (d2 : D ≤ Cal.mlen Y M) :
    ∃ n z f l k : Int, (numV Y M D = n ∧ numE Y M D = 0) ∧ (ydV n = z ∧ dnE n = 0) ∧ (numV Y 1 1 = f ∧ numE Y 1 1 = 0) ∧ (numV Y 12 31 = l ∧ numE Y 12 31 = 0) ∧ (ydV l = k ∧ dnE l = 0) ∧
      z = n - f + 1 ∧ k = l - f + 1 ∧ (-719528 ≤ n ∧ n ≤ 2933262) ∧ (-719528 ≤ f ∧ f ≤ 2933262) ∧ (-719528 ≤ l ∧ l ≤ 2933262) ∧ k = 365 + Cal.lp Y := by
  obtain ⟨a1, a2, a3, a4, a5, a6⟩ := num_bd h0 h1 m1 m2 d1 d2
  obtain ⟨b1, b2, b3, b4, b5, b6⟩ := num_bd h0 h1 (M := 1) (D := 1) (by decide) (by decide) (by decide) (by have := Cal.mlen_28 (y := Y) (m := 1) (by decide) (by decide); omega)
  have e12 : Cal.mlen Y 12 = 31 := rfl
  obtain ⟨c1, c2, c3, c4, c5, c6⟩ := num_bd h0 h1 (M := 12) (D := 31) (by decide) (by decide) (by decide) (by rw [e12]; omega)
  obtain ⟨y1, y2⟩ := yd_of a3 a4 a5 a6
  obtain ⟨z1, z2⟩ := yd_of c3 c4 c5 c6
  have s := Cal.ny_succ Y
  have t12 := Cal.cum_12 Y
  have q1 : Cal.num Y 1 1 = Cal.ny Y := by unfold Cal.num; have := Cal.cum_1 Y; omega
  have q2 : Cal.num Y 12 31 = Cal.ny Y + 364 + Cal.lp Y := by unfold Cal.num; omega
  exact ⟨_, _, _, _, _, ⟨a2, a1⟩, ⟨y2, y1⟩, ⟨b2, b1⟩, ⟨c2, c1⟩, ⟨z2, z1⟩, by omega, by omega, ⟨a5, a6⟩, ⟨b5, b6⟩, ⟨c5, c6⟩, by omega⟩

set_option maxRecDepth 100000 in
set_option maxHeartbeats 1600000 in
theorem days_any (y m d : Int) (w : World) (hA : Ahead w) :
    Calls Tryd.prog 10 #[.int .i64 y, .int .i64 m, .int .i64 d] w fun e w' => e = .returned (.bool true) ∧ Below w.heap.size w w' := by
  have HA := Lib.hid hA
  clear hA
  go_enter Tryd.func10, Tryd.ntmps10
  go_wp2_with fail
  refine (some_any _ _ _ _).mono ?_
  rintro e w1 ⟨rfl, hb1⟩
  obtain ⟨⟨y0, y1⟩, ⟨m0, m1⟩, d0, d1⟩ := some_bd y m d
  have HA1 := Lib.hid (HA.out.stays hb1)
  obtain ⟨n, z, f, l, k, ⟨g1, g2⟩, ⟨g3, g4⟩, ⟨g5, g6⟩, ⟨g7, g8⟩, ⟨g9, g10⟩, z0, k0, ⟨n0, n1⟩, ⟨f0, f1⟩, ⟨l0, l1⟩, kk⟩ := days_facts _ _ _ y0 y1 m0 m1 d0 d1
  have dm := (Cal.mlen_bd (someY y) (someM m)).2
  have G1 := Lib.hid g1
  have G2 := Lib.hid g2
  have G3 := Lib.hid g3
  have G4 := Lib.hid g4
  have G5 := Lib.hid g5
  have G6 := Lib.hid g6
  have G7 := Lib.hid g7
  have G8 := Lib.hid g8
  have G9 := Lib.hid g9
  have G10 := Lib.hid g10
  clear g1 g2 g3 g4 g5 g6 g7 g8 g9 g10
  generalize someD y m d = D at *
  generalize someY y = Y at *
  generalize someM m = M at *
  have hl : (Cal.long Y = true ∧ k = 366) ∨ (Cal.long Y = false ∧ k = 365) := by
    cases h : Cal.long Y with
    | true => exact Or.inl ⟨rfl, by rw [kk, lp_yes h]; rfl⟩
    | false => exact Or.inr ⟨rfl, by rw [kk, lp_no h]; rfl⟩
  have z1 : z ≤ n - f + 1 := by omega
  have z2 : n - f + 1 ≤ z := by omega
  have k1 : k ≤ l - f + 1 := by omega
  have k2 : l - f + 1 ≤ k := by omega
  clear kk z0 k0
  go_wp2_with fail
  refine (number_w _ _ _ _ (Ahead.alloc HA1.out _) (by omega) (by omega)).mono ?_
  rintro e w2 ⟨rfl, q1, rfl⟩
  rw [G1.out, G2.out]
  go_wp2_with fail
  refine (yearDay_any _ _).mono ?_
  rintro e w2 ⟨rfl, rfl⟩
  rw [G3.out, G4.out]
  go_wp2_with fail
  refine (number_w _ _ _ _ (Ahead.drewN (Ahead.alloc (Ahead.alloc HA1.out _) _) _) (by omega) (by omega)).mono ?_
  rintro e w2 ⟨rfl, q2, rfl⟩
  rw [G5.out, G6.out]
  go_wp2_with fail
  refine (number_w _ _ _ _ (Ahead.drewN (Ahead.alloc (Ahead.drewN (Ahead.alloc (Ahead.alloc HA1.out _) _) _) _) _) (by omega) (by omega)).mono ?_
  rintro e w2 ⟨rfl, q3, rfl⟩
  rw [G7.out, G8.out]
  go_wp2_with fail
  refine (yearDay_any _ _).mono ?_
  rintro e w2 ⟨rfl, rfl⟩
  rw [G9.out, G10.out]
  rcases hl with ⟨hl, rfl⟩ | ⟨hl, rfl⟩
  all_goals
    have HL := Lib.hid hl
    clear hl
    go_wp2_with fail
    refine (long_any _ _).mono ?_
    rintro e w2 ⟨rfl, rfl⟩
    rw [HL.out]
    go_wp2_with fail
    refine (wakes2_any _ (HA1.out.stays (by repeat (first | exact Below.refl _ _ | refine Below.setCell ?_ (by simp) _ | refine below_drewN ?_ _ | refine Below.drew ?_ | refine Below.alloc ?_ (by simp; try omega) _)))).mono ?_
    rintro e w2 ⟨rfl, hb2⟩
    go_wp2
    go_ret
    have fin := below_chain hb1 (by repeat (first | exact Below.refl _ _ | refine Below.setCell ?_ (by simp) _ | refine below_drewN ?_ _ | refine Below.drew ?_ | refine Below.alloc ?_ (by simp; try omega) _)) hb2
    first | exact ⟨rfl, fin⟩ | exact ⟨ret_b (by simp; omega), fin⟩
end Civ
end Go.Proofs.YtopclopmgnkoeaaDoor
