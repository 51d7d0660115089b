/-
  CivilMonths: the law answers true at every two integers, in whatever world that holds the table of the months.
-/
import Derived.Test.YtopclopmgnkoeaaDoorLaw2
namespace Go.Proofs.YtopclopmgnkoeaaDoor
open Go.RowKit
namespace Civ
theorem num1 (y m : Int) (h0 : 0 ≤ y) (h1 : y ≤ 10000) (m1 : 1 ≤ m) (m2 : m ≤ 12) : numE y m 1 = 0 ∧ numV y m 1 = Cal.ny y + Cal.cum y m := by
  have l := Cal.mlen_28 (y := y) m1 m2
  have k := numE_yes (y := y) (m := m) (d := 1) (by omega)
  exact ⟨k.1, k.2.trans (by unfold Cal.num; omega)⟩
theorem mlen_2 (y : Int) : Cal.mlen y 2 = 28 + Cal.lp y := by rw [Cal.mlen, if_pos rfl]

theorem mon_facts (Y M : Int) (h0 : 0 ≤ Y) (h1 : Y ≤ 10000) (m1 : 1 ≤ M) (m2 : M ≤ 11) :
    numE Y M 1 = 0 ∧ numE Y (M + 1) 1 = 0 ∧ numV Y (M + 1) 1 - numV Y M 1 = Cal.mlen Y M ∧ (-719528 ≤ numV Y M 1 ∧ numV Y M 1 ≤ 3000000) ∧ (28 ≤ Cal.mlen Y M ∧ Cal.mlen Y M ≤ 31) := by
  obtain ⟨a1, a2⟩ := num1 Y M h0 h1 m1 (by omega)
  obtain ⟨b1, b2⟩ := num1 Y (M + 1) h0 h1 (by omega) (by omega)
  have c := Cal.cum_succ (y := Y) m1 m2
  obtain ⟨n1, n2⟩ := Cal.ny_bd (y := Y) h0 (by omega)
  obtain ⟨p1, p2⟩ := Cal.cum_bd (y := Y) m1 (by omega)
  have l := Cal.lp_01 Y
  have l28 := Cal.mlen_28 (y := Y) m1 (by omega)
  have l31 := Cal.mlen_bd Y M
  exact ⟨a1, b1, by omega, by omega, by omega⟩

set_option maxRecDepth 100000 in
set_option maxHeartbeats 1600000 in
theorem months_any (y m : Int) (w : World) (hA : Ahead w) :
    Calls Tryd.prog 12 #[.int .i64 y, .int .i64 m] w fun e w' => e = .returned (.bool true) ∧ Below w.heap.size w w' := by
  have HA := Lib.hid hA
  clear hA
  go_enter Tryd.func12, Tryd.ntmps12
  go_wp2_with fail
  refine (some_any _ _ _ _).mono ?_
  rintro e w1 ⟨rfl, hb1⟩
  obtain ⟨⟨y0, y1⟩, ⟨m0, m1⟩, _⟩ := some_bd y m 0
  have HA1 := Lib.hid (HA.out.stays hb1)
  generalize someD y m 0 = D at *
  generalize someY y = Y at *
  generalize someM m = M at *
  have l2 := mlen_2 Y
  obtain ⟨F, hF⟩ : ∃ F, Cal.mlen Y 2 = F := ⟨_, rfl⟩
  have HF := Lib.hid hF
  have hl : (Cal.long Y = true ∧ F = 29) ∨ (Cal.long Y = false ∧ F = 28) := by
    cases h : Cal.long Y with
    | true => exact Or.inl ⟨rfl, by rw [← hF, l2, lp_yes h]; rfl⟩
    | false => exact Or.inr ⟨rfl, by rw [← hF, l2, lp_no h]; rfl⟩
  clear hF l2
  have hM : M = 12 ∨ (1 ≤ M ∧ M ≤ 11) := by omega
  clear m0 m1
  rcases hM with rfl | ⟨m0, m1⟩
  · obtain ⟨f1, f2, f3, ⟨f4, f5⟩, f6, f7⟩ := mon_facts Y 11 y0 y1 (by omega) (by omega)
    rw [show (11 : Int) + 1 = 12 from rfl] at f2 f3
    obtain ⟨A, hA⟩ : ∃ A, numV Y 11 1 = A := ⟨_, rfl⟩
    obtain ⟨B, hB⟩ : ∃ A, numV Y 12 1 = A := ⟨_, rfl⟩
    obtain ⟨L, hL⟩ : ∃ A, Cal.mlen Y 11 = A := ⟨_, rfl⟩
    rw [hA] at f3 f4 f5
    rw [hB, hL] at f3
    rw [hL] at f6 f7
    have f8 : B - A ≤ L := by omega
    have f9 : L ≤ B - A := by omega
    have G1 := Lib.hid f1
    have G2 := Lib.hid f2
    have GA := Lib.hid hA
    have GB := Lib.hid hB
    have GL := Lib.hid hL
    clear f1 f2 f3 hA hB hL
    go_wp2_with fail
    refine (number_w _ _ _ _ (Ahead.alloc HA1.out _) (by omega) (by omega)).mono ?_
    rintro e w2 ⟨rfl, n1, rfl⟩
    rw [G1.out, GA.out]
    go_wp2_with fail
    refine (number_w _ _ _ _ (Ahead.drewN (Ahead.alloc (Ahead.alloc HA1.out _) _) _) (by omega) (by omega)).mono ?_
    rintro e w2 ⟨rfl, n2, rfl⟩
    rw [G2.out, GB.out]
    go_wp2_with fail
    refine (len_any _ _ _).mono ?_
    rintro e w2 ⟨rfl, rfl⟩
    rw [GL.out]
    go_wp2_with fail
    refine (len_any _ _ _).mono ?_
    rintro e w2 ⟨rfl, rfl⟩
    rw [HF.out]
    rcases hl with ⟨hl, rfl⟩ | ⟨hl, rfl⟩
    all_goals
      have HL := Lib.hid hl
      clear hl
      go_wp2_with fail
      refine (long_any _ _).mono ?_
      rintro e w2 ⟨rfl, rfl⟩
      rw [HL.out]
      go_wp2_with fail
      refine (wakes2_any _ (HA1.out.stays (by repeat (first | exact Below.refl _ _ | refine Below.setCell ?_ (by simp) _ | refine below_drewN ?_ _ | refine Below.drew ?_ | refine Below.alloc ?_ (by simp; try omega) _)))).mono ?_
      rintro e w2 ⟨rfl, hb2⟩
      go_wp2
      go_ret
      exact ⟨rfl, below_chain hb1 (by repeat (first | exact Below.refl _ _ | refine Below.setCell ?_ (by simp) _ | refine below_drewN ?_ _ | refine Below.drew ?_ | refine Below.alloc ?_ (by simp; try omega) _)) hb2⟩
  · obtain ⟨f1, f2, f3, ⟨f4, f5⟩, f6, f7⟩ := mon_facts Y M y0 y1 m0 m1
    obtain ⟨A, hA⟩ : ∃ A, numV Y M 1 = A := ⟨_, rfl⟩
    obtain ⟨B, hB⟩ : ∃ A, numV Y (M + 1) 1 = A := ⟨_, rfl⟩
    obtain ⟨L, hL⟩ : ∃ A, Cal.mlen Y M = A := ⟨_, rfl⟩
    rw [hA] at f3 f4 f5
    rw [hB, hL] at f3
    rw [hL] at f6 f7
    have f8 : B - A ≤ L := by omega
    have f9 : L ≤ B - A := by omega
    have G1 := Lib.hid f1
    have G2 := Lib.hid f2
    have GA := Lib.hid hA
    have GB := Lib.hid hB
    have GL := Lib.hid hL
    clear f1 f2 f3 hA hB hL
    go_wp2_with fail
    refine (number_w _ _ _ _ (Ahead.alloc HA1.out _) (by omega) (by omega)).mono ?_
    rintro e w2 ⟨rfl, n1, rfl⟩
    rw [G1.out, GA.out]
    go_wp2_with fail
    refine (number_w _ _ _ _ (Ahead.drewN (Ahead.alloc (Ahead.alloc HA1.out _) _) _) (by omega) (by omega)).mono ?_
    rintro e w2 ⟨rfl, n2, rfl⟩
    rw [G2.out, GB.out]
    go_wp2_with fail
    refine (len_any _ _ _).mono ?_
    rintro e w2 ⟨rfl, rfl⟩
    rw [GL.out]
    go_wp2_with fail
    refine (len_any _ _ _).mono ?_
    rintro e w2 ⟨rfl, rfl⟩
    rw [HF.out]
    rcases hl with ⟨hl, rfl⟩ | ⟨hl, rfl⟩
    all_goals
      have HL := Lib.hid hl
      clear hl
      go_wp2_with fail
      refine (long_any _ _).mono ?_
      rintro e w2 ⟨rfl, rfl⟩
      rw [HL.out]
      go_wp2_with fail
      refine (wakes2_any _ (HA1.out.stays (by repeat (first | exact Below.refl _ _ | refine Below.setCell ?_ (by simp) _ | refine below_drewN ?_ _ | refine Below.drew ?_ | refine Below.alloc ?_ (by simp; try omega) _)))).mono ?_
      rintro e w2 ⟨rfl, hb2⟩
      go_wp2
      go_ret
      exact ⟨rfl, below_chain hb1 (by repeat (first | exact Below.refl _ _ | refine Below.setCell ?_ (by simp) _ | refine below_drewN ?_ _ | refine Below.drew ?_ | refine Below.alloc ?_ (by simp; try omega) _)) hb2⟩
end Civ
end Go.Proofs.YtopclopmgnkoeaaDoor
