/-
  WeekNumbers: the law answers true at every four integers, in whatever world that holds the table of the months.
-/
import Derived.Test.YtopclopmgnkoeabDoorLaw3
namespace Go.Proofs.YtopclopmgnkoeabDoor
open Go.RowKit
namespace Wk
open Civ
theorem mid_mod {n k : Int} (_h : 0 ≤ k ∧ k ≤ 6) : Cal.wday (mid n k) = (k + 3) % 7 := by unfold mid since Cal.wday; omega
theorem mid_7 (n k : Int) : mid (n + 7) k = mid n k + 7 := by unfold mid since Cal.wday; omega
theorem mid_1 {n k : Int} (h : Cal.wday (n + 1) ≠ k) (hk : 0 ≤ k ∧ k ≤ 6) : mid (n + 1) k = mid n k := by
  have e : ∀ x, Cal.wday x = (x + 4) % 7 := fun _ => rfl
  simp only [mid, since, e] at h ⊢
  omega
theorem fw_mod {y k : Int} (hk : 0 ≤ k ∧ k ≤ 6) : Cal.wday (fw y k + 3) = (k + 3) % 7 := by
  have e : fw y k + 3 = mid (n4 y) k := by unfold fw mid; omega
  rw [e, mid_mod hk]
theorem fw_in (y k : Int) : Cal.ny y ≤ fw y k + 3 ∧ fw y k + 3 ≤ Cal.ny y + 6 := by
  have s := since_bd k (n4 y)
  have e : n4 y = Cal.ny y + 3 := by unfold n4 Cal.num; have := Cal.cum_1 y; omega
  unfold fw; omega
theorem w7 {x y : Int} (h : Cal.wday x = Cal.wday y) : (x - y) % 7 = 0 := by unfold Cal.wday at h; omega
theorem numbers_facts (Y M D K : Int) (y1 : 2 ≤ Y) (y9 : Y ≤ 9991) (m1 : 1 ≤ M) (m2 : M ≤ 12) (d1 : 1 ≤ D) (d2 : D ≤ 28) (k0 : 0 ≤ K) (k6 : K ≤ 6) :
    ∃ n a no b nx c sm wk f : Int, (numV Y M D = n ∧ numE Y M D = 0) ∧ (noY n K = a ∧ noN n K = no ∧ noE n K = 0) ∧ (noY (n + 7) K = b ∧ noN (n + 7) K = nx ∧ noE (n + 7) K = 0) ∧ (noY (n + 1) K = c ∧ noN (n + 1) K = sm ∧ noE (n + 1) K = 0) ∧
      (wkV a K = wk ∧ wkE a K = 0) ∧ (numV Y 1 4 = f ∧ numE Y 1 4 = 0) ∧ (noY f K = Y ∧ noN f K = 1 ∧ noE f K = 0) ∧ (52 ≤ wk ∧ wk ≤ 53) ∧ (1 ≤ no ∧ no ≤ wk) ∧ (Cal.wday (n + 1) = K ∨ (c = a ∧ sm = no)) ∧ ((no < wk ∧ b = a ∧ nx = no + 1) ∨ (¬ no < wk ∧ b = a + 1 ∧ nx = 1)) ∧ (-719528 ≤ n ∧ n ≤ 2933000) ∧ (1 ≤ a ∧ a ≤ 9992) := by
  have hk : 0 ≤ K ∧ K ≤ 6 := ⟨k0, k6⟩
  have ml := Cal.mlen_28 (y := Y) m1 m2
  obtain ⟨a1, a2, a3, a4, a5, a6⟩ := num_bd (Y := Y) (M := M) (D := D) (by omega) (by omega) m1 m2 d1 (by omega)
  obtain ⟨g1, g2, g3, g4⟩ := n4_ok (y := Y) (by omega) (by omega)
  generalize Cal.num Y M D = n at *
  have lo : Cal.ny 2 ≤ Cal.ny Y := by have := Cal.ny_mono (a := 2) (b := Y) y1; omega
  have hi : Cal.ny (Y + 1) ≤ Cal.ny 9992 := by have := Cal.ny_mono (a := Y + 1) (b := 9992) (by omega); omega
  have v2 : Cal.ny 2 = -718797 := rfl
  have v1 : Cal.ny 1 = -719162 := rfl
  have v9992 : Cal.ny 9992 = 2929975 := rfl
  have v10000 : Cal.ny 10000 = 2932897 := rfl
  have yin : ∀ x : Int, -719162 ≤ x → x < 2932897 → ((-719528 ≤ x ∧ x ≤ 2933262) ∧ 1 ≤ Cal.yr x ∧ Cal.yr x ≤ 9999) := fun x h1 h2 => by
    have p := Cal.yr_le (n := x) (y := 1) (by omega) (by omega) (by omega)
    have q := Cal.yr_lt (n := x) (y := 10000) (by omega) (by omega) (by omega)
    exact ⟨by omega, p, by omega⟩
  have sb := since_bd K n
  obtain ⟨A0, A1, A2⟩ := no_0 hk (yin n (by omega) (by omega))
  obtain ⟨B0, B1, B2⟩ := no_0 hk (yin (n + 7) (by omega) (by omega))
  obtain ⟨C0, C1, C2⟩ := no_0 hk (yin (n + 1) (by omega) (by omega))
  have e4 : n4 Y = Cal.ny Y + 3 := by unfold n4 Cal.num; have := Cal.cum_1 Y; omega
  have nsY := Cal.ny_succ Y
  have lY := Cal.lp_01 Y
  obtain ⟨F0, F1, F2⟩ := no_0 hk (yin (n4 Y) (by omega) (by omega))
  have hM : mid n K = n - since K n + 3 := rfl
  obtain ⟨x, hx⟩ : ∃ x, mid n K = x := ⟨_, rfl⟩
  have xm := mid_mod (n := n) hk
  rw [hx] at hM A1 A2 xm
  rw [mid_7, hx] at B1 B2
  obtain ⟨z1, z2, z3, z4⟩ := Cal.yr_spec (n := x) (by omega) (by omega)
  obtain ⟨a, ha⟩ : ∃ a, Cal.yr x = a := ⟨_, rfl⟩
  rw [ha] at z1 z2 z3 z4 A1 A2
  have a_lo : 1 ≤ a := by
    rcases Int.lt_or_le a 1 with h | h
    · have := Cal.ny_mono (a := a + 1) (b := 1) (by omega); omega
    · exact h
  have a_hi : a ≤ 9992 := by
    rcases Int.lt_or_le 9992 a with h | h
    · have := Cal.ny_mono (a := 9993) (b := a) (by omega); have : Cal.ny 9993 = 2930341 := rfl; omega
    · exact h
  obtain ⟨f1, f2⟩ := fw_in a K
  obtain ⟨f3, f4⟩ := fw_in (a + 1) K
  have ns := Cal.ny_succ a
  have ns2 := Cal.ny_succ (a + 1)
  have l1 := Cal.lp_01 a
  have l2 := Cal.lp_01 (a + 1)
  have m0 := w7 (xm.trans (fw_mod (y := a) hk).symm)
  have m3 := w7 ((fw_mod (y := a + 1) hk).trans (fw_mod (y := a) hk).symm)
  have W1 : wkV a K = (fw (a + 1) K - fw a K) / 7 := by rw [wkV, if_pos ⟨hk, by omega⟩]
  have W0 : wkE a K = 0 := by rw [wkE, if_pos hk, if_pos (by omega)]
  -- the fourth of January
  have s4 := since_bd K (n4 Y)
  have h4 : mid (n4 Y) K = n4 Y - since K (n4 Y) + 3 := rfl
  have y4 : Cal.yr (mid (n4 Y) K) = Y := Cal.yr_of (by omega) (by omega) (by omega) (by omega)
  rw [y4] at F1 F2
  generalize fw (a + 1) K = p at *
  generalize fw a K = q at *
  -- the next week
  have nb : (x + 7 < Cal.ny (a + 1) ∧ Cal.yr (x + 7) = a) ∨ (Cal.ny (a + 1) ≤ x + 7 ∧ Cal.yr (x + 7) = a + 1) := by
    rcases Int.lt_or_le (x + 7) (Cal.ny (a + 1)) with h | h
    · exact Or.inl ⟨h, Cal.yr_of (by omega) h (by omega) (by omega)⟩
    · exact Or.inr ⟨h, Cal.yr_of h (by omega) (by omega) (by omega)⟩
  refine ⟨n, a, _, _, _, _, _, _, n4 Y, ⟨a2, a1⟩, ⟨A1, A2, A0⟩, ⟨B1, B2, B0⟩, ⟨C1, C2, C0⟩, ⟨W1, W0⟩, ⟨g1, g2⟩, ⟨F1, by rw [F2]; omega, F0⟩, by omega, by omega, ?_, ?_, by omega, a_lo, a_hi⟩
  · by_cases h : Cal.wday (n + 1) = K
    · exact Or.inl h
    · rw [mid_1 h hk, hx, ha]
      exact Or.inr ⟨rfl, rfl⟩
  · rcases nb with ⟨h, e⟩ | ⟨h, e⟩
    · rw [e]; exact Or.inl ⟨by omega, rfl, by omega⟩
    · rw [e]; exact Or.inr ⟨by omega, rfl, by omega⟩

set_option maxRecDepth 100000 in
set_option maxHeartbeats 3200000 in
theorem numbers_any (yy mm dd kk : Int) (w : World) (hA : Ahead w) :
    Calls Tryd.prog 4 #[.int .i64 yy, .int .i64 mm, .int .i64 dd, .int .i64 kk] w fun e w' => e = .returned (.bool true) ∧ Below w.heap.size w w' := by
  have HA := Lib.hid hA
  clear hA
  have y0 : 0 ≤ (IntKind.u64.wrap yy).tmod 9990 := Int.tmod_nonneg _ (u64_nn yy)
  have y1 : (IntKind.u64.wrap yy).tmod 9990 < 9990 := Int.tmod_lt_of_pos _ (by omega)
  have m0 : 0 ≤ (IntKind.u64.wrap mm).tmod 12 := Int.tmod_nonneg _ (u64_nn mm)
  have m1 : (IntKind.u64.wrap mm).tmod 12 < 12 := Int.tmod_lt_of_pos _ (by omega)
  have d0 : 0 ≤ (IntKind.u64.wrap dd).tmod 28 := Int.tmod_nonneg _ (u64_nn dd)
  have d1 : (IntKind.u64.wrap dd).tmod 28 < 28 := Int.tmod_lt_of_pos _ (by omega)
  have k0 : 0 ≤ (IntKind.u64.wrap kk).tmod 7 := Int.tmod_nonneg _ (u64_nn kk)
  have k1 : (IntKind.u64.wrap kk).tmod 7 < 7 := Int.tmod_lt_of_pos _ (by omega)
  go_enter Tryd.func4, Tryd.ntmps4
  go_wp2_with fail
  generalize (IntKind.u64.wrap yy).tmod 9990 = a0 at *
  generalize (IntKind.u64.wrap mm).tmod 12 = b0 at *
  generalize (IntKind.u64.wrap dd).tmod 28 = c0 at *
  generalize (IntKind.u64.wrap kk).tmod 7 = K at *
  obtain ⟨Y, hY⟩ : ∃ Y, 2 + a0 = Y := ⟨_, rfl⟩
  obtain ⟨M, hM⟩ : ∃ M, 1 + b0 = M := ⟨_, rfl⟩
  obtain ⟨D, hD⟩ : ∃ D, 1 + c0 = D := ⟨_, rfl⟩
  have Y1 : 2 ≤ Y ∧ Y ≤ 9991 := by omega
  have M1 : 1 ≤ M ∧ M ≤ 12 := by omega
  have D1 : 1 ≤ D ∧ D ≤ 28 := by omega
  rw [hY, hM, hD]
  clear hY hM hD y0 y1 m0 m1 d0 d1
  obtain ⟨n, a, no, b, nx, c, sm, wk, f, ⟨g1, g2⟩, ⟨g3, g4, g5⟩, ⟨g6, g7, g8⟩, ⟨g9, g10, g11⟩, ⟨g12, g13⟩, ⟨g14, g15⟩, ⟨g16, g17, g18⟩, ⟨w1, w2⟩, ⟨o1, o2⟩, hsame, hnext, ⟨n1, n2⟩, r1, r2⟩ := numbers_facts Y M D K Y1.1 Y1.2 M1.1 M1.2 D1.1 D1.2 k0 (by omega)
  have G1 := Lib.hid g1
  have G2 := Lib.hid g2
  have G3 := Lib.hid g3
  have G4 := Lib.hid g4
  have G5 := Lib.hid g5
  have G6 := Lib.hid g6
  have G7 := Lib.hid g7
  have G8 := Lib.hid g8
  have G9 := Lib.hid g9
  have G10 := Lib.hid g10
  have G11 := Lib.hid g11
  have G12 := Lib.hid g12
  have G13 := Lib.hid g13
  have G14 := Lib.hid g14
  have G15 := Lib.hid g15
  have G16 := Lib.hid g16
  have G17 := Lib.hid g17
  have G18 := Lib.hid g18
  have HS := Lib.hid hsame
  have HN := Lib.hid hnext
  clear g1 g2 g3 g4 g5 g6 g7 g8 g9 g10 g11 g12 g13 g14 g15 g16 g17 g18 hsame hnext
  obtain ⟨D1, D2⟩ := D1
  refine (number_at _ _ _ _ _ _ (HA.out.stays (by repeat (first | exact Below.refl _ _ | refine Below.setCell ?_ (by simp) _ | refine below_drewN ?_ _ | refine Below.drew ?_ | refine Below.alloc ?_ (by simp; try omega) _))) (by omega) (by omega) G1 G2).mono ?_
  rintro e w1 ⟨rfl, q1, rfl⟩
  go_wp2_with fail
  refine (no_any _ _ _ (HA.out.stays (by repeat (first | exact Below.refl _ _ | refine Below.setCell ?_ (by simp) _ | refine below_drewN ?_ _ | refine Below.drew ?_ | refine Below.alloc ?_ (by simp; try omega) _)))).mono ?_
  rintro e w1 ⟨rfl, hb1⟩
  rw [G3.out, G4.out, G5.out]
  have hb1 : Below w.heap.size w w1 := Below.trans (by repeat (first | exact Below.refl _ _ | refine Below.setCell ?_ (by simp) _ | refine below_drewN ?_ _ | refine Below.drew ?_ | refine Below.alloc ?_ (by simp; try omega) _)) (hb1.mono (by simp; try omega))
  have HA1 := Lib.hid (HA.out.stays hb1)
  go_wp2_with fail
  refine (no_any _ _ _ HA1.out).mono ?_
  rintro e w2 ⟨rfl, hb2⟩
  rw [G6.out, G7.out, G8.out]
  have hb2 := hb1.trans (hb2.mono hb1.size)
  have HA2 := Lib.hid (HA.out.stays hb2)
  go_wp2_with fail
  refine (no_any _ _ _ HA2.out).mono ?_
  rintro e w3 ⟨rfl, hb3⟩
  rw [G9.out, G10.out, G11.out]
  have hb3 := hb2.trans (hb3.mono hb2.size)
  have HA3 := Lib.hid (HA.out.stays hb3)
  go_wp2_with fail
  refine (weeks_any _ _ _ HA3.out).mono ?_
  rintro e w4 ⟨rfl, hb4⟩
  rw [G12.out, G13.out]
  have hb4 := hb3.trans (hb4.mono hb3.size)
  have HA4 := Lib.hid (HA.out.stays hb4)
  go_wp2_with fail
  refine (number_at _ _ _ _ _ _ HA4.out (by omega) (by omega) G14 G15).mono ?_
  rintro e w5 ⟨rfl, q2, rfl⟩
  go_wp2_with fail
  refine (no_any _ _ _ (HA4.out.stays (by repeat (first | exact Below.refl _ _ | refine Below.setCell ?_ (by simp) _ | refine below_drewN ?_ _ | refine Below.drew ?_ | refine Below.alloc ?_ (by simp; try omega) _)))).mono ?_
  rintro e w5 ⟨rfl, hb5⟩
  rw [G16.out, G17.out, G18.out]
  have hb5 : Below w.heap.size w w5 := below_chain hb4 (by repeat (first | exact Below.refl _ _ | refine Below.setCell ?_ (by simp) _ | refine below_drewN ?_ _ | refine Below.drew ?_ | refine Below.alloc ?_ (by simp; try omega) _)) hb5
  have HA5 := Lib.hid (HA.out.stays hb5)
  clear hb1 hb2 hb3 hb4
  go_wp2_with fail
  refine (weekday_any _ _).mono ?_
  rintro e w6 ⟨rfl, rfl⟩
  obtain ⟨v, hv⟩ : ∃ v, Cal.wday (n + 1) = v := ⟨_, rfl⟩
  have hs2 : v = K ∨ (v ≠ K ∧ c = a ∧ sm = no) := by
    by_cases h : v = K
    · exact Or.inl h
    · exact Or.inr ⟨h, HS.out.resolve_left (by rw [hv]; exact h)⟩
  rw [hv]
  clear hv HS
  rcases hs2 with rfl | ⟨hne, rfl, rfl⟩
  all_goals try have hb : (v != K) = true := bne_iff_ne.2 hne
  all_goals rcases HN.out with ⟨x1, rfl, rfl⟩ | ⟨x1, rfl, rfl⟩
  all_goals
    clear HN
    go_wp2_with fail
    refine (wakes3_any _ HA5.out).mono ?_
    rintro e w6 ⟨rfl, hb6⟩
    go_wp2
    go_ret
    exact ⟨rfl, hb5.trans (hb6.mono hb5.size)⟩
end Wk
end Go.Proofs.YtopclopmgnkoeabDoor
