/-
  FilterStarts: the law answers true at every three integers, in whatever world that holds the table of the months.
-/
import Derived.Test.YtpcmfgfhdnfmcaaDoorFilT
namespace Go.Proofs.YtpcmfgfhdnfmcaaDoor
open Go.RowKit
namespace Fil
open Rcv (CV LisV IntV DayV)
open Rck (ckE ckB Small)
open Civ (numV numE dY dM dD dnE ydV Ahead)
open Wk (noY noN noE wkV wkE)
open Cel
/-- A rule without lists. -/
def stR (F : Int) : CV := ⟨F, 1, 0, false, 0, false, [], [], [], [], [], [], [], [], [], 1⟩
theorem stR_small (F : Int) : Small (stR F) := ⟨by simp [stR], by simp [stR], by simp [stR], by simp [stR], by simp [stR], by simp [stR], by simp [stR], by simp [stR], by simp [stR]⟩
theorem stR_lis (F : Int) (w : World) : LisV w (stR F) (.slice none 0 0) (.slice none 0 0) (.slice none 0 0) (.slice none 0 0) (.slice none 0 0) (.slice none 0 0) (.slice none 0 0) (.slice none 0 0) (.slice none 0 0) :=
  ⟨IntV.none w, IntV.none w, IntV.none w, DayV.none w, IntV.none w, IntV.none w, IntV.none w, IntV.none w, IntV.none w⟩
theorem stR_nth {F : Int} {w : World} {s6 s7 s8 s9 s10 s11 s12 s13 s14 : Value} : NthC (stR F) s6 s7 s8 s9 s10 s11 s12 s13 s14 w := NthC.none (fun q hq => by simp [stR] at hq)
theorem stR_ck {F : Int} (h : 1 ≤ F ∧ F ≤ 7) : ckB (stR F) = true := by
  have : F = 1 ∨ F = 2 ∨ F = 3 ∨ F = 4 ∨ F = 5 ∨ F = 6 ∨ F = 7 := by omega
  rcases this with rfl | rfl | rfl | rfl | rfl | rfl | rfl <;> decide +kernel
theorem st_let {F A T : Int} (hF : 1 ≤ F ∧ F ≤ 7) (ha : moO A = true) (ht : moO T = true) : letP (stR F) A T = (lcB (stR F) A T && llB (stR F) (A / 86400) (T / 86400)) := by
  rw [letP, stR_ck hF, ha, ht, letQ]
  have e1 : lnB (stR F) (T / 86400) = true := by simp [lnB, stR]
  have e2 : ldB (stR F) (T / 86400) = true := by simp [ldB, stR]
  rw [e1, e2]
  simp
theorem st_4 {s t : Int} (h1 : 0 ≤ s ∧ s < 86400) (h2 : 0 ≤ t ∧ t < 86400) : (t % 60 = s % 60 ∧ t / 60 % 60 = s / 60 % 60 ∧ t / 3600 = s / 3600) ↔ s = t := by omega
theorem st_3 {s t : Int} : (t % 60 = s % 60 ∧ t / 60 % 60 = s / 60 % 60) ↔ s % 3600 = t % 3600 := by omega
theorem lc_1 (A T : Int) : lcB (stR 1) A T = true := by simp [lcB, onB, stR]
theorem lc_2 (A T : Int) : lcB (stR 2) A T = decide (A % 86400 % 60 = T % 86400 % 60) := by
  simp only [lcB, onB, stR]
  simp
  exact eq_comm
theorem lc_3 (A T : Int) : lcB (stR 3) A T = decide (A % 86400 % 3600 = T % 86400 % 3600) := by
  have e := st_3 (s := A % 86400) (t := T % 86400)
  rw [Bool.eq_iff_iff]
  simp only [lcB, onB, stR]
  simpa using e
theorem lc_4 {F : Int} (h : 4 ≤ F) (A T : Int) : lcB (stR F) A T = decide (A % 86400 = T % 86400) := by
  have e := st_4 (s := A % 86400) (t := T % 86400) (by omega) (by omega)
  have f1 : 1 < F := by omega
  have f2 : 2 < F := by omega
  have f3 : 3 < F := by omega
  rw [Bool.eq_iff_iff]
  simp only [lcB, onB, stR]
  simpa [f1, f2, f3] using e
theorem ll_s {F : Int} (h : F ≤ 4) (c d : Int) : llB (stR F) c d = true := by
  have f5 : F ≠ 5 := by omega
  have f6 : F ≠ 6 := by omega
  have f7 : F ≠ 7 := by omega
  unfold llB stR
  simp [f5, f6, f7]
theorem ll_5 (c d : Int) : llB (stR 5) c d = decide (Cal.wday c = Cal.wday d) := by
  unfold llB stR
  simp
  exact eq_comm
theorem ll_6 (c d : Int) : llB (stR 6) c d = decide (dD c = dD d) := by
  unfold llB stR
  simp
  exact eq_comm
theorem ll_7 (c d : Int) : llB (stR 7) c d = (decide (dD c = dD d) && decide (dM c = dM d)) := by
  unfold llB stR
  rw [Bool.eq_iff_iff]
  simp
  constructor <;> rintro ⟨a, b⟩ <;> exact ⟨a.symm, b.symm⟩
/-- What the law asks of a rule without lists. -/
theorem st_all {F A T : Int} (hF : 1 ≤ F ∧ F ≤ 7) (ha : moO A = true) (ht : moO T = true) : letP (stR F) A T =
    (if F = 1 then true else if F = 2 then decide (A % 86400 % 60 = T % 86400 % 60) else if F = 3 then decide (A % 86400 % 3600 = T % 86400 % 3600) else if F = 4 then decide (A % 86400 = T % 86400)
      else if F = 5 then (decide (A % 86400 = T % 86400) && decide (Cal.wday (A / 86400) = Cal.wday (T / 86400))) else if F = 6 then (decide (A % 86400 = T % 86400) && decide (dD (A / 86400) = dD (T / 86400)))
      else (decide (A % 86400 = T % 86400) && (decide (dD (A / 86400) = dD (T / 86400)) && decide (dM (A / 86400) = dM (T / 86400))))) := by
  rw [st_let hF ha ht]
  have : F = 1 ∨ F = 2 ∨ F = 3 ∨ F = 4 ∨ F = 5 ∨ F = 6 ∨ F = 7 := by omega
  rcases this with rfl | rfl | rfl | rfl | rfl | rfl | rfl
  · rw [lc_1, ll_s (by decide)]; rfl
  · rw [lc_2, ll_s (by decide), Bool.and_true]; rfl
  · rw [lc_3, ll_s (by decide), Bool.and_true]; rfl
  · rw [lc_4 (by decide), ll_s (by decide), Bool.and_true]; rfl
  · rw [lc_4 (by decide), ll_5]; rfl
  · rw [lc_4 (by decide), ll_6]; rfl
  · rw [lc_4 (by decide), ll_7]; rfl

set_option maxHeartbeats 25600000 in
set_option maxRecDepth 100000 in
theorem starts_any (start t freq : Int) (w : World) (hA : Ahead w) :
    Calls Tryd.prog 7 #[.int .i64 start, .int .i64 t, .int .i64 freq] w fun e w' => e = .returned (.bool true) ∧ Below w.heap.size w w' := by
  have HA := Lib.hid hA
  clear hA
  obtain ⟨A, hAA⟩ : ∃ a, vsm start = a := ⟨_, rfl⟩
  obtain ⟨T0, hT0⟩ : ∃ a, vsm t = a := ⟨_, rfl⟩
  have mA : moO A = true := by rw [← hAA]; exact vsm_mo start
  have ab := vsm_bd start
  have tb := vsm_bd t
  rw [hAA] at ab
  rw [hT0] at tb
  have V1 := Lib.hid hAA
  have V2 := Lib.hid hT0
  have MA := Lib.hid mA
  have u0 : 0 ≤ IntKind.u64.wrap freq := by rw [IntKind.wrap_u64]; omega
  obtain ⟨U, hU⟩ : ∃ u, IntKind.u64.wrap freq = u := ⟨_, rfl⟩
  rw [hU] at u0
  have r1 : U.tmod 7 = U % 7 := Int.tmod_eq_emod_of_nonneg u0
  obtain ⟨F, hF⟩ : ∃ f, 1 + U % 7 = f := ⟨_, rfl⟩
  have fb : 1 ≤ F ∧ F ≤ 7 := by omega
  obtain ⟨ab1, ab2⟩ := ab
  obtain ⟨tb1, tb2⟩ := tb
  clear hAA hT0 mA
  go_enter Tryd.func7, Tryd.ntmps7
  go_upto_region 1 with fail
  go_cut [0, 1] (fun a b wz => a = .int .i64 A ∧ b = .int .i64 T0 ∧ Hid (Below w.heap.size w wz))
  case first =>
    go_wp2_with fail
    refine (vsome_to start A _ V1).mono ?_
    rintro e w1 ⟨rfl, k1⟩
    go_wp2_with fail
    refine (vsome_to t T0 _ V2).mono ?_
    rintro e w2 ⟨rfl, k2⟩
    go_wp2
    go_meet
    exact ⟨rfl, rfl, Lib.hid (bstep k1 k2)⟩
  case rest =>
  obtain ⟨w1, rfl⟩ : ∃ x : World, x = wc := ⟨_, rfl⟩
  obtain ⟨rfl, rfl, B⟩ := hcut
  go_upto_region 2 with fail
  go_cut [2] (fun a wz => a = .int .i64 F ∧ Hid (Below w.heap.size w wz))
  case first =>
    go_wp2
    go_meet
    exact ⟨by first | (rw [← hF]; done) | (simp [hU, r1, ← hF]; done) | omega, B⟩
  case rest =>
  obtain ⟨w2, rfl⟩ : ∃ x : World, x = wc := ⟨_, rfl⟩
  clear B
  obtain ⟨rfl, B⟩ := hcut
  clear r1 hF u0 hU
  by_cases h2 : T0.tmod 2 = 0
  · have e2 : (T0.tmod 2 == 0) = true := beq_iff_eq.2 h2
    clear h2
    obtain ⟨sA, hsA⟩ : ∃ s, A % 86400 = s := ⟨_, rfl⟩
    obtain ⟨dT, hdT⟩ : ∃ s, T0 / 86400 = s := ⟨_, rfl⟩
    obtain ⟨dA, hdA⟩ : ∃ s, A / 86400 = s := ⟨_, rfl⟩
    have sb : 0 ≤ sA ∧ sA < 86400 := by omega
    have db : -719162 ≤ dT ∧ dT < 2932897 := by omega
    obtain ⟨T, hT⟩ : ∃ s, dT * 86400 + sA = s := ⟨_, rfl⟩
    have tb : T / 86400 = dT := by omega
    have MT := Lib.hid (show moO T = true from mo_of (by omega) (by omega))
    have S1 := Lib.hid (And.intro hsA hdT)
    have S2 := Lib.hid hdA
    have tb1' : -62135596800 ≤ T ∧ T < 253402300800 := by omega
    obtain ⟨sb1, sb2⟩ := sb
    obtain ⟨db1, db2⟩ := db
    have HT := Lib.hid hT
    clear hsA hdT tb hT hdA
    go_upto_region 4 with fail
    go_cut [7, 8] (fun a b wz => a = .int .i64 dA ∧ b = .int .i64 sA ∧ Hid (Below w.heap.size w wz))
    case first =>
      go_wp2_with fail
      refine (Civ.rdiv_any A 86400 _ (by decide) (by decide) (by omega) (by omega)).mono ?_
      rintro e w3 ⟨rfl, n, rfl⟩
      rw [S1.out.1, S2.out]
      go_wp2
      go_meet
      exact ⟨rfl, rfl, Lib.hid (bdrew B.out n)⟩
    case rest =>
    obtain ⟨w3, rfl⟩ : ∃ x : World, x = wc := ⟨_, rfl⟩
    clear B
    obtain ⟨rfl, rfl, B⟩ := hcut
    go_upto_region 5 with fail
    go_cut [9] (fun a wz => a = .int .i64 dT ∧ Hid (Below w.heap.size w wz))
    case first =>
      go_wp2_with fail
      refine (Civ.rdiv_any T0 86400 _ (by decide) (by decide) (by omega) (by omega)).mono ?_
      rintro e w3 ⟨rfl, n, rfl⟩
      rw [S1.out.2]
      go_wp2
      go_meet
      exact ⟨rfl, Lib.hid (bdrew B.out n)⟩
    case rest =>
    obtain ⟨w3, rfl⟩ : ∃ x : World, x = wc := ⟨_, rfl⟩
    clear B
    obtain ⟨rfl, B⟩ := hcut
    go_upto_region 6 with fail
    go_cut [1] (fun a wz => a = .int .i64 T ∧ Hid (Below w.heap.size w wz))
    case first =>
      go_wp2
      go_meet
      exact ⟨by rw [← HT.out], B⟩
    case rest =>
    obtain ⟨w4, rfl⟩ : ∃ x : World, x = wc := ⟨_, rfl⟩
    clear B
    obtain ⟨rfl, B⟩ := hcut
    obtain ⟨tc1, tc2⟩ := tb1'
    clear tb1 tb2 e2 S1 S2 HT sb1 sb2 db1 db2 V2
    obtain ⟨d1, hd1⟩ : ∃ d, A / 86400 = d := ⟨_, rfl⟩
    obtain ⟨x1, hx1⟩ : ∃ d, A % 86400 = d := ⟨_, rfl⟩
    obtain ⟨d2, hd2⟩ : ∃ d, T / 86400 = d := ⟨_, rfl⟩
    obtain ⟨x2, hx2⟩ : ∃ d, T % 86400 = d := ⟨_, rfl⟩
    have xb1 : 0 ≤ x1 := by omega
    have xb2 : 0 ≤ x2 := by omega
    have E1 := (mo_bd MA.out).2.2.1
    have E2 := (mo_bd MT.out).2.2.1
    rw [hd1] at E1
    rw [hd2] at E2
    obtain ⟨Y1, hY1⟩ : ∃ d, dY d1 = d := ⟨_, rfl⟩
    obtain ⟨M1, hM1⟩ : ∃ d, dM d1 = d := ⟨_, rfl⟩
    obtain ⟨D1, hD1⟩ : ∃ d, dD d1 = d := ⟨_, rfl⟩
    obtain ⟨W1, hW1⟩ : ∃ d, Cal.wday d1 = d := ⟨_, rfl⟩
    obtain ⟨Y2, hY2⟩ : ∃ d, dY d2 = d := ⟨_, rfl⟩
    obtain ⟨M2, hM2⟩ : ∃ d, dM d2 = d := ⟨_, rfl⟩
    obtain ⟨D2, hD2⟩ : ∃ d, dD d2 = d := ⟨_, rfl⟩
    obtain ⟨W2, hW2⟩ : ∃ d, Cal.wday d2 = d := ⟨_, rfl⟩
    have HL := Lib.hid (st_all fb MA.out MT.out)
    rw [hd1, hx1, hd2, hx2, hM1, hD1, hW1, hM2, hD2, hW2] at HL
    have X1 := Lib.hid (And.intro hd1 hx1)
    have X2 := Lib.hid (And.intro hd2 hx2)
    have P1 := Lib.hid (And.intro hY1 (And.intro hM1 (And.intro hD1 E1)))
    have P2 := Lib.hid (And.intro hY2 (And.intro hM2 (And.intro hD2 E2)))
    have PW := Lib.hid (And.intro hW1 hW2)
    have AB := Lib.hid (And.intro (And.intro ab1 ab2) (And.intro tc1 tc2))
    clear hd1 hx1 hd2 hx2 hY1 hM1 hD1 hW1 hY2 hM2 hD2 hW2 E1 E2 ab1 ab2 tc1 tc2
    go_upto_region 7 with fail
    go_cut [11, 12] (fun a b wz => a = .int .i64 d1 ∧ b = .int .i64 x1 ∧ Hid (Below w.heap.size w wz))
    case first =>
      go_wp2_with fail
      refine (Civ.rdiv_any A 86400 _ (by decide) (by decide) (by have := AB.out; omega) (by have := AB.out; omega)).mono ?_
      rintro e w3 ⟨rfl, n, rfl⟩
      rw [X1.out.1, X1.out.2]
      go_wp2
      go_meet
      exact ⟨rfl, rfl, Lib.hid (bdrew B.out n)⟩
    case rest =>
    obtain ⟨w5, rfl⟩ : ∃ x : World, x = wc := ⟨_, rfl⟩
    clear B
    obtain ⟨rfl, rfl, B⟩ := hcut
    go_upto_region 8 with fail
    go_cut [13, 14] (fun a b wz => a = .int .i64 d2 ∧ b = .int .i64 x2 ∧ Hid (Below w.heap.size w wz))
    case first =>
      go_wp2_with fail
      refine (Civ.rdiv_any T 86400 _ (by decide) (by decide) (by have := AB.out; omega) (by have := AB.out; omega)).mono ?_
      rintro e w3 ⟨rfl, n, rfl⟩
      rw [X2.out.1, X2.out.2]
      go_wp2
      go_meet
      exact ⟨rfl, rfl, Lib.hid (bdrew B.out n)⟩
    case rest =>
    obtain ⟨w6, rfl⟩ : ∃ x : World, x = wc := ⟨_, rfl⟩
    clear B
    obtain ⟨rfl, rfl, B⟩ := hcut
    go_upto_region 9 with fail
    go_cut [15, 16] (fun a b wz => ∃ g, a = .pointer (some ⟨g, 0, none⟩) ∧ b = .int .i64 0 ∧ Hid (Cs g wz [.int .i64 Y1, .int .i64 M1, .int .i64 D1]) ∧ Hid (Below w.heap.size w wz))
    case first =>
      go_wp2_with fail
      refine (Civ.date_w d1 _ (HA.out.stays B.out)).mono ?_
      rintro e w7 ⟨rfl, hw⟩
      have k : Below w6.heap.size w6 w7 := by rw [← hw]; exact (Below.refl _ _).alloc (Nat.le_refl _) _
      have B := Lib.hid (bstep B.out k)
      clear hw k
      rw [P1.out.1, P1.out.2.1, P1.out.2.2.1, P1.out.2.2.2]
      go_wp2
      go_meet
      exact ⟨_, rfl, rfl, Lib.hid (Cs.new w7 [.int .i64 Y1, .int .i64 M1, .int .i64 D1] _), Lib.hid (B.out.alloc B.out.size _)⟩
    case rest =>
    obtain ⟨w8, rfl⟩ : ∃ x : World, x = wc := ⟨_, rfl⟩
    clear B
    obtain ⟨g1, rfl, rfl, C1, B⟩ := hcut
    go_upto_region 10 with fail
    go_cut [17, 18] (fun a b wz => ∃ g, a = .pointer (some ⟨g, 0, none⟩) ∧ b = .int .i64 0 ∧ Hid (Cs g wz [.int .i64 Y2, .int .i64 M2, .int .i64 D2]) ∧ Hid (Cs g1 wz [.int .i64 Y1, .int .i64 M1, .int .i64 D1]) ∧ Hid (Below w.heap.size w wz))
    case first =>
      go_wp2_with fail
      refine (Civ.date_w d2 _ (HA.out.stays B.out)).mono ?_
      rintro e w9 ⟨rfl, hw⟩
      have k : Below w8.heap.size w8 w9 := by rw [← hw]; exact (Below.refl _ _).alloc (Nat.le_refl _) _
      have C1 := Lib.hid (C1.out.below k)
      have B := Lib.hid (bstep B.out k)
      clear hw k
      rw [P2.out.1, P2.out.2.1, P2.out.2.2.1, P2.out.2.2.2]
      go_wp2
      go_meet
      exact ⟨_, rfl, rfl, Lib.hid (Cs.new w9 [.int .i64 Y2, .int .i64 M2, .int .i64 D2] _), Lib.hid (C1.out.alloc _), Lib.hid (B.out.alloc B.out.size _)⟩
    case rest =>
    obtain ⟨w10, rfl⟩ : ∃ x : World, x = wc := ⟨_, rfl⟩
    clear B C1
    obtain ⟨g2, rfl, rfl, C2, C1, B⟩ := hcut
    have r60 : x1.tmod 60 = x1 % 60 := Int.tmod_eq_emod_of_nonneg xb1
    have s60 : x2.tmod 60 = x2 % 60 := Int.tmod_eq_emod_of_nonneg xb2
    have r36 : x1.tmod 3600 = x1 % 3600 := Int.tmod_eq_emod_of_nonneg xb1
    have s36 : x2.tmod 3600 = x2 % 3600 := Int.tmod_eq_emod_of_nonneg xb2
    have y11 := (C1.out.2 1 _ rfl).1
    have y12 := (C1.out.2 2 _ rfl).1
    have y21 := (C2.out.2 1 _ rfl).1
    have y22 := (C2.out.2 2 _ rfl).1
    have hq : F = 1 ∨ F = 2 ∨ F = 3 ∨ F = 4 ∨ F = 5 ∨ F = 6 ∨ F = 7 := by omega
    clear fb C1 C2 X1 X2 P1 P2
    rcases hq with rfl | rfl | rfl | rfl | rfl | rfl | rfl
    · have HL : Hid (letP (stR 1) A T = true) := Lib.hid (by rw [HL.out]; rfl)
      have HV : Hid (letP (stR 1) A T = true) := Lib.hid (by rw [HL.out]; try rfl)
      go_wp2_with fail
      refine (lets_to (stR 1) _ _ _ _ _ _ _ _ _ A T true _ (HA.out.stays B.out) (by decide) (by decide) (stR_lis 1 _) (stR_small 1) stR_nth (by have := AB.out; omega) (by have := AB.out; omega) (by have := AB.out; omega) (by have := AB.out; omega) HV).mono ?_
      rintro e w12 ⟨rfl, k⟩
      have B := Lib.hid (bstep B.out k)
      clear k
      go_wp2_with fail
      refine (wakes22_any _ (HA.out.stays B.out)).mono ?_
      rintro e w13 ⟨rfl, k⟩
      go_wp2
      go_ret
      exact ⟨ret_b rfl, bstep B.out k⟩
    · have HL : Hid (letP (stR 2) A T = (x1 % 60 == x2 % 60)) := Lib.hid (by rw [HL.out]; rfl)
      by_cases c0 : x1 % 60 = x2 % 60
      · have e10 : (x1 % 60 == x2 % 60) = true := beq_iff_eq.2 c0
        clear c0
        have HV : Hid (letP (stR 2) A T = true) := Lib.hid (by rw [HL.out, e10]; try rfl)
        go_wp2_with fail
        refine (lets_to (stR 2) _ _ _ _ _ _ _ _ _ A T true _ (HA.out.stays B.out) (by decide) (by decide) (stR_lis 2 _) (stR_small 2) stR_nth (by have := AB.out; omega) (by have := AB.out; omega) (by have := AB.out; omega) (by have := AB.out; omega) HV).mono ?_
        rintro e w12 ⟨rfl, k⟩
        have B := Lib.hid (bstep B.out k)
        clear k
        go_wp2_with fail
        refine (wakes22_any _ (HA.out.stays B.out)).mono ?_
        rintro e w13 ⟨rfl, k⟩
        go_wp2
        go_ret
        exact ⟨ret_b rfl, bstep B.out k⟩
      · have e10 : (x1 % 60 == x2 % 60) = false := beq_eq_false_iff_ne.2 c0
        clear c0
        have HV : Hid (letP (stR 2) A T = false) := Lib.hid (by rw [HL.out, e10]; try rfl)
        go_wp2_with fail
        refine (lets_to (stR 2) _ _ _ _ _ _ _ _ _ A T false _ (HA.out.stays B.out) (by decide) (by decide) (stR_lis 2 _) (stR_small 2) stR_nth (by have := AB.out; omega) (by have := AB.out; omega) (by have := AB.out; omega) (by have := AB.out; omega) HV).mono ?_
        rintro e w12 ⟨rfl, k⟩
        have B := Lib.hid (bstep B.out k)
        clear k
        go_wp2_with fail
        refine (wakes22_any _ (HA.out.stays B.out)).mono ?_
        rintro e w13 ⟨rfl, k⟩
        go_wp2
        go_ret
        exact ⟨ret_b rfl, bstep B.out k⟩
    · have HL : Hid (letP (stR 3) A T = (x1 % 3600 == x2 % 3600)) := Lib.hid (by rw [HL.out]; rfl)
      by_cases c0 : x1 % 3600 = x2 % 3600
      · have e10 : (x1 % 3600 == x2 % 3600) = true := beq_iff_eq.2 c0
        clear c0
        have HV : Hid (letP (stR 3) A T = true) := Lib.hid (by rw [HL.out, e10]; try rfl)
        go_wp2_with fail
        refine (lets_to (stR 3) _ _ _ _ _ _ _ _ _ A T true _ (HA.out.stays B.out) (by decide) (by decide) (stR_lis 3 _) (stR_small 3) stR_nth (by have := AB.out; omega) (by have := AB.out; omega) (by have := AB.out; omega) (by have := AB.out; omega) HV).mono ?_
        rintro e w12 ⟨rfl, k⟩
        have B := Lib.hid (bstep B.out k)
        clear k
        go_wp2_with fail
        refine (wakes22_any _ (HA.out.stays B.out)).mono ?_
        rintro e w13 ⟨rfl, k⟩
        go_wp2
        go_ret
        exact ⟨ret_b rfl, bstep B.out k⟩
      · have e10 : (x1 % 3600 == x2 % 3600) = false := beq_eq_false_iff_ne.2 c0
        clear c0
        have HV : Hid (letP (stR 3) A T = false) := Lib.hid (by rw [HL.out, e10]; try rfl)
        go_wp2_with fail
        refine (lets_to (stR 3) _ _ _ _ _ _ _ _ _ A T false _ (HA.out.stays B.out) (by decide) (by decide) (stR_lis 3 _) (stR_small 3) stR_nth (by have := AB.out; omega) (by have := AB.out; omega) (by have := AB.out; omega) (by have := AB.out; omega) HV).mono ?_
        rintro e w12 ⟨rfl, k⟩
        have B := Lib.hid (bstep B.out k)
        clear k
        go_wp2_with fail
        refine (wakes22_any _ (HA.out.stays B.out)).mono ?_
        rintro e w13 ⟨rfl, k⟩
        go_wp2
        go_ret
        exact ⟨ret_b rfl, bstep B.out k⟩
    · have HL : Hid (letP (stR 4) A T = (x1 == x2)) := Lib.hid (by rw [HL.out]; rfl)
      by_cases c0 : x1 = x2
      · have e10 : (x1 == x2) = true := beq_iff_eq.2 c0
        clear c0
        have HV : Hid (letP (stR 4) A T = true) := Lib.hid (by rw [HL.out, e10]; try rfl)
        go_wp2_with fail
        refine (lets_to (stR 4) _ _ _ _ _ _ _ _ _ A T true _ (HA.out.stays B.out) (by decide) (by decide) (stR_lis 4 _) (stR_small 4) stR_nth (by have := AB.out; omega) (by have := AB.out; omega) (by have := AB.out; omega) (by have := AB.out; omega) HV).mono ?_
        rintro e w12 ⟨rfl, k⟩
        have B := Lib.hid (bstep B.out k)
        clear k
        go_wp2_with fail
        refine (wakes22_any _ (HA.out.stays B.out)).mono ?_
        rintro e w13 ⟨rfl, k⟩
        go_wp2
        go_ret
        exact ⟨ret_b rfl, bstep B.out k⟩
      · have e10 : (x1 == x2) = false := beq_eq_false_iff_ne.2 c0
        clear c0
        have HV : Hid (letP (stR 4) A T = false) := Lib.hid (by rw [HL.out, e10]; try rfl)
        go_wp2_with fail
        refine (lets_to (stR 4) _ _ _ _ _ _ _ _ _ A T false _ (HA.out.stays B.out) (by decide) (by decide) (stR_lis 4 _) (stR_small 4) stR_nth (by have := AB.out; omega) (by have := AB.out; omega) (by have := AB.out; omega) (by have := AB.out; omega) HV).mono ?_
        rintro e w12 ⟨rfl, k⟩
        have B := Lib.hid (bstep B.out k)
        clear k
        go_wp2_with fail
        refine (wakes22_any _ (HA.out.stays B.out)).mono ?_
        rintro e w13 ⟨rfl, k⟩
        go_wp2
        go_ret
        exact ⟨ret_b rfl, bstep B.out k⟩
    · have HL : Hid (letP (stR 5) A T = ((x1 == x2) && (W1 == W2))) := Lib.hid (by rw [HL.out]; rfl)
      by_cases c0 : x1 = x2
      · have e10 : (x1 == x2) = true := beq_iff_eq.2 c0
        clear c0
        by_cases c1 : W1 = W2
        · have e11 : (W1 == W2) = true := beq_iff_eq.2 c1
          clear c1
          have HV : Hid (letP (stR 5) A T = true) := Lib.hid (by rw [HL.out, e10, e11]; try rfl)
          go_wp2_with fail
          refine (Civ.weekday_any d1 _).mono ?_
          rintro e w11 ⟨rfl, rfl⟩
          rw [PW.out.1]
          go_wp2_with fail
          refine (Civ.weekday_any d2 _).mono ?_
          rintro e w11 ⟨rfl, rfl⟩
          rw [PW.out.2]
          go_wp2_with fail
          refine (lets_to (stR 5) _ _ _ _ _ _ _ _ _ A T true _ (HA.out.stays B.out) (by decide) (by decide) (stR_lis 5 _) (stR_small 5) stR_nth (by have := AB.out; omega) (by have := AB.out; omega) (by have := AB.out; omega) (by have := AB.out; omega) HV).mono ?_
          rintro e w12 ⟨rfl, k⟩
          have B := Lib.hid (bstep B.out k)
          clear k
          go_wp2_with fail
          refine (wakes22_any _ (HA.out.stays B.out)).mono ?_
          rintro e w13 ⟨rfl, k⟩
          go_wp2
          go_ret
          exact ⟨ret_b rfl, bstep B.out k⟩
        · have e11 : (W1 == W2) = false := beq_eq_false_iff_ne.2 c1
          clear c1
          have HV : Hid (letP (stR 5) A T = false) := Lib.hid (by rw [HL.out, e10, e11]; try rfl)
          go_wp2_with fail
          refine (Civ.weekday_any d1 _).mono ?_
          rintro e w11 ⟨rfl, rfl⟩
          rw [PW.out.1]
          go_wp2_with fail
          refine (Civ.weekday_any d2 _).mono ?_
          rintro e w11 ⟨rfl, rfl⟩
          rw [PW.out.2]
          go_wp2_with fail
          refine (lets_to (stR 5) _ _ _ _ _ _ _ _ _ A T false _ (HA.out.stays B.out) (by decide) (by decide) (stR_lis 5 _) (stR_small 5) stR_nth (by have := AB.out; omega) (by have := AB.out; omega) (by have := AB.out; omega) (by have := AB.out; omega) HV).mono ?_
          rintro e w12 ⟨rfl, k⟩
          have B := Lib.hid (bstep B.out k)
          clear k
          go_wp2_with fail
          refine (wakes22_any _ (HA.out.stays B.out)).mono ?_
          rintro e w13 ⟨rfl, k⟩
          go_wp2
          go_ret
          exact ⟨ret_b rfl, bstep B.out k⟩
      · have e10 : (x1 == x2) = false := beq_eq_false_iff_ne.2 c0
        clear c0
        have HV : Hid (letP (stR 5) A T = false) := Lib.hid (by rw [HL.out, e10]; try rfl)
        go_wp2_with fail
        refine (lets_to (stR 5) _ _ _ _ _ _ _ _ _ A T false _ (HA.out.stays B.out) (by decide) (by decide) (stR_lis 5 _) (stR_small 5) stR_nth (by have := AB.out; omega) (by have := AB.out; omega) (by have := AB.out; omega) (by have := AB.out; omega) HV).mono ?_
        rintro e w12 ⟨rfl, k⟩
        have B := Lib.hid (bstep B.out k)
        clear k
        go_wp2_with fail
        refine (wakes22_any _ (HA.out.stays B.out)).mono ?_
        rintro e w13 ⟨rfl, k⟩
        go_wp2
        go_ret
        exact ⟨ret_b rfl, bstep B.out k⟩
    · have HL : Hid (letP (stR 6) A T = ((x1 == x2) && (D1 == D2))) := Lib.hid (by rw [HL.out]; rfl)
      by_cases c0 : x1 = x2
      · have e10 : (x1 == x2) = true := beq_iff_eq.2 c0
        clear c0
        by_cases c1 : D1 = D2
        · have e11 : (D1 == D2) = true := beq_iff_eq.2 c1
          clear c1
          have HV : Hid (letP (stR 6) A T = true) := Lib.hid (by rw [HL.out, e10, e11]; try rfl)
          go_wp2_with fail
          refine (lets_to (stR 6) _ _ _ _ _ _ _ _ _ A T true _ (HA.out.stays B.out) (by decide) (by decide) (stR_lis 6 _) (stR_small 6) stR_nth (by have := AB.out; omega) (by have := AB.out; omega) (by have := AB.out; omega) (by have := AB.out; omega) HV).mono ?_
          rintro e w12 ⟨rfl, k⟩
          have B := Lib.hid (bstep B.out k)
          clear k
          go_wp2_with fail
          refine (wakes22_any _ (HA.out.stays B.out)).mono ?_
          rintro e w13 ⟨rfl, k⟩
          go_wp2
          go_ret
          exact ⟨ret_b rfl, bstep B.out k⟩
        · have e11 : (D1 == D2) = false := beq_eq_false_iff_ne.2 c1
          clear c1
          have HV : Hid (letP (stR 6) A T = false) := Lib.hid (by rw [HL.out, e10, e11]; try rfl)
          go_wp2_with fail
          refine (lets_to (stR 6) _ _ _ _ _ _ _ _ _ A T false _ (HA.out.stays B.out) (by decide) (by decide) (stR_lis 6 _) (stR_small 6) stR_nth (by have := AB.out; omega) (by have := AB.out; omega) (by have := AB.out; omega) (by have := AB.out; omega) HV).mono ?_
          rintro e w12 ⟨rfl, k⟩
          have B := Lib.hid (bstep B.out k)
          clear k
          go_wp2_with fail
          refine (wakes22_any _ (HA.out.stays B.out)).mono ?_
          rintro e w13 ⟨rfl, k⟩
          go_wp2
          go_ret
          exact ⟨ret_b rfl, bstep B.out k⟩
      · have e10 : (x1 == x2) = false := beq_eq_false_iff_ne.2 c0
        clear c0
        have HV : Hid (letP (stR 6) A T = false) := Lib.hid (by rw [HL.out, e10]; try rfl)
        go_wp2_with fail
        refine (lets_to (stR 6) _ _ _ _ _ _ _ _ _ A T false _ (HA.out.stays B.out) (by decide) (by decide) (stR_lis 6 _) (stR_small 6) stR_nth (by have := AB.out; omega) (by have := AB.out; omega) (by have := AB.out; omega) (by have := AB.out; omega) HV).mono ?_
        rintro e w12 ⟨rfl, k⟩
        have B := Lib.hid (bstep B.out k)
        clear k
        go_wp2_with fail
        refine (wakes22_any _ (HA.out.stays B.out)).mono ?_
        rintro e w13 ⟨rfl, k⟩
        go_wp2
        go_ret
        exact ⟨ret_b rfl, bstep B.out k⟩
    · have HL : Hid (letP (stR 7) A T = ((x1 == x2) && ((D1 == D2) && (M1 == M2)))) := Lib.hid (by rw [HL.out]; rfl)
      by_cases c0 : x1 = x2
      · have e10 : (x1 == x2) = true := beq_iff_eq.2 c0
        clear c0
        by_cases c1 : D1 = D2
        · have e11 : (D1 == D2) = true := beq_iff_eq.2 c1
          clear c1
          by_cases c2 : M1 = M2
          · have e12 : (M1 == M2) = true := beq_iff_eq.2 c2
            clear c2
            have HV : Hid (letP (stR 7) A T = true) := Lib.hid (by rw [HL.out, e10, e11, e12]; try rfl)
            go_wp2_with fail
            refine (lets_to (stR 7) _ _ _ _ _ _ _ _ _ A T true _ (HA.out.stays B.out) (by decide) (by decide) (stR_lis 7 _) (stR_small 7) stR_nth (by have := AB.out; omega) (by have := AB.out; omega) (by have := AB.out; omega) (by have := AB.out; omega) HV).mono ?_
            rintro e w12 ⟨rfl, k⟩
            have B := Lib.hid (bstep B.out k)
            clear k
            go_wp2_with fail
            refine (wakes22_any _ (HA.out.stays B.out)).mono ?_
            rintro e w13 ⟨rfl, k⟩
            go_wp2
            go_ret
            exact ⟨ret_b rfl, bstep B.out k⟩
          · have e12 : (M1 == M2) = false := beq_eq_false_iff_ne.2 c2
            clear c2
            have HV : Hid (letP (stR 7) A T = false) := Lib.hid (by rw [HL.out, e10, e11, e12]; try rfl)
            go_wp2_with fail
            refine (lets_to (stR 7) _ _ _ _ _ _ _ _ _ A T false _ (HA.out.stays B.out) (by decide) (by decide) (stR_lis 7 _) (stR_small 7) stR_nth (by have := AB.out; omega) (by have := AB.out; omega) (by have := AB.out; omega) (by have := AB.out; omega) HV).mono ?_
            rintro e w12 ⟨rfl, k⟩
            have B := Lib.hid (bstep B.out k)
            clear k
            go_wp2_with fail
            refine (wakes22_any _ (HA.out.stays B.out)).mono ?_
            rintro e w13 ⟨rfl, k⟩
            go_wp2
            go_ret
            exact ⟨ret_b rfl, bstep B.out k⟩
        · have e11 : (D1 == D2) = false := beq_eq_false_iff_ne.2 c1
          clear c1
          have HV : Hid (letP (stR 7) A T = false) := Lib.hid (by rw [HL.out, e10, e11]; try rfl)
          go_wp2_with fail
          refine (lets_to (stR 7) _ _ _ _ _ _ _ _ _ A T false _ (HA.out.stays B.out) (by decide) (by decide) (stR_lis 7 _) (stR_small 7) stR_nth (by have := AB.out; omega) (by have := AB.out; omega) (by have := AB.out; omega) (by have := AB.out; omega) HV).mono ?_
          rintro e w12 ⟨rfl, k⟩
          have B := Lib.hid (bstep B.out k)
          clear k
          go_wp2_with fail
          refine (wakes22_any _ (HA.out.stays B.out)).mono ?_
          rintro e w13 ⟨rfl, k⟩
          go_wp2
          go_ret
          exact ⟨ret_b rfl, bstep B.out k⟩
      · have e10 : (x1 == x2) = false := beq_eq_false_iff_ne.2 c0
        clear c0
        have HV : Hid (letP (stR 7) A T = false) := Lib.hid (by rw [HL.out, e10]; try rfl)
        go_wp2_with fail
        refine (lets_to (stR 7) _ _ _ _ _ _ _ _ _ A T false _ (HA.out.stays B.out) (by decide) (by decide) (stR_lis 7 _) (stR_small 7) stR_nth (by have := AB.out; omega) (by have := AB.out; omega) (by have := AB.out; omega) (by have := AB.out; omega) HV).mono ?_
        rintro e w12 ⟨rfl, k⟩
        have B := Lib.hid (bstep B.out k)
        clear k
        go_wp2_with fail
        refine (wakes22_any _ (HA.out.stays B.out)).mono ?_
        rintro e w13 ⟨rfl, k⟩
        go_wp2
        go_ret
        exact ⟨ret_b rfl, bstep B.out k⟩
  · have e2 : (T0.tmod 2 == 0) = false := beq_eq_false_iff_ne.2 h2
    have MT := Lib.hid (show moO T0 = true by rw [← V2.out]; exact vsm_mo t)
    obtain ⟨tc1, tc2⟩ := And.intro tb1 tb2
    clear tb1 tb2
    obtain ⟨d1, hd1⟩ : ∃ d, A / 86400 = d := ⟨_, rfl⟩
    obtain ⟨x1, hx1⟩ : ∃ d, A % 86400 = d := ⟨_, rfl⟩
    obtain ⟨d2, hd2⟩ : ∃ d, T0 / 86400 = d := ⟨_, rfl⟩
    obtain ⟨x2, hx2⟩ : ∃ d, T0 % 86400 = d := ⟨_, rfl⟩
    have xb1 : 0 ≤ x1 := by omega
    have xb2 : 0 ≤ x2 := by omega
    have E1 := (mo_bd MA.out).2.2.1
    have E2 := (mo_bd MT.out).2.2.1
    rw [hd1] at E1
    rw [hd2] at E2
    obtain ⟨Y1, hY1⟩ : ∃ d, dY d1 = d := ⟨_, rfl⟩
    obtain ⟨M1, hM1⟩ : ∃ d, dM d1 = d := ⟨_, rfl⟩
    obtain ⟨D1, hD1⟩ : ∃ d, dD d1 = d := ⟨_, rfl⟩
    obtain ⟨W1, hW1⟩ : ∃ d, Cal.wday d1 = d := ⟨_, rfl⟩
    obtain ⟨Y2, hY2⟩ : ∃ d, dY d2 = d := ⟨_, rfl⟩
    obtain ⟨M2, hM2⟩ : ∃ d, dM d2 = d := ⟨_, rfl⟩
    obtain ⟨D2, hD2⟩ : ∃ d, dD d2 = d := ⟨_, rfl⟩
    obtain ⟨W2, hW2⟩ : ∃ d, Cal.wday d2 = d := ⟨_, rfl⟩
    have HL := Lib.hid (st_all fb MA.out MT.out)
    rw [hd1, hx1, hd2, hx2, hM1, hD1, hW1, hM2, hD2, hW2] at HL
    have X1 := Lib.hid (And.intro hd1 hx1)
    have X2 := Lib.hid (And.intro hd2 hx2)
    have P1 := Lib.hid (And.intro hY1 (And.intro hM1 (And.intro hD1 E1)))
    have P2 := Lib.hid (And.intro hY2 (And.intro hM2 (And.intro hD2 E2)))
    have PW := Lib.hid (And.intro hW1 hW2)
    have AB := Lib.hid (And.intro (And.intro ab1 ab2) (And.intro tc1 tc2))
    clear hd1 hx1 hd2 hx2 hY1 hM1 hD1 hW1 hY2 hM2 hD2 hW2 E1 E2 ab1 ab2 tc1 tc2
    go_upto_region 7 with fail
    go_cut [11, 12] (fun a b wz => a = .int .i64 d1 ∧ b = .int .i64 x1 ∧ Hid (Below w.heap.size w wz))
    case first =>
      go_wp2_with fail
      refine (Civ.rdiv_any A 86400 _ (by decide) (by decide) (by have := AB.out; omega) (by have := AB.out; omega)).mono ?_
      rintro e w3 ⟨rfl, n, rfl⟩
      rw [X1.out.1, X1.out.2]
      go_wp2
      go_meet
      exact ⟨rfl, rfl, Lib.hid (bdrew B.out n)⟩
    case rest =>
    obtain ⟨w5, rfl⟩ : ∃ x : World, x = wc := ⟨_, rfl⟩
    clear B
    obtain ⟨rfl, rfl, B⟩ := hcut
    go_upto_region 8 with fail
    go_cut [13, 14] (fun a b wz => a = .int .i64 d2 ∧ b = .int .i64 x2 ∧ Hid (Below w.heap.size w wz))
    case first =>
      go_wp2_with fail
      refine (Civ.rdiv_any T0 86400 _ (by decide) (by decide) (by have := AB.out; omega) (by have := AB.out; omega)).mono ?_
      rintro e w3 ⟨rfl, n, rfl⟩
      rw [X2.out.1, X2.out.2]
      go_wp2
      go_meet
      exact ⟨rfl, rfl, Lib.hid (bdrew B.out n)⟩
    case rest =>
    obtain ⟨w6, rfl⟩ : ∃ x : World, x = wc := ⟨_, rfl⟩
    clear B
    obtain ⟨rfl, rfl, B⟩ := hcut
    go_upto_region 9 with fail
    go_cut [15, 16] (fun a b wz => ∃ g, a = .pointer (some ⟨g, 0, none⟩) ∧ b = .int .i64 0 ∧ Hid (Cs g wz [.int .i64 Y1, .int .i64 M1, .int .i64 D1]) ∧ Hid (Below w.heap.size w wz))
    case first =>
      go_wp2_with fail
      refine (Civ.date_w d1 _ (HA.out.stays B.out)).mono ?_
      rintro e w7 ⟨rfl, hw⟩
      have k : Below w6.heap.size w6 w7 := by rw [← hw]; exact (Below.refl _ _).alloc (Nat.le_refl _) _
      have B := Lib.hid (bstep B.out k)
      clear hw k
      rw [P1.out.1, P1.out.2.1, P1.out.2.2.1, P1.out.2.2.2]
      go_wp2
      go_meet
      exact ⟨_, rfl, rfl, Lib.hid (Cs.new w7 [.int .i64 Y1, .int .i64 M1, .int .i64 D1] _), Lib.hid (B.out.alloc B.out.size _)⟩
    case rest =>
    obtain ⟨w8, rfl⟩ : ∃ x : World, x = wc := ⟨_, rfl⟩
    clear B
    obtain ⟨g1, rfl, rfl, C1, B⟩ := hcut
    go_upto_region 10 with fail
    go_cut [17, 18] (fun a b wz => ∃ g, a = .pointer (some ⟨g, 0, none⟩) ∧ b = .int .i64 0 ∧ Hid (Cs g wz [.int .i64 Y2, .int .i64 M2, .int .i64 D2]) ∧ Hid (Cs g1 wz [.int .i64 Y1, .int .i64 M1, .int .i64 D1]) ∧ Hid (Below w.heap.size w wz))
    case first =>
      go_wp2_with fail
      refine (Civ.date_w d2 _ (HA.out.stays B.out)).mono ?_
      rintro e w9 ⟨rfl, hw⟩
      have k : Below w8.heap.size w8 w9 := by rw [← hw]; exact (Below.refl _ _).alloc (Nat.le_refl _) _
      have C1 := Lib.hid (C1.out.below k)
      have B := Lib.hid (bstep B.out k)
      clear hw k
      rw [P2.out.1, P2.out.2.1, P2.out.2.2.1, P2.out.2.2.2]
      go_wp2
      go_meet
      exact ⟨_, rfl, rfl, Lib.hid (Cs.new w9 [.int .i64 Y2, .int .i64 M2, .int .i64 D2] _), Lib.hid (C1.out.alloc _), Lib.hid (B.out.alloc B.out.size _)⟩
    case rest =>
    obtain ⟨w10, rfl⟩ : ∃ x : World, x = wc := ⟨_, rfl⟩
    clear B C1
    obtain ⟨g2, rfl, rfl, C2, C1, B⟩ := hcut
    have r60 : x1.tmod 60 = x1 % 60 := Int.tmod_eq_emod_of_nonneg xb1
    have s60 : x2.tmod 60 = x2 % 60 := Int.tmod_eq_emod_of_nonneg xb2
    have r36 : x1.tmod 3600 = x1 % 3600 := Int.tmod_eq_emod_of_nonneg xb1
    have s36 : x2.tmod 3600 = x2 % 3600 := Int.tmod_eq_emod_of_nonneg xb2
    have y11 := (C1.out.2 1 _ rfl).1
    have y12 := (C1.out.2 2 _ rfl).1
    have y21 := (C2.out.2 1 _ rfl).1
    have y22 := (C2.out.2 2 _ rfl).1
    have hq : F = 1 ∨ F = 2 ∨ F = 3 ∨ F = 4 ∨ F = 5 ∨ F = 6 ∨ F = 7 := by omega
    clear fb C1 C2 X1 X2 P1 P2
    rcases hq with rfl | rfl | rfl | rfl | rfl | rfl | rfl
    · have HL : Hid (letP (stR 1) A T0 = true) := Lib.hid (by rw [HL.out]; rfl)
      have HV : Hid (letP (stR 1) A T0 = true) := Lib.hid (by rw [HL.out]; try rfl)
      go_wp2_with fail
      refine (lets_to (stR 1) _ _ _ _ _ _ _ _ _ A T0 true _ (HA.out.stays B.out) (by decide) (by decide) (stR_lis 1 _) (stR_small 1) stR_nth (by have := AB.out; omega) (by have := AB.out; omega) (by have := AB.out; omega) (by have := AB.out; omega) HV).mono ?_
      rintro e w12 ⟨rfl, k⟩
      have B := Lib.hid (bstep B.out k)
      clear k
      go_wp2_with fail
      refine (wakes22_any _ (HA.out.stays B.out)).mono ?_
      rintro e w13 ⟨rfl, k⟩
      go_wp2
      go_ret
      exact ⟨ret_b rfl, bstep B.out k⟩
    · have HL : Hid (letP (stR 2) A T0 = (x1 % 60 == x2 % 60)) := Lib.hid (by rw [HL.out]; rfl)
      by_cases c0 : x1 % 60 = x2 % 60
      · have e10 : (x1 % 60 == x2 % 60) = true := beq_iff_eq.2 c0
        clear c0
        have HV : Hid (letP (stR 2) A T0 = true) := Lib.hid (by rw [HL.out, e10]; try rfl)
        go_wp2_with fail
        refine (lets_to (stR 2) _ _ _ _ _ _ _ _ _ A T0 true _ (HA.out.stays B.out) (by decide) (by decide) (stR_lis 2 _) (stR_small 2) stR_nth (by have := AB.out; omega) (by have := AB.out; omega) (by have := AB.out; omega) (by have := AB.out; omega) HV).mono ?_
        rintro e w12 ⟨rfl, k⟩
        have B := Lib.hid (bstep B.out k)
        clear k
        go_wp2_with fail
        refine (wakes22_any _ (HA.out.stays B.out)).mono ?_
        rintro e w13 ⟨rfl, k⟩
        go_wp2
        go_ret
        exact ⟨ret_b rfl, bstep B.out k⟩
      · have e10 : (x1 % 60 == x2 % 60) = false := beq_eq_false_iff_ne.2 c0
        clear c0
        have HV : Hid (letP (stR 2) A T0 = false) := Lib.hid (by rw [HL.out, e10]; try rfl)
        go_wp2_with fail
        refine (lets_to (stR 2) _ _ _ _ _ _ _ _ _ A T0 false _ (HA.out.stays B.out) (by decide) (by decide) (stR_lis 2 _) (stR_small 2) stR_nth (by have := AB.out; omega) (by have := AB.out; omega) (by have := AB.out; omega) (by have := AB.out; omega) HV).mono ?_
        rintro e w12 ⟨rfl, k⟩
        have B := Lib.hid (bstep B.out k)
        clear k
        go_wp2_with fail
        refine (wakes22_any _ (HA.out.stays B.out)).mono ?_
        rintro e w13 ⟨rfl, k⟩
        go_wp2
        go_ret
        exact ⟨ret_b rfl, bstep B.out k⟩
    · have HL : Hid (letP (stR 3) A T0 = (x1 % 3600 == x2 % 3600)) := Lib.hid (by rw [HL.out]; rfl)
      by_cases c0 : x1 % 3600 = x2 % 3600
      · have e10 : (x1 % 3600 == x2 % 3600) = true := beq_iff_eq.2 c0
        clear c0
        have HV : Hid (letP (stR 3) A T0 = true) := Lib.hid (by rw [HL.out, e10]; try rfl)
        go_wp2_with fail
        refine (lets_to (stR 3) _ _ _ _ _ _ _ _ _ A T0 true _ (HA.out.stays B.out) (by decide) (by decide) (stR_lis 3 _) (stR_small 3) stR_nth (by have := AB.out; omega) (by have := AB.out; omega) (by have := AB.out; omega) (by have := AB.out; omega) HV).mono ?_
        rintro e w12 ⟨rfl, k⟩
        have B := Lib.hid (bstep B.out k)
        clear k
        go_wp2_with fail
        refine (wakes22_any _ (HA.out.stays B.out)).mono ?_
        rintro e w13 ⟨rfl, k⟩
        go_wp2
        go_ret
        exact ⟨ret_b rfl, bstep B.out k⟩
      · have e10 : (x1 % 3600 == x2 % 3600) = false := beq_eq_false_iff_ne.2 c0
        clear c0
        have HV : Hid (letP (stR 3) A T0 = false) := Lib.hid (by rw [HL.out, e10]; try rfl)
        go_wp2_with fail
        refine (lets_to (stR 3) _ _ _ _ _ _ _ _ _ A T0 false _ (HA.out.stays B.out) (by decide) (by decide) (stR_lis 3 _) (stR_small 3) stR_nth (by have := AB.out; omega) (by have := AB.out; omega) (by have := AB.out; omega) (by have := AB.out; omega) HV).mono ?_
        rintro e w12 ⟨rfl, k⟩
        have B := Lib.hid (bstep B.out k)
        clear k
        go_wp2_with fail
        refine (wakes22_any _ (HA.out.stays B.out)).mono ?_
        rintro e w13 ⟨rfl, k⟩
        go_wp2
        go_ret
        exact ⟨ret_b rfl, bstep B.out k⟩
    · have HL : Hid (letP (stR 4) A T0 = (x1 == x2)) := Lib.hid (by rw [HL.out]; rfl)
      by_cases c0 : x1 = x2
      · have e10 : (x1 == x2) = true := beq_iff_eq.2 c0
        clear c0
        have HV : Hid (letP (stR 4) A T0 = true) := Lib.hid (by rw [HL.out, e10]; try rfl)
        go_wp2_with fail
        refine (lets_to (stR 4) _ _ _ _ _ _ _ _ _ A T0 true _ (HA.out.stays B.out) (by decide) (by decide) (stR_lis 4 _) (stR_small 4) stR_nth (by have := AB.out; omega) (by have := AB.out; omega) (by have := AB.out; omega) (by have := AB.out; omega) HV).mono ?_
        rintro e w12 ⟨rfl, k⟩
        have B := Lib.hid (bstep B.out k)
        clear k
        go_wp2_with fail
        refine (wakes22_any _ (HA.out.stays B.out)).mono ?_
        rintro e w13 ⟨rfl, k⟩
        go_wp2
        go_ret
        exact ⟨ret_b rfl, bstep B.out k⟩
      · have e10 : (x1 == x2) = false := beq_eq_false_iff_ne.2 c0
        clear c0
        have HV : Hid (letP (stR 4) A T0 = false) := Lib.hid (by rw [HL.out, e10]; try rfl)
        go_wp2_with fail
        refine (lets_to (stR 4) _ _ _ _ _ _ _ _ _ A T0 false _ (HA.out.stays B.out) (by decide) (by decide) (stR_lis 4 _) (stR_small 4) stR_nth (by have := AB.out; omega) (by have := AB.out; omega) (by have := AB.out; omega) (by have := AB.out; omega) HV).mono ?_
        rintro e w12 ⟨rfl, k⟩
        have B := Lib.hid (bstep B.out k)
        clear k
        go_wp2_with fail
        refine (wakes22_any _ (HA.out.stays B.out)).mono ?_
        rintro e w13 ⟨rfl, k⟩
        go_wp2
        go_ret
        exact ⟨ret_b rfl, bstep B.out k⟩
    · have HL : Hid (letP (stR 5) A T0 = ((x1 == x2) && (W1 == W2))) := Lib.hid (by rw [HL.out]; rfl)
      by_cases c0 : x1 = x2
      · have e10 : (x1 == x2) = true := beq_iff_eq.2 c0
        clear c0
        by_cases c1 : W1 = W2
        · have e11 : (W1 == W2) = true := beq_iff_eq.2 c1
          clear c1
          have HV : Hid (letP (stR 5) A T0 = true) := Lib.hid (by rw [HL.out, e10, e11]; try rfl)
          go_wp2_with fail
          refine (Civ.weekday_any d1 _).mono ?_
          rintro e w11 ⟨rfl, rfl⟩
          rw [PW.out.1]
          go_wp2_with fail
          refine (Civ.weekday_any d2 _).mono ?_
          rintro e w11 ⟨rfl, rfl⟩
          rw [PW.out.2]
          go_wp2_with fail
          refine (lets_to (stR 5) _ _ _ _ _ _ _ _ _ A T0 true _ (HA.out.stays B.out) (by decide) (by decide) (stR_lis 5 _) (stR_small 5) stR_nth (by have := AB.out; omega) (by have := AB.out; omega) (by have := AB.out; omega) (by have := AB.out; omega) HV).mono ?_
          rintro e w12 ⟨rfl, k⟩
          have B := Lib.hid (bstep B.out k)
          clear k
          go_wp2_with fail
          refine (wakes22_any _ (HA.out.stays B.out)).mono ?_
          rintro e w13 ⟨rfl, k⟩
          go_wp2
          go_ret
          exact ⟨ret_b rfl, bstep B.out k⟩
        · have e11 : (W1 == W2) = false := beq_eq_false_iff_ne.2 c1
          clear c1
          have HV : Hid (letP (stR 5) A T0 = false) := Lib.hid (by rw [HL.out, e10, e11]; try rfl)
          go_wp2_with fail
          refine (Civ.weekday_any d1 _).mono ?_
          rintro e w11 ⟨rfl, rfl⟩
          rw [PW.out.1]
          go_wp2_with fail
          refine (Civ.weekday_any d2 _).mono ?_
          rintro e w11 ⟨rfl, rfl⟩
          rw [PW.out.2]
          go_wp2_with fail
          refine (lets_to (stR 5) _ _ _ _ _ _ _ _ _ A T0 false _ (HA.out.stays B.out) (by decide) (by decide) (stR_lis 5 _) (stR_small 5) stR_nth (by have := AB.out; omega) (by have := AB.out; omega) (by have := AB.out; omega) (by have := AB.out; omega) HV).mono ?_
          rintro e w12 ⟨rfl, k⟩
          have B := Lib.hid (bstep B.out k)
          clear k
          go_wp2_with fail
          refine (wakes22_any _ (HA.out.stays B.out)).mono ?_
          rintro e w13 ⟨rfl, k⟩
          go_wp2
          go_ret
          exact ⟨ret_b rfl, bstep B.out k⟩
      · have e10 : (x1 == x2) = false := beq_eq_false_iff_ne.2 c0
        clear c0
        have HV : Hid (letP (stR 5) A T0 = false) := Lib.hid (by rw [HL.out, e10]; try rfl)
        go_wp2_with fail
        refine (lets_to (stR 5) _ _ _ _ _ _ _ _ _ A T0 false _ (HA.out.stays B.out) (by decide) (by decide) (stR_lis 5 _) (stR_small 5) stR_nth (by have := AB.out; omega) (by have := AB.out; omega) (by have := AB.out; omega) (by have := AB.out; omega) HV).mono ?_
        rintro e w12 ⟨rfl, k⟩
        have B := Lib.hid (bstep B.out k)
        clear k
        go_wp2_with fail
        refine (wakes22_any _ (HA.out.stays B.out)).mono ?_
        rintro e w13 ⟨rfl, k⟩
        go_wp2
        go_ret
        exact ⟨ret_b rfl, bstep B.out k⟩
    · have HL : Hid (letP (stR 6) A T0 = ((x1 == x2) && (D1 == D2))) := Lib.hid (by rw [HL.out]; rfl)
      by_cases c0 : x1 = x2
      · have e10 : (x1 == x2) = true := beq_iff_eq.2 c0
        clear c0
        by_cases c1 : D1 = D2
        · have e11 : (D1 == D2) = true := beq_iff_eq.2 c1
          clear c1
          have HV : Hid (letP (stR 6) A T0 = true) := Lib.hid (by rw [HL.out, e10, e11]; try rfl)
          go_wp2_with fail
          refine (lets_to (stR 6) _ _ _ _ _ _ _ _ _ A T0 true _ (HA.out.stays B.out) (by decide) (by decide) (stR_lis 6 _) (stR_small 6) stR_nth (by have := AB.out; omega) (by have := AB.out; omega) (by have := AB.out; omega) (by have := AB.out; omega) HV).mono ?_
          rintro e w12 ⟨rfl, k⟩
          have B := Lib.hid (bstep B.out k)
          clear k
          go_wp2_with fail
          refine (wakes22_any _ (HA.out.stays B.out)).mono ?_
          rintro e w13 ⟨rfl, k⟩
          go_wp2
          go_ret
          exact ⟨ret_b rfl, bstep B.out k⟩
        · have e11 : (D1 == D2) = false := beq_eq_false_iff_ne.2 c1
          clear c1
          have HV : Hid (letP (stR 6) A T0 = false) := Lib.hid (by rw [HL.out, e10, e11]; try rfl)
          go_wp2_with fail
          refine (lets_to (stR 6) _ _ _ _ _ _ _ _ _ A T0 false _ (HA.out.stays B.out) (by decide) (by decide) (stR_lis 6 _) (stR_small 6) stR_nth (by have := AB.out; omega) (by have := AB.out; omega) (by have := AB.out; omega) (by have := AB.out; omega) HV).mono ?_
          rintro e w12 ⟨rfl, k⟩
          have B := Lib.hid (bstep B.out k)
          clear k
          go_wp2_with fail
          refine (wakes22_any _ (HA.out.stays B.out)).mono ?_
          rintro e w13 ⟨rfl, k⟩
          go_wp2
          go_ret
          exact ⟨ret_b rfl, bstep B.out k⟩
      · have e10 : (x1 == x2) = false := beq_eq_false_iff_ne.2 c0
        clear c0
        have HV : Hid (letP (stR 6) A T0 = false) := Lib.hid (by rw [HL.out, e10]; try rfl)
        go_wp2_with fail
        refine (lets_to (stR 6) _ _ _ _ _ _ _ _ _ A T0 false _ (HA.out.stays B.out) (by decide) (by decide) (stR_lis 6 _) (stR_small 6) stR_nth (by have := AB.out; omega) (by have := AB.out; omega) (by have := AB.out; omega) (by have := AB.out; omega) HV).mono ?_
        rintro e w12 ⟨rfl, k⟩
        have B := Lib.hid (bstep B.out k)
        clear k
        go_wp2_with fail
        refine (wakes22_any _ (HA.out.stays B.out)).mono ?_
        rintro e w13 ⟨rfl, k⟩
        go_wp2
        go_ret
        exact ⟨ret_b rfl, bstep B.out k⟩
    · have HL : Hid (letP (stR 7) A T0 = ((x1 == x2) && ((D1 == D2) && (M1 == M2)))) := Lib.hid (by rw [HL.out]; rfl)
      by_cases c0 : x1 = x2
      · have e10 : (x1 == x2) = true := beq_iff_eq.2 c0
        clear c0
        by_cases c1 : D1 = D2
        · have e11 : (D1 == D2) = true := beq_iff_eq.2 c1
          clear c1
          by_cases c2 : M1 = M2
          · have e12 : (M1 == M2) = true := beq_iff_eq.2 c2
            clear c2
            have HV : Hid (letP (stR 7) A T0 = true) := Lib.hid (by rw [HL.out, e10, e11, e12]; try rfl)
            go_wp2_with fail
            refine (lets_to (stR 7) _ _ _ _ _ _ _ _ _ A T0 true _ (HA.out.stays B.out) (by decide) (by decide) (stR_lis 7 _) (stR_small 7) stR_nth (by have := AB.out; omega) (by have := AB.out; omega) (by have := AB.out; omega) (by have := AB.out; omega) HV).mono ?_
            rintro e w12 ⟨rfl, k⟩
            have B := Lib.hid (bstep B.out k)
            clear k
            go_wp2_with fail
            refine (wakes22_any _ (HA.out.stays B.out)).mono ?_
            rintro e w13 ⟨rfl, k⟩
            go_wp2
            go_ret
            exact ⟨ret_b rfl, bstep B.out k⟩
          · have e12 : (M1 == M2) = false := beq_eq_false_iff_ne.2 c2
            clear c2
            have HV : Hid (letP (stR 7) A T0 = false) := Lib.hid (by rw [HL.out, e10, e11, e12]; try rfl)
            go_wp2_with fail
            refine (lets_to (stR 7) _ _ _ _ _ _ _ _ _ A T0 false _ (HA.out.stays B.out) (by decide) (by decide) (stR_lis 7 _) (stR_small 7) stR_nth (by have := AB.out; omega) (by have := AB.out; omega) (by have := AB.out; omega) (by have := AB.out; omega) HV).mono ?_
            rintro e w12 ⟨rfl, k⟩
            have B := Lib.hid (bstep B.out k)
            clear k
            go_wp2_with fail
            refine (wakes22_any _ (HA.out.stays B.out)).mono ?_
            rintro e w13 ⟨rfl, k⟩
            go_wp2
            go_ret
            exact ⟨ret_b rfl, bstep B.out k⟩
        · have e11 : (D1 == D2) = false := beq_eq_false_iff_ne.2 c1
          clear c1
          have HV : Hid (letP (stR 7) A T0 = false) := Lib.hid (by rw [HL.out, e10, e11]; try rfl)
          go_wp2_with fail
          refine (lets_to (stR 7) _ _ _ _ _ _ _ _ _ A T0 false _ (HA.out.stays B.out) (by decide) (by decide) (stR_lis 7 _) (stR_small 7) stR_nth (by have := AB.out; omega) (by have := AB.out; omega) (by have := AB.out; omega) (by have := AB.out; omega) HV).mono ?_
          rintro e w12 ⟨rfl, k⟩
          have B := Lib.hid (bstep B.out k)
          clear k
          go_wp2_with fail
          refine (wakes22_any _ (HA.out.stays B.out)).mono ?_
          rintro e w13 ⟨rfl, k⟩
          go_wp2
          go_ret
          exact ⟨ret_b rfl, bstep B.out k⟩
      · have e10 : (x1 == x2) = false := beq_eq_false_iff_ne.2 c0
        clear c0
        have HV : Hid (letP (stR 7) A T0 = false) := Lib.hid (by rw [HL.out, e10]; try rfl)
        go_wp2_with fail
        refine (lets_to (stR 7) _ _ _ _ _ _ _ _ _ A T0 false _ (HA.out.stays B.out) (by decide) (by decide) (stR_lis 7 _) (stR_small 7) stR_nth (by have := AB.out; omega) (by have := AB.out; omega) (by have := AB.out; omega) (by have := AB.out; omega) HV).mono ?_
        rintro e w12 ⟨rfl, k⟩
        have B := Lib.hid (bstep B.out k)
        clear k
        go_wp2_with fail
        refine (wakes22_any _ (HA.out.stays B.out)).mono ?_
        rintro e w13 ⟨rfl, k⟩
        go_wp2
        go_ret
        exact ⟨ret_b rfl, bstep B.out k⟩

end Fil
end Go.Proofs.YtpcmfgfhdnfmcaaDoor
