/-
  CivilBack: the law answers true at every six integers, in whatever world that holds the table of the months.
-/
import Derived.Test.YtopclopmgnkoeaaDoorDays
import Derived.Deep.DeepCutAuto
namespace Go.Proofs.YtopclopmgnkoeaaDoor
open Go.RowKit
namespace Civ
theorem lex_lt {Y M D Y2 M2 D2 : Int} (m1 : 1 ≤ M) (m2 : M ≤ 12) (_d1 : 1 ≤ D) (d2 : D ≤ Cal.mlen Y M) (n1 : 1 ≤ M2) (n2 : M2 ≤ 12) (e1 : 1 ≤ D2) (_e2 : D2 ≤ Cal.mlen Y2 M2)
    (h : Y < Y2 ∨ (Y = Y2 ∧ (M < M2 ∨ (M = M2 ∧ D < D2)))) : Cal.num Y M D < Cal.num Y2 M2 D2 := by
  obtain ⟨c1, c2⟩ := Cal.cum_bd (y := Y) m1 m2
  obtain ⟨c3, c4⟩ := Cal.cum_bd (y := Y2) n1 n2
  have l := Cal.lp_01 Y
  have s := Cal.ny_succ Y
  rcases h with h | ⟨rfl, h | ⟨rfl, h⟩⟩
  · have := Cal.ny_mono (a := Y + 1) (b := Y2) (by omega)
    unfold Cal.num; omega
  · have := Cal.cum_mono (y := Y) m1 h n2
    unfold Cal.num; omega
  · unfold Cal.num; omega
theorem date_back {Y M D : Int} (h0 : 0 ≤ Y) (h1 : Y ≤ 10000) (m1 : 1 ≤ M) (m2 : M ≤ 12) (d1 : 1 ≤ D) (d2 : D ≤ Cal.mlen Y M) :
    dnE (Cal.num Y M D) = 0 ∧ dY (Cal.num Y M D) = Y ∧ dM (Cal.num Y M D) = M ∧ dD (Cal.num Y M D) = D := by
  obtain ⟨_, _, a3, a4, a5, a6⟩ := num_bd h0 h1 m1 m2 d1 d2
  have hy := Cal.yr_of a3 a4 a5 a6
  obtain ⟨b1, b2, b3⟩ := dd_yes (n := Cal.num Y M D) ⟨a5, a6⟩
  rw [hy] at b1 b2 b3
  have hr : Cal.num Y M D - Cal.ny Y = Cal.cum Y M + D - 1 := by unfold Cal.num; omega
  have hm : Cal.mon Y (Cal.num Y M D - Cal.ny Y) = M := Cal.mon_of m1 m2 (by omega) (by omega)
  rw [hm] at b2 b3
  exact ⟨(dn_yes ⟨a5, a6⟩).1, b1, b2, by rw [b3]; omega⟩
theorem nx_day {Y M D : Int} : Cal.num Y M (D + 1) = Cal.num Y M D + 1 := by unfold Cal.num; omega
theorem nx_mon {Y M D : Int} (m1 : 1 ≤ M) (m2 : M ≤ 11) (h : D = Cal.mlen Y M) : Cal.num Y (M + 1) 1 = Cal.num Y M D + 1 := by
  have := Cal.cum_succ (y := Y) m1 m2
  unfold Cal.num; omega
theorem nx_year {Y D : Int} (h : D = Cal.mlen Y 12) : Cal.num (Y + 1) 1 1 = Cal.num Y 12 D + 1 := by
  have := Cal.ny_succ Y
  have := Cal.cum_12 Y
  have := Cal.cum_1 (Y + 1)
  unfold Cal.num; omega

/-- What the first 'if' leaves: the next date's month and day, its cells. -/
def NX1 (Y M D : Int) (w1 w2 wx : World) : Prop := ∃ M' D' : Int, ((M' = M ∧ D' = D + 1 ∧ D + 1 ≤ Cal.mlen Y M) ∨ (M' = M + 1 ∧ D' = 1 ∧ D = Cal.mlen Y M)) ∧
  wx.cell? ⟨w2.heap.size + 1, 0, none⟩ = some (.int .i64 Y) ∧ wx.cell? ⟨w2.heap.size + 1, 1, none⟩ = some (.int .i64 M') ∧ wx.cell? ⟨w2.heap.size + 1, 2, none⟩ = some (.int .i64 D') ∧
  wx.frozen? ⟨w2.heap.size + 1, 0, none⟩ = false ∧ wx.frozen? ⟨w2.heap.size + 1, 1, none⟩ = false ∧ wx.frozen? ⟨w2.heap.size + 1, 2, none⟩ = false ∧
  Below w1.heap.size w1 wx ∧ w2.heap.size + 1 < wx.heap.size

/-- What the second 'if' leaves: the next date, or the year behind the last one. -/
def NX2 (n : Int) (w1 w2 wx : World) : Prop := ∃ Y' M' D' : Int, ((Y' = 10001) ∨ (Y' ≤ 10000 ∧ numE Y' M' D' = 0 ∧ numV Y' M' D' = n + 1)) ∧ (1 ≤ D' ∧ D' ≤ 31) ∧
  wx.cell? ⟨w2.heap.size + 1, 0, none⟩ = some (.int .i64 Y') ∧ wx.cell? ⟨w2.heap.size + 1, 1, none⟩ = some (.int .i64 M') ∧ wx.cell? ⟨w2.heap.size + 1, 2, none⟩ = some (.int .i64 D') ∧
  Below w1.heap.size w1 wx ∧ w2.heap.size + 1 < wx.heap.size
theorem nx_in {Y M D n M' D' : Int} (h0 : 0 ≤ Y) (h1 : Y ≤ 10000) (m1 : 1 ≤ M) (m2 : M ≤ 12) (d1 : 1 ≤ D) (hn : Cal.num Y M D = n) (hr : (M' = M ∧ D' = D + 1 ∧ D + 1 ≤ Cal.mlen Y M) ∨ (M' = M + 1 ∧ D' = 1 ∧ D = Cal.mlen Y M)) (hm : M' ≤ 12) :
    numE Y M' D' = 0 ∧ numV Y M' D' = n + 1 ∧ 1 ≤ D' ∧ D' ≤ 31 := by
  rcases hr with ⟨rfl, rfl, h⟩ | ⟨rfl, rfl, h⟩
  · obtain ⟨a, b, _⟩ := num_bd h0 h1 m1 m2 (D := D + 1) (by omega) h
    have := Cal.mlen_bd Y M'
    exact ⟨a, by rw [b, nx_day, hn], by omega, by omega⟩
  · have l := Cal.mlen_28 (y := Y) (m := M + 1) (by omega) hm
    obtain ⟨a, b, _⟩ := num_bd h0 h1 (M := M + 1) (D := 1) (by omega) hm (by omega) (by omega)
    exact ⟨a, by rw [b, nx_mon m1 (by omega) h, hn], by omega, by omega⟩
theorem nx_out {Y M D n M' D' : Int} (h0 : 0 ≤ Y) (h1 : Y ≤ 10000) (m2 : M ≤ 12) (hn : Cal.num Y M D = n) (hr : (M' = M ∧ D' = D + 1 ∧ D + 1 ≤ Cal.mlen Y M) ∨ (M' = M + 1 ∧ D' = 1 ∧ D = Cal.mlen Y M)) (hm : ¬ M' ≤ 12) :
    D' = 1 ∧ ((Y + 1 = 10001) ∨ (Y + 1 ≤ 10000 ∧ numE (Y + 1) 1 1 = 0 ∧ numV (Y + 1) 1 1 = n + 1)) := by
  rcases hr with ⟨rfl, rfl, h⟩ | ⟨rfl, rfl, h⟩
  · omega
  · obtain rfl : M = 12 := by omega
    refine ⟨rfl, ?_⟩
    by_cases hy : Y + 1 ≤ 10000
    · have l := Cal.mlen_28 (y := Y + 1) (m := 1) (by omega) (by omega)
      obtain ⟨a, b, _⟩ := num_bd (Y := Y + 1) (M := 1) (D := 1) (by omega) hy (by omega) (by omega) (by omega) (by omega)
      exact Or.inr ⟨hy, a, by rw [b, nx_year h, hn]⟩
    · exact Or.inl (by omega)

set_option maxRecDepth 100000 in
set_option maxHeartbeats 6400000 in
theorem cback_any (y m d y2 m2 d2 : Int) (w : World) (hA : Ahead w) :
    Calls Tryd.prog 8 #[.int .i64 y, .int .i64 m, .int .i64 d, .int .i64 y2, .int .i64 m2, .int .i64 d2] w fun e w' => e = .returned (.bool true) ∧ Below w.heap.size w w' := by
  have HA := Lib.hid hA
  clear hA
  go_enter Tryd.func8, Tryd.ntmps8
  go_wp2_with fail
  refine (some_any _ _ _ _).mono ?_
  rintro e w0 ⟨rfl, hb0⟩
  go_wp2_with fail
  refine (some_any _ _ _ _).mono ?_
  rintro e w1 ⟨rfl, hb01⟩
  have hb1 := hb0.trans (hb01.mono hb0.size)
  obtain ⟨⟨y0, y1⟩, ⟨m0, m1⟩, d0, d1⟩ := some_bd y m d
  obtain ⟨⟨Y0, Y1⟩, ⟨M0, M1⟩, D0, D1⟩ := some_bd y2 m2 d2
  have HA1 := Lib.hid (HA.out.stays hb1)
  have dm := (Cal.mlen_bd (someY y) (someM m)).2
  have dm2 := (Cal.mlen_bd (someY y2) (someM m2)).2
  generalize someD y m d = D at *
  generalize someY y = Y at *
  generalize someM m = M at *
  generalize someD y2 m2 d2 = E at *
  generalize someY y2 = Z at *
  generalize someM m2 = N at *
  obtain ⟨a1, a2, _, _, a5, a6⟩ := num_bd y0 y1 m0 m1 d0 d1
  obtain ⟨b1, b2, _, _, b5, b6⟩ := num_bd Y0 Y1 M0 M1 D0 D1
  obtain ⟨e1, e2, e3, e4⟩ := date_back y0 y1 m0 m1 d0 d1
  have HL := Lib.hid (lex_lt (Y := Y) (Y2 := Z) m0 m1 d0 d1 M0 M1 D0 D1)
  have HG := Lib.hid (lex_lt (Y := Z) (Y2 := Y) M0 M1 D0 D1 m0 m1 d0 d1)
  obtain ⟨n, hn⟩ : ∃ n, Cal.num Y M D = n := ⟨_, rfl⟩
  obtain ⟨k, hk⟩ : ∃ n, Cal.num Z N E = n := ⟨_, rfl⟩
  rw [hn] at a2 a5 a6 e1 e2 e3 e4
  rw [hk] at b2 b5 b6
  have A1 := Lib.hid a1
  have A2 := Lib.hid a2
  have B1 := Lib.hid b1
  have B2 := Lib.hid b2
  have E1 := Lib.hid e1
  have E2 := Lib.hid e2
  have E3 := Lib.hid e3
  have E4 := Lib.hid e4
  have GN := Lib.hid hn
  have GK := Lib.hid hk
  clear a1 a2 b1 b2 e1 e2 e3 e4 hn hk
  go_wp2_with fail
  refine (number_w _ _ _ _ (HA1.out.stays (by repeat (first | exact Below.refl _ _ | refine Below.setCell ?_ (by simp) _ | refine below_drewN ?_ _ | refine Below.drew ?_ | refine Below.alloc ?_ (by first | omega | (simp; omega) | simp) _))) (by omega) (by omega)).mono ?_
  rintro e w2 ⟨rfl, q1, rfl⟩
  rw [A1.out, A2.out]
  go_wp2_with fail
  refine (number_w _ _ _ _ (HA1.out.stays (by repeat (first | exact Below.refl _ _ | refine Below.setCell ?_ (by simp) _ | refine below_drewN ?_ _ | refine Below.drew ?_ | refine Below.alloc ?_ (by first | omega | (simp; omega) | simp) _))) (by omega) (by omega)).mono ?_
  rintro e w2 ⟨rfl, q2, rfl⟩
  rw [B1.out, B2.out]
  go_wp2_with fail
  refine (date_w _ _ (HA1.out.stays (by repeat (first | exact Below.refl _ _ | refine Below.setCell ?_ (by simp) _ | refine below_drewN ?_ _ | refine Below.drew ?_ | refine Below.alloc ?_ (by first | omega | (simp; omega) | simp) _)))).mono ?_
  rintro e w2 ⟨rfl, hw2⟩
  rw [E1.out, E2.out, E3.out, E4.out] at *
  have hbw : Below w1.heap.size w1 w2 := by rw [← hw2]; repeat (first | exact Below.refl _ _ | refine Below.setCell ?_ (by simp) _ | refine below_drewN ?_ _ | refine Below.drew ?_ | refine Below.alloc ?_ (by first | omega | (simp; omega) | simp) _)
  have ca0 : w2.cell? ⟨w1.heap.size, 0, none⟩ = some (.int .i64 Y) := by rw [← hw2]; clear hw2; go_simp
  have ca1 : w2.cell? ⟨w1.heap.size, 1, none⟩ = some (.int .i64 M) := by rw [← hw2]; clear hw2; go_simp
  have ca2 : w2.cell? ⟨w1.heap.size, 2, none⟩ = some (.int .i64 D) := by rw [← hw2]; clear hw2; go_simp
  have cb0 : w2.cell? ⟨w1.heap.size + 1, 0, none⟩ = some (.int .i64 Z) := by rw [← hw2]; clear hw2; go_simp
  have cb1 : w2.cell? ⟨w1.heap.size + 1, 1, none⟩ = some (.int .i64 N) := by rw [← hw2]; clear hw2; go_simp
  have cb2 : w2.cell? ⟨w1.heap.size + 1, 2, none⟩ = some (.int .i64 E) := by rw [← hw2]; clear hw2; go_simp
  have hsz : w1.heap.size + 1 < w2.heap.size := by rw [← hw2]; simp
  clear hw2
  have hsz0 : w1.heap.size < w2.heap.size := by omega
  go_upto_region 7 with fail
  go_cut [21] (fun x wx => x = .bool (decide (k < n)) ∧ w2.alloc (Obj.cells #[.int .i64 Y, .int .i64 M, .int .i64 D] 40) = wx)
  case first =>
    have hcase : (Z < Y) ∨ (Y < Z) ∨ (Y = Z ∧ N < M) ∨ (Y = Z ∧ M < N) ∨ (Y = Z ∧ M = N ∧ E < D) ∨ (Y = Z ∧ M = N ∧ D ≤ E) := by omega
    rcases hcase with h | h | ⟨rfl, h⟩ | ⟨rfl, h⟩ | ⟨rfl, rfl, h⟩ | ⟨rfl, rfl, h⟩
    · have r : k < n := by have := HG.out (Or.inl h); have := GN.out; have := GK.out; omega
      go_wp2
      go_meet
      exact ⟨by simp; omega, rfl⟩
    · have r : ¬ k < n := by have := HL.out (Or.inl h); have := GN.out; have := GK.out; omega
      go_wp2
      go_meet
      exact ⟨by simp; omega, rfl⟩
    · have r : k < n := by have := HG.out (Or.inr ⟨rfl, Or.inl h⟩); have := GN.out; have := GK.out; omega
      go_wp2
      go_meet
      exact ⟨by simp; omega, rfl⟩
    · have r : ¬ k < n := by have := HL.out (Or.inr ⟨rfl, Or.inl h⟩); have := GN.out; have := GK.out; omega
      go_wp2
      go_meet
      exact ⟨by simp; omega, rfl⟩
    · have r : k < n := by have := HG.out (Or.inr ⟨rfl, Or.inr ⟨rfl, h⟩⟩); have := GN.out; have := GK.out; omega
      go_wp2
      go_meet
      exact ⟨by simp; omega, rfl⟩
    · have r : ¬ k < n := by
        have e1 := GN.out
        have e2 := GK.out
        rcases Int.lt_or_eq_of_le h with h' | h'
        · have := HL.out (Or.inr ⟨rfl, Or.inr ⟨rfl, h'⟩⟩); omega
        · rw [h'] at e1; omega
      go_wp2
      go_meet
      exact ⟨by simp; omega, rfl⟩
  case rest =>
    obtain ⟨rfl, hwc⟩ := hcut
    subst hwc
    obtain ⟨g, hg⟩ : ∃ g, decide (k < n) = g := ⟨_, rfl⟩
    rw [hg]
    have HT := Lib.hid hg
    clear hg
    go_upto_region 8 with fail
    go_cut [109] (fun x wx => x = .bool false ∧ w2.alloc (Obj.cells #[.int .i64 Y, .int .i64 M, .int .i64 D] 40) = wx)
    case first =>
      cases g with
      | true =>
        have r : k < n := of_decide_eq_true HT.out
        have hnk : ¬ n = k := by omega
        have hb : (n == k) = false := beq_eq_false_iff_ne.2 hnk
        have hcase : (Y ≠ Z) ∨ (Y = Z ∧ M ≠ N) ∨ (Y = Z ∧ M = N ∧ D ≠ E) := by
          by_cases c1 : Y = Z
          · by_cases c2 : M = N
            · by_cases c3 : D = E
              · subst c1 c2 c3; have e1 := GN.out; have e2 := GK.out; omega
              · exact Or.inr (Or.inr ⟨c1, c2, c3⟩)
            · exact Or.inr (Or.inl ⟨c1, c2⟩)
          · exact Or.inl c1
        clear hnk
        rcases hcase with h | ⟨rfl, h⟩ | ⟨rfl, rfl, h⟩
        · have hc : (Y == Z) = false := beq_eq_false_iff_ne.2 h
          clear h
          go_wp2
          all_goals (go_meet; exact ⟨by simp [*], rfl⟩)
        · have hc : (M == N) = false := beq_eq_false_iff_ne.2 h
          clear h
          go_wp2
          all_goals (go_meet; exact ⟨by simp [*], rfl⟩)
        · have hc : (D == E) = false := beq_eq_false_iff_ne.2 h
          clear h
          go_wp2
          all_goals (go_meet; exact ⟨by simp [*], rfl⟩)
      | false =>
        have r : ¬ k < n := of_decide_eq_false HT.out
        by_cases hnk : n = k
        · have heq : Y = Z ∧ M = N ∧ D = E := by
            have e1 := GN.out
            have e2 := GK.out
            have hcase : (Z < Y) ∨ (Y < Z) ∨ (Y = Z ∧ N < M) ∨ (Y = Z ∧ M < N) ∨ (Y = Z ∧ M = N ∧ E < D) ∨ (Y = Z ∧ M = N ∧ D < E) ∨ (Y = Z ∧ M = N ∧ D = E) := by omega
            rcases hcase with h | h | ⟨h0, h⟩ | ⟨h0, h⟩ | ⟨h0, h1, h⟩ | ⟨h0, h1, h⟩ | h
            · have := HG.out (Or.inl h); omega
            · have := HL.out (Or.inl h); omega
            · have := HG.out (Or.inr ⟨h0.symm, Or.inl h⟩); omega
            · have := HL.out (Or.inr ⟨h0, Or.inl h⟩); omega
            · have := HG.out (Or.inr ⟨h0.symm, Or.inr ⟨h1.symm, h⟩⟩); omega
            · have := HL.out (Or.inr ⟨h0, Or.inr ⟨h1, h⟩⟩); omega
            · exact h
          obtain ⟨rfl, rfl, rfl⟩ := heq
          subst hnk
          clear r
          go_wp2
          go_meet
          exact ⟨rfl, rfl⟩
        · have hb : (n == k) = false := beq_eq_false_iff_ne.2 hnk
          have hcase : (Y ≠ Z) ∨ (Y = Z ∧ M ≠ N) ∨ (Y = Z ∧ M = N ∧ D ≠ E) := by
            by_cases c1 : Y = Z
            · by_cases c2 : M = N
              · by_cases c3 : D = E
                · subst c1 c2 c3; have e1 := GN.out; have e2 := GK.out; omega
                · exact Or.inr (Or.inr ⟨c1, c2, c3⟩)
              · exact Or.inr (Or.inl ⟨c1, c2⟩)
            · exact Or.inl c1
          clear hnk
          rcases hcase with h | ⟨rfl, h⟩ | ⟨rfl, rfl, h⟩
          · have hc : (Y == Z) = false := beq_eq_false_iff_ne.2 h
            clear h
            go_wp2
            all_goals (go_meet; exact ⟨by simp [*], rfl⟩)
          · have hc : (M == N) = false := beq_eq_false_iff_ne.2 h
            clear h
            go_wp2
            all_goals (go_meet; exact ⟨by simp [*], rfl⟩)
          · have hc : (D == E) = false := beq_eq_false_iff_ne.2 h
            clear h
            go_wp2
            all_goals (go_meet; exact ⟨by simp [*], rfl⟩)
    case rest =>
      obtain ⟨rfl, hwc⟩ := hcut
      subst hwc
      clear HL HG hb0 hb01 A1 A2 B1 B2 E1 E2 E3 E4 cb0 cb1 cb2 D0 D1 Y0 Y1 M0 M1 dm2 b5 b6 HT
      have hsz1 : w1.heap.size ≤ w2.heap.size := by omega
      obtain ⟨bL, hbL⟩ : ∃ b, decide (Cal.mlen Y M < D + 1) = b := ⟨_, rfl⟩
      have HB := Lib.hid hbL
      clear hbL
      go_upto_region 12 with fail
      go_cut [122] (fun x wx => x = .bool bL ∧ ∃ q : Nat, wx = ((w2.alloc (Obj.cells #[.int .i64 Y, .int .i64 M, .int .i64 D] 40)).alloc (Obj.cells #[.int .i64 Y, .int .i64 M, .int .i64 (D + 1)] 40)).drewN q)
      case first =>
        go_quiet ((go_at_call 33; exact quiet_left (len_any _ _ _)))
        go_wp2
        go_meet
        exact ⟨congrArg Value.bool HB.out, _, rfl⟩
      case rest =>
        obtain ⟨rfl, q, rfl⟩ := hcut
        go_upto_if 122 with fail
        go_cut [] (fun wx => NX1 Y M D w1 w2 wx)
        case first =>
          cases bL with
          | true =>
            go_wp2
            go_meet
            refine ⟨M + 1, 1, Or.inr ⟨rfl, rfl, ?_⟩, by go_simp, by go_simp, by go_simp, by go_simp, by go_simp, by go_simp, ?_, by simp⟩
            · have := of_decide_eq_true HB.out; omega
            · exact hbw.trans (by repeat (first | exact Below.refl _ _ | refine Below.setCell ?_ (by first | omega | (simp; omega) | simp) _ | refine below_drewN ?_ _ | refine Below.drew ?_ | refine Below.alloc ?_ (by first | omega | (simp; omega) | simp) _))
          | false =>
            go_wp2
            go_meet
            refine ⟨M, D + 1, Or.inl ⟨rfl, rfl, ?_⟩, by go_simp, by go_simp, by go_simp, by go_simp, by go_simp, by go_simp, ?_, by simp⟩
            · have := of_decide_eq_false HB.out; omega
            · exact hbw.trans (by repeat (first | exact Below.refl _ _ | refine Below.setCell ?_ (by first | omega | (simp; omega) | simp) _ | refine below_drewN ?_ _ | refine Below.drew ?_ | refine Below.alloc ?_ (by first | omega | (simp; omega) | simp) _))
        case rest =>
          obtain ⟨M', D', hrel, n0, n1, n2, z0, z1, z2, hbx, hszx⟩ := hcut
          clear ca0 ca1 ca2 hsz hsz0 HB
          have HI := Lib.hid (nx_in y0 y1 m0 m1 d0 GN.out hrel)
          have HO := Lib.hid (nx_out y0 y1 m1 GN.out hrel)
          clear hrel m0 m1 d0 d1 dm GN GK
          go_upto_if 130 with fail
          go_cut [] (fun wx => NX2 n w1 w2 wx)
          case first =>
            by_cases hm : M' ≤ 12
            · obtain ⟨e1, e2, e3, e4⟩ := HI.out hm
              go_wp2
              go_meet
              exact ⟨Y, M', D', Or.inr ⟨y1, e1, e2⟩, ⟨e3, e4⟩, n0, n1, n2, hbx, hszx⟩
            · obtain ⟨e1, e2⟩ := HO.out hm
              have hbs := hszx
              go_wp2
              go_meet
              refine ⟨Y + 1, 1, D', ?_, by omega, by go_simp, by go_simp, by go_simp, ?_, by simpa using hszx⟩
              · rw [e1]; exact e2
              · repeat (first | exact hbx | exact Below.refl _ _ | refine Below.setCell ?_ (by have := hbs; have := hbw.size; simp; omega) _ | refine below_drewN ?_ _ | refine Below.drew ?_ | refine Below.alloc ?_ (by first | (have := hby.size; omega) | (simp; have := hby.size; omega) | simp) _)
          case rest =>
            obtain ⟨Y', M'', D'', hrel, ⟨f1, f2⟩, x0, x1, x2, hby, hszy⟩ := hcut
            clear n0 n1 n2 z0 z1 z2 hbx hszx HI HO
            rcases hrel with rfl | ⟨g0, g1, g2⟩
            · go_wp2_with fail
              refine (wakes2_any _ (HA1.out.stays hby)).mono ?_
              rintro e w4 ⟨rfl, hb2⟩
              go_wp2
              go_ret
              exact ⟨rfl, below_chain hb1 hby hb2⟩
            · have K1 := Lib.hid g1
              have K2 := Lib.hid g2
              clear g1 g2
              go_wp2_with fail
              refine (number_w _ _ _ _ (HA1.out.stays hby) (by omega) (by omega)).mono ?_
              rintro e w4 ⟨rfl, q4, rfl⟩
              rw [K1.out, K2.out]
              go_wp2_with fail
              refine (wakes2_any _ (HA1.out.stays (hby.trans (by repeat (first | exact hbx | exact Below.refl _ _ | refine Below.setCell ?_ (by have := hbs; have := hbw.size; simp; omega) _ | refine below_drewN ?_ _ | refine Below.drew ?_ | refine Below.alloc ?_ (by first | (have := hby.size; omega) | (simp; have := hby.size; omega) | simp) _))))).mono ?_
              rintro e w5 ⟨rfl, hb2⟩
              go_wp2
              go_ret
              exact ⟨rfl, below_chain hb1 (hby.trans (by repeat (first | exact hbx | exact Below.refl _ _ | refine Below.setCell ?_ (by have := hbs; have := hbw.size; simp; omega) _ | refine below_drewN ?_ _ | refine Below.drew ?_ | refine Below.alloc ?_ (by first | (have := hby.size; omega) | (simp; have := hby.size; omega) | simp) _))) hb2⟩
end Civ
end Go.Proofs.YtopclopmgnkoeaaDoor
