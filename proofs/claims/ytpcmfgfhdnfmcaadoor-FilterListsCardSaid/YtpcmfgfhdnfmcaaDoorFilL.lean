/-
  FilterLists: the law answers true at every rule, times and number, in whatever world that holds the table of the months.
-/
import Derived.Test.YtpcmfgfhdnfmcaaDoorFilO
import Derived.Test.YtpcmfgfhdnfmcaaDoorBdFn
import Derived.Test.YtpcmfgfhdnfmcaaDoorBdTw
namespace Go.Proofs.YtpcmfgfhdnfmcaaDoor
open Go.RowKit
namespace Fil
open Rcv (CV LisV IntV DayV)
open Rck (ckE ckB Small)
open Civ (numV numE dY dM dD dnE ydV Ahead)
open Ap (RowI Grew)
open Cel
theorem row_set {B g : Nat} {w : World} {v : Value} {L : List Int} (h : RowI B w v L) (hg : g < B) (i : Nat) (x : Value) : RowI B (w.setCell ⟨g, i, none⟩ x) v L := Rcp.own_cell h hg x
set_option maxHeartbeats 25600000 in
set_option maxRecDepth 100000 in
theorem lists_any (start t which : Int) (x : CV) (s6 s7 s8 s9 s10 s11 s12 s13 s14 : Value) (w : World) (hA : Ahead w) (hl : LisV w x s6 s7 s8 s9 s10 s11 s12 s13 s14) (hu1 : -9223372036854775808 ≤ x.ua) (hu2 : x.ua ≤ 9223372036854775807) :
    Calls Tryd.prog 5 #[.agg #[.int .i64 x.fq, .int .i64 x.iv, .int .i64 x.ct, .bool x.un, .int .i64 x.ua, .bool x.ut, s6, s7, s8, s9, s10, s11, s12, s13, s14, .int .i64 x.wk], .int .i64 start, .int .i64 t, .int .i64 which] w fun e w' => e = .returned (.bool true) ∧ Below w.heap.size w w' := by
  obtain ⟨a6, c6, rfl⟩ := hl.h6.slice
  obtain ⟨a7, c7, rfl⟩ := hl.h7.slice
  obtain ⟨a8, c8, rfl⟩ := hl.h8.slice
  obtain ⟨a9, c9, rfl⟩ := hl.h9.slice
  obtain ⟨a10, c10, rfl⟩ := hl.h10.slice
  obtain ⟨a11, c11, rfl⟩ := hl.h11.slice
  obtain ⟨a12, c12, rfl⟩ := hl.h12.slice
  obtain ⟨a13, c13, rfl⟩ := hl.h13.slice
  obtain ⟨a14, c14, rfl⟩ := hl.h14.slice
  have HA := Lib.hid hA
  have L := Lib.hid hl
  have HU := Lib.hid (And.intro hu1 hu2)
  clear hA hl hu1 hu2
  obtain ⟨A, hAA⟩ : ∃ a, vsm start = a := ⟨_, rfl⟩
  obtain ⟨T, hT⟩ : ∃ a, vsm t = a := ⟨_, rfl⟩
  have AB := Lib.hid (by have := vsm_bd start; rw [hAA] at this; exact this)
  have TB := Lib.hid (by have := vsm_bd t; rw [hT] at this; exact this)
  have MT := Lib.hid (show moO T = true by rw [← hT]; exact vsm_mo t)
  have V1 := Lib.hid hAA
  have V2 := Lib.hid hT
  obtain ⟨l, hl⟩ : ∃ l, letP x A T = l := ⟨_, rfl⟩
  have L0 := Lib.hid hl
  obtain ⟨U, hU⟩ : ∃ u, IntKind.u64.wrap which = u := ⟨_, rfl⟩
  have u0 : 0 ≤ U := by rw [← hU, IntKind.wrap_u64]; omega
  have r1 : U.tmod 3 = U % 3 := Int.tmod_eq_emod_of_nonneg u0
  obtain ⟨kb, hkb⟩ : ∃ c, ckB x = c := ⟨_, rfl⟩
  have HKB := Lib.hid hkb
  clear hkb hAA hT hl
  go_enter Tryd.func5, Tryd.ntmps5
  go_upto_region 0 with fail
  go_cut [4] (fun p wz => p = .pointer (some ⟨w.heap.size, 0, none⟩) ∧ Hid (Cs w.heap.size wz [.int .i64 x.fq, .int .i64 x.iv, .int .i64 x.ct, .bool x.un, .int .i64 x.ua, .bool x.ut, .slice a6 x.sc.length c6, .slice a7 x.mi.length c7, .slice a8 x.hr.length c8, .slice a9 x.dy.length c9, .slice a10 x.md.length c10, .slice a11 x.yd.length c11, .slice a12 x.wn.length c12, .slice a13 x.mo.length c13, .slice a14 x.sp.length c14, .int .i64 x.wk]) ∧ Hid (Below w.heap.size w wz))
  case first =>
    go_wp2
    go_meet
    exact ⟨rfl, Lib.hid (Cs.new w _ _), Lib.hid ((Below.refl _ _).alloc (Nat.le_refl _) _)⟩
  case rest =>
  obtain ⟨w1, rfl⟩ : ∃ x : World, x = wc := ⟨_, rfl⟩
  obtain ⟨rfl, RB, B⟩ := hcut
  go_wp2_with (refine ld16 RB.out rfl (by rfl) (by rfl) (by rfl) ?_; intro K hK; go_simp)
  refine (Rct.hv_to _ _ _ _ _ _ _ _ _ x _ (L.out.below B.out)).mono ?_
  rintro e w2 ⟨hb, rfl, HH, k⟩
  have RB := Lib.hid (RB.out.below k)
  have B := Lib.hid (bstep B.out k)
  clear k
  cases hb with
  | true =>
    go_wp2
    go_ret
    exact ⟨ret_b rfl, B.out⟩
  | false =>
  have L3 := Lib.hid (HH.out rfl)
  have S := Lib.hid (small_of L3.out)
  go_wp2_with (refine ld16 RB.out rfl (by rfl) (by rfl) (by rfl) ?_; intro K hK; go_simp)
  refine (Rrl.rrec_to _ _ _ _ _ _ _ _ _ x kb _ HU.out.1 HU.out.2 (L.out.below B.out) HKB).mono ?_
  rintro e w3 ⟨rfl, k⟩
  have RB := Lib.hid (RB.out.below k)
  have B := Lib.hid (bstep B.out k)
  clear k
  cases kb with
  | false =>
    go_wp2
    go_ret
    exact ⟨ret_b rfl, B.out⟩
  | true =>
  go_upto_region 3 with fail
  go_cut [1, 2] (fun a b wz => a = .int .i64 A ∧ b = .int .i64 T ∧ Hid (Cs w.heap.size wz [.int .i64 x.fq, .int .i64 x.iv, .int .i64 x.ct, .bool x.un, .int .i64 x.ua, .bool x.ut, .slice a6 x.sc.length c6, .slice a7 x.mi.length c7, .slice a8 x.hr.length c8, .slice a9 x.dy.length c9, .slice a10 x.md.length c10, .slice a11 x.yd.length c11, .slice a12 x.wn.length c12, .slice a13 x.mo.length c13, .slice a14 x.sp.length c14, .int .i64 x.wk]) ∧ Hid (Below w.heap.size w wz))
  case first =>
    go_wp2_with fail
    refine (vsome_to start A _ V1).mono ?_
    rintro e w4 ⟨rfl, k⟩
    have RB := Lib.hid (RB.out.below k)
    have B := Lib.hid (bstep B.out k)
    clear k
    go_wp2_with fail
    refine (vsome_to t T _ V2).mono ?_
    rintro e w5 ⟨rfl, k⟩
    have RB := Lib.hid (RB.out.below k)
    have B := Lib.hid (bstep B.out k)
    clear k
    go_wp2
    go_meet
    exact ⟨rfl, rfl, RB, B⟩
  case rest =>
  obtain ⟨w4, rfl⟩ : ∃ x : World, x = wc := ⟨_, rfl⟩
  clear RB B
  obtain ⟨rfl, rfl, RB, B⟩ := hcut
  go_upto_region 4 with fail
  go_cut [9] (fun a wz => a = .bool l ∧ Hid (Cs w.heap.size wz [.int .i64 x.fq, .int .i64 x.iv, .int .i64 x.ct, .bool x.un, .int .i64 x.ua, .bool x.ut, .slice a6 x.sc.length c6, .slice a7 x.mi.length c7, .slice a8 x.hr.length c8, .slice a9 x.dy.length c9, .slice a10 x.md.length c10, .slice a11 x.yd.length c11, .slice a12 x.wn.length c12, .slice a13 x.mo.length c13, .slice a14 x.sp.length c14, .int .i64 x.wk]) ∧ Hid (Below w.heap.size w wz))
  case first =>
    go_wp2_with (refine ld16 RB.out rfl (by rfl) (by rfl) (by rfl) ?_; intro K hK; go_simp)
    refine (lets_to x _ _ _ _ _ _ _ _ _ A T l _ (HA.out.stays B.out) HU.out.1 HU.out.2 (L.out.below B.out) S.out (nth_all (HA.out.stays B.out) (L.out.below B.out)) (by have := AB.out; omega) (by have := AB.out; omega) (by have := TB.out; omega) (by have := TB.out; omega) L0).mono ?_
    rintro e w5 ⟨rfl, k⟩
    have RB := Lib.hid (RB.out.below k)
    have B := Lib.hid (bstep B.out k)
    clear k
    go_wp2
    go_meet
    exact ⟨rfl, RB, B⟩
  case rest =>
  obtain ⟨w4, rfl⟩ : ∃ x : World, x = wc := ⟨_, rfl⟩
  clear RB B
  obtain ⟨rfl, RB, B⟩ := hcut
  go_upto_region 5 with fail
  go_cut [10] (fun a wz => ∃ (w5 : World) (b6 b7 b8 b9 b10 b11 b12 b13 b14 : Option Addr) (d6 d7 d8 d9 d10 d11 d12 d13 d14 : Nat), a = .pointer (some ⟨w5.heap.size, 0, none⟩) ∧ Hid (w.heap.size < w5.heap.size) ∧ Hid (LisV w5 x (.slice b6 x.sc.length d6) (.slice b7 x.mi.length d7) (.slice b8 x.hr.length d8) (.slice b9 x.dy.length d9) (.slice b10 x.md.length d10) (.slice b11 x.yd.length d11) (.slice b12 x.wn.length d12) (.slice b13 x.mo.length d13) (.slice b14 x.sp.length d14)) ∧ Hid (Below w5.heap.size w5 wz) ∧ Hid (Cs w5.heap.size wz [.int .i64 x.fq, .int .i64 x.iv, .int .i64 x.ct, .bool x.un, .int .i64 x.ua, .bool x.ut, .slice b6 x.sc.length d6, .slice b7 x.mi.length d7, .slice b8 x.hr.length d8, .slice b9 x.dy.length d9, .slice b10 x.md.length d10, .slice b11 x.yd.length d11, .slice b12 x.wn.length d12, .slice b13 x.mo.length d13, .slice b14 x.sp.length d14, .int .i64 x.wk]) ∧ Hid (w5.heap.size < wz.heap.size) ∧ Hid (Cs w.heap.size wz [.int .i64 x.fq, .int .i64 x.iv, .int .i64 x.ct, .bool x.un, .int .i64 x.ua, .bool x.ut, .slice a6 x.sc.length c6, .slice a7 x.mi.length c7, .slice a8 x.hr.length c8, .slice a9 x.dy.length c9, .slice a10 x.md.length c10, .slice a11 x.yd.length c11, .slice a12 x.wn.length c12, .slice a13 x.mo.length c13, .slice a14 x.sp.length c14, .int .i64 x.wk]) ∧ Hid (Below w.heap.size w wz))
  case first =>
    go_wp2_with (refine ld16 RB.out rfl (by rfl) (by rfl) (by rfl) ?_; intro K hK; go_simp)
    refine (Twn.twin_go x a6 a7 a8 a9 a10 a11 a12 a13 a14 c6 c7 c8 c9 c10 c11 c12 c13 c14 _ (L.out.below B.out) L3.out).mono ?_
    rintro e w5 ⟨s6, s7, s8, s9, s10, s11, s12, s13, s14, rfl, ⟨m, n0, n1, n2, n3, n4, n5, n6, n7, n8, n9, _, _, _, _, _, _, _, _, _, _, _, _, t6, t7, t8, t10, t11, t12, t13, t14, t9⟩, k⟩
    have RB := Lib.hid (RB.out.below k)
    have B := Lib.hid (bstep B.out k)
    clear k
    have v6 := IntV.of_row t6.1
    have v7 := IntV.of_row t7.1
    have v8 := IntV.of_row t8.1
    have v9 := Rcp.RowD.days t9
    have v10 := IntV.of_row t10.1
    have v11 := IntV.of_row t11.1
    have v12 := IntV.of_row t12.1
    have v13 := IntV.of_row t13.1
    have v14 := IntV.of_row t14.1
    obtain ⟨b6, d6, rfl⟩ := v6.slice
    obtain ⟨b7, d7, rfl⟩ := v7.slice
    obtain ⟨b8, d8, rfl⟩ := v8.slice
    obtain ⟨b9, d9, rfl⟩ := v9.slice
    obtain ⟨b10, d10, rfl⟩ := v10.slice
    obtain ⟨b11, d11, rfl⟩ := v11.slice
    obtain ⟨b12, d12, rfl⟩ := v12.slice
    obtain ⟨b13, d13, rfl⟩ := v13.slice
    obtain ⟨b14, d14, rfl⟩ := v14.slice
    have LV := Lib.hid (show LisV w5 x (.slice b6 x.sc.length d6) (.slice b7 x.mi.length d7) (.slice b8 x.hr.length d8) (.slice b9 x.dy.length d9) (.slice b10 x.md.length d10) (.slice b11 x.yd.length d11) (.slice b12 x.wn.length d12) (.slice b13 x.mo.length d13) (.slice b14 x.sp.length d14) from ⟨v6, v7, v8, v9, v10, v11, v12, v13, v14⟩)
    have lt := Lib.hid RB.out.1
    clear t6 t7 t8 t9 t10 t11 t12 t13 t14 v6 v7 v8 v9 v10 v11 v12 v13 v14
    rw [Rcv.aggR]
    go_wp2
    go_meet
    exact ⟨w5, b6, b7, b8, b9, b10, b11, b12, b13, b14, d6, d7, d8, d9, d10, d11, d12, d13, d14, rfl, lt, LV, Lib.hid ((Below.refl _ _).alloc (Nat.le_refl _) _), Lib.hid (Cs.new w5 _ _), Lib.hid (by simp), Lib.hid (RB.out.alloc _), Lib.hid (B.out.alloc B.out.size _)⟩
  case rest =>
  obtain ⟨w6, rfl⟩ : ∃ x : World, x = wc := ⟨_, rfl⟩
  clear RB B
  obtain ⟨w5, b6, b7, b8, b9, b10, b11, b12, b13, b14, d6, d7, d8, d9, d10, d11, d12, d13, d14, rfl, h05, LT, K5, G, h56, RB, B⟩ := hcut
  have l0 := (RB.out.2 0 _ rfl).1
  have g8 := (G.out.2 8 _ rfl).1
  have g9 := (G.out.2 9 _ rfl).1
  have g10 := (G.out.2 10 _ rfl).1
  have g13 := (G.out.2 13 _ rfl).1
  have hq : U % 3 = 0 ∨ U % 3 = 1 ∨ U % 3 = 2 := by omega
  rcases hq with u3 | u3 | u3
  · by_cases hm : x.mo = []
    case neg =>
      have z := len_pos' hm
      have zn := Int.ofNat_lt.1 z
      have zd := decide_eq_true zn
      clear hm
      go_wp2_with fail
      refine (wakes22_any _ (HA.out.stays B.out)).mono ?_
      rintro e w13 ⟨rfl, k⟩
      go_wp2
      go_ret
      exact ⟨ret_b rfl, bstep B.out k⟩
    by_cases hd : x.dy = []
    case neg =>
      have z := len_pos' hd
      have zn := Int.ofNat_lt.1 z
      have zd := decide_eq_true zn
      have z1 : x.mo.length = 0 := by rw [hm]; rfl
      rw [z1] at g13
      clear hd hm z1
      go_wp2_with fail
      refine (wakes22_any _ (HA.out.stays B.out)).mono ?_
      rintro e w13 ⟨rfl, k⟩
      go_wp2
      go_ret
      exact ⟨ret_b rfl, bstep B.out k⟩
    by_cases hf : 4 < x.fq
    · have z1 : x.mo.length = 0 := by rw [hm]; rfl
      have z2 : x.dy.length = 0 := by rw [hd]; rfl
      rw [z1] at g13
      rw [z2] at g9
      clear hd hm z1 z2
      go_wp2_with fail
      refine (wakes22_any _ (HA.out.stays B.out)).mono ?_
      rintro e w13 ⟨rfl, k⟩
      go_wp2
      go_ret
      exact ⟨ret_b rfl, bstep B.out k⟩
    have HM := Lib.hid (And.intro hm (And.intro hd (show x.fq ≤ 4 by omega)))
    have z1 : x.mo.length = 0 := by rw [hm]; rfl
    have z2 : x.dy.length = 0 := by rw [hd]; rfl
    rw [z1] at g13
    rw [z2] at g9
    clear hd hm z1 z2
    go_wp2_with fail
    go_loopw [11, 12] (fun xv iv wr => ∃ (j : Nat) (mv : Value), j ≤ 12 ∧ xv = mv ∧ iv = .int .i64 (1 + (j : Int)) ∧ Hid (RowI w6.heap.size wr mv (sevL 1 j)) ∧ Hid (Below w6.heap.size w6 wr)) (fun _ iv _ => 13 - (intOf iv).toNat)
    case atStart => exact ⟨0, .slice none 0 0, by omega, rfl, by first | rfl | simp, Lib.hid (RowI.nil _ _), Lib.hid (Below.refl _ _)⟩
    case round =>
      obtain ⟨j, mv, hj, rfl, rfl, HR, HB6⟩ := hrel
      obtain ⟨wo, rfl⟩ : ∃ wo : World, wo = wr := ⟨_, rfl⟩
      by_cases hlt : j < 12
      · have hl : (sevL 1 j).length ≤ 100000000 := by rw [sev_len]; omega
        have hsz : w6.heap.size ≤ wo.heap.size := HB6.out.size
        have HSL := Lib.hid (sev_len 1 j)
        have s1 : IntKind.i64.wrap (1 + (j : Int) + 1) = 1 + (j : Int) + 1 := IntWalk.i64_in _ (by omega)
        go_wp2_with (at_builtin; refine Ap.appI rfl _ _ rfl w6.heap.size _ (sevL 1 j) rfl HR.out (1 + (j : Int)) rfl hl hsz ?_)
        intro wn gg gcap r5 g5
        have HB7 := Lib.hid (g5.below w6.heap.size w6 (Nat.le_refl _) HB6.out hsz)
        have HR6 : Hid (RowI w6.heap.size wn (.slice (some ⟨gg, 0, none⟩) (j + 1) gcap) (sevL 1 (j + 1))) := Lib.hid (by rw [sev_succ]; rw [sev_len] at r5; exact r5)
        rw [HSL.out]
        clear g5 r5 HR HB6 hsz
        go_wp2
        go_roundw
        case rel => exact ⟨j + 1, _, by omega, rfl, by go_num, HR6, HB7⟩
        case measure => simp [intOf]; omega
      · obtain rfl : j = 12 := by omega
        obtain ⟨mA, mc, hmv⟩ := HR.out.forms
        subst hmv
        have G := Lib.hid (G.out.below HB6.out)
        have K5 := Lib.hid (bstep K5.out HB6.out)
        have B := Lib.hid (bstep B.out HB6.out)
        have q1 := (G.out.2 13 _ rfl).1
        have q2 := (G.out.2 13 _ rfl).2
        clear RB
        have G2 : Hid (Cs w5.heap.size (wo.setCell ⟨w5.heap.size, 13, none⟩ (.slice mA (sevL 1 12).length mc)) [.int .i64 x.fq, .int .i64 x.iv, .int .i64 x.ct, .bool x.un, .int .i64 x.ua, .bool x.ut, .slice b6 x.sc.length d6, .slice b7 x.mi.length d7, .slice b8 x.hr.length d8, .slice b9 x.dy.length d9, .slice b10 x.md.length d10, .slice b11 x.yd.length d11, .slice b12 x.wn.length d12, .slice mA (sevL 1 12).length mc, .slice b14 x.sp.length d14, .int .i64 x.wk]) := Lib.hid (G.out.set 13 (by simp) (.slice mA (sevL 1 12).length mc))
        have HR := Lib.hid (row_set HR.out h56.out 13 (.slice mA (sevL 1 12).length mc))
        have K5 := Lib.hid (K5.out.setCell (p := ⟨w5.heap.size, 13, none⟩) (Nat.le_refl _) (.slice mA (sevL 1 12).length mc))
        have B := Lib.hid (B.out.setCell (p := ⟨w5.heap.size, 13, none⟩) (show w.heap.size ≤ w5.heap.size by have := h05.out; omega) (.slice mA (sevL 1 12).length mc))
        have LX : Hid (LisV (wo.setCell ⟨w5.heap.size, 13, none⟩ (.slice mA (sevL 1 12).length mc)) (withMo x) (.slice b6 x.sc.length d6) (.slice b7 x.mi.length d7) (.slice b8 x.hr.length d8) (.slice b9 x.dy.length d9) (.slice b10 x.md.length d10) (.slice b11 x.yd.length d11) (.slice b12 x.wn.length d12) (.slice mA (sevL 1 12).length mc) (.slice b14 x.sp.length d14)) := Lib.hid (by
          have h := LT.out.below K5.out
          exact ⟨h.h6, h.h7, h.h8, h.h9, h.h10, h.h11, h.h12, IntV.of_row HR.out, h.h14⟩)
        have HL : Hid (letP (withMo x) A T = l) := Lib.hid (by rw [lets_mo HKB.out HM.out.1 HM.out.2.1 HM.out.2.2 MT.out]; exact L0.out)
        go_wp2_with (refine ld16 G2.out rfl (by rfl) (by rfl) (by rfl) ?_; intro K hK; go_simp)
        refine (lets_to (withMo x) _ _ _ _ _ _ _ _ _ A T l _ (HA.out.stays B.out) HU.out.1 HU.out.2 LX.out (⟨S.out.sc, S.out.mi, S.out.hr, S.out.dy, S.out.md, S.out.yd, S.out.wn, by rw [show (withMo x).mo = sevL 1 12 from rfl, sev_len]; omega, S.out.sp⟩) (nth_all (HA.out.stays B.out) LX.out) (by have := AB.out; omega) (by have := AB.out; omega) (by have := TB.out; omega) (by have := TB.out; omega) HL).mono ?_
        rintro e w9 ⟨rfl, k⟩
        have B := Lib.hid (bstep B.out k)
        clear k
        cases l with
        | false =>
          go_wp2_with fail
          refine (wakes22_any _ (HA.out.stays B.out)).mono ?_
          rintro e w13 ⟨rfl, k⟩
          go_wp2
          go_ret
          exact ⟨ret_b rfl, bstep B.out k⟩
        | true =>
          go_wp2_with fail
          refine (wakes22_any _ (HA.out.stays B.out)).mono ?_
          rintro e w13 ⟨rfl, k⟩
          go_wp2
          go_ret
          exact ⟨ret_b rfl, bstep B.out k⟩
  · by_cases hm : x.hr = []
    case neg =>
      have z := len_pos' hm
      have zn := Int.ofNat_lt.1 z
      have zd := decide_eq_true zn
      clear hm
      go_wp2_with fail
      refine (wakes22_any _ (HA.out.stays B.out)).mono ?_
      rintro e w13 ⟨rfl, k⟩
      go_wp2
      go_ret
      exact ⟨ret_b rfl, bstep B.out k⟩
    by_cases hf : 3 < x.fq
    · have z1 : x.hr.length = 0 := by rw [hm]; rfl
      rw [z1] at g8
      clear hm z1
      go_wp2_with fail
      refine (wakes22_any _ (HA.out.stays B.out)).mono ?_
      rintro e w13 ⟨rfl, k⟩
      go_wp2
      go_ret
      exact ⟨ret_b rfl, bstep B.out k⟩
    have HM := Lib.hid (And.intro hm (show x.fq ≤ 3 by omega))
    have z1 : x.hr.length = 0 := by rw [hm]; rfl
    rw [z1] at g8
    clear hm z1
    go_wp2_with fail
    go_loopw [11, 13] (fun xv iv wr => ∃ (j : Nat) (mv : Value), j ≤ 24 ∧ xv = mv ∧ iv = .int .i64 ((j : Int)) ∧ Hid (RowI w6.heap.size wr mv (sevL 0 j)) ∧ Hid (Below w6.heap.size w6 wr)) (fun _ iv _ => 24 - (intOf iv).toNat)
    case atStart => exact ⟨0, .slice none 0 0, by omega, rfl, by first | rfl | simp, Lib.hid (RowI.nil _ _), Lib.hid (Below.refl _ _)⟩
    case round =>
      obtain ⟨j, mv, hj, rfl, rfl, HR, HB6⟩ := hrel
      obtain ⟨wo, rfl⟩ : ∃ wo : World, wo = wr := ⟨_, rfl⟩
      by_cases hlt : j < 24
      · have hl : (sevL 0 j).length ≤ 100000000 := by rw [sev_len]; omega
        have hsz : w6.heap.size ≤ wo.heap.size := HB6.out.size
        have HSL := Lib.hid (sev_len 0 j)
        have s1 : IntKind.i64.wrap ((j : Int) + 1) = (j : Int) + 1 := IntWalk.i64_in _ (by omega)
        go_wp2_with (at_builtin; refine Ap.appI rfl _ _ rfl w6.heap.size _ (sevL 0 j) rfl HR.out ((j : Int)) rfl hl hsz ?_)
        intro wn gg gcap r5 g5
        have HB7 := Lib.hid (g5.below w6.heap.size w6 (Nat.le_refl _) HB6.out hsz)
        have HR6 : Hid (RowI w6.heap.size wn (.slice (some ⟨gg, 0, none⟩) (j + 1) gcap) (sevL 0 (j + 1))) := Lib.hid (by rw [sev_succ, Int.zero_add]; rw [sev_len] at r5; exact r5)
        rw [HSL.out]
        clear g5 r5 HR HB6 hsz
        go_wp2
        go_roundw
        case rel => exact ⟨j + 1, _, by omega, rfl, by go_num, HR6, HB7⟩
        case measure => simp [intOf]; omega
      · obtain rfl : j = 24 := by omega
        obtain ⟨mA, mc, hmv⟩ := HR.out.forms
        subst hmv
        have G := Lib.hid (G.out.below HB6.out)
        have K5 := Lib.hid (bstep K5.out HB6.out)
        have B := Lib.hid (bstep B.out HB6.out)
        have q1 := (G.out.2 8 _ rfl).1
        have q2 := (G.out.2 8 _ rfl).2
        clear RB
        have G2 : Hid (Cs w5.heap.size (wo.setCell ⟨w5.heap.size, 8, none⟩ (.slice mA (sevL 0 24).length mc)) [.int .i64 x.fq, .int .i64 x.iv, .int .i64 x.ct, .bool x.un, .int .i64 x.ua, .bool x.ut, .slice b6 x.sc.length d6, .slice b7 x.mi.length d7, .slice mA (sevL 0 24).length mc, .slice b9 x.dy.length d9, .slice b10 x.md.length d10, .slice b11 x.yd.length d11, .slice b12 x.wn.length d12, .slice b13 x.mo.length d13, .slice b14 x.sp.length d14, .int .i64 x.wk]) := Lib.hid (G.out.set 8 (by simp) (.slice mA (sevL 0 24).length mc))
        have HR := Lib.hid (row_set HR.out h56.out 8 (.slice mA (sevL 0 24).length mc))
        have K5 := Lib.hid (K5.out.setCell (p := ⟨w5.heap.size, 8, none⟩) (Nat.le_refl _) (.slice mA (sevL 0 24).length mc))
        have B := Lib.hid (B.out.setCell (p := ⟨w5.heap.size, 8, none⟩) (show w.heap.size ≤ w5.heap.size by have := h05.out; omega) (.slice mA (sevL 0 24).length mc))
        have LX : Hid (LisV (wo.setCell ⟨w5.heap.size, 8, none⟩ (.slice mA (sevL 0 24).length mc)) (withHr x) (.slice b6 x.sc.length d6) (.slice b7 x.mi.length d7) (.slice mA (sevL 0 24).length mc) (.slice b9 x.dy.length d9) (.slice b10 x.md.length d10) (.slice b11 x.yd.length d11) (.slice b12 x.wn.length d12) (.slice b13 x.mo.length d13) (.slice b14 x.sp.length d14)) := Lib.hid (by
          have h := LT.out.below K5.out
          exact ⟨h.h6, h.h7, IntV.of_row HR.out, h.h9, h.h10, h.h11, h.h12, h.h13, h.h14⟩)
        have HL : Hid (letP (withHr x) A T = l) := Lib.hid (by rw [lets_hr HKB.out HM.out.1 HM.out.2]; exact L0.out)
        go_wp2_with (refine ld16 G2.out rfl (by rfl) (by rfl) (by rfl) ?_; intro K hK; go_simp)
        refine (lets_to (withHr x) _ _ _ _ _ _ _ _ _ A T l _ (HA.out.stays B.out) HU.out.1 HU.out.2 LX.out (⟨S.out.sc, S.out.mi, by rw [show (withHr x).hr = sevL 0 24 from rfl, sev_len]; omega, S.out.dy, S.out.md, S.out.yd, S.out.wn, S.out.mo, S.out.sp⟩) (nth_all (HA.out.stays B.out) LX.out) (by have := AB.out; omega) (by have := AB.out; omega) (by have := TB.out; omega) (by have := TB.out; omega) HL).mono ?_
        rintro e w9 ⟨rfl, k⟩
        have B := Lib.hid (bstep B.out k)
        clear k
        cases l with
        | false =>
          go_wp2_with fail
          refine (wakes22_any _ (HA.out.stays B.out)).mono ?_
          rintro e w13 ⟨rfl, k⟩
          go_wp2
          go_ret
          exact ⟨ret_b rfl, bstep B.out k⟩
        | true =>
          go_wp2_with fail
          refine (wakes22_any _ (HA.out.stays B.out)).mono ?_
          rintro e w13 ⟨rfl, k⟩
          go_wp2
          go_ret
          exact ⟨ret_b rfl, bstep B.out k⟩
  · by_cases hm : x.md = []
    case neg =>
      have z := len_pos' hm
      have zn := Int.ofNat_lt.1 z
      have zd := decide_eq_true zn
      clear hm
      go_wp2_with fail
      refine (wakes22_any _ (HA.out.stays B.out)).mono ?_
      rintro e w13 ⟨rfl, k⟩
      go_wp2
      go_ret
      exact ⟨ret_b rfl, bstep B.out k⟩
    have HM := Lib.hid hm
    have z1 : x.md.length = 0 := by rw [hm]; rfl
    rw [z1] at g10
    clear hm z1
    by_cases f5 : x.fq = 5
    · have e5 : (x.fq == 5) = true := beq_iff_eq.2 f5
      clear f5
      go_wp2_with fail
      refine (wakes22_any _ (HA.out.stays B.out)).mono ?_
      rintro e w13 ⟨rfl, k⟩
      go_wp2
      go_ret
      exact ⟨ret_b rfl, bstep B.out k⟩
    have e5 : (x.fq == 5) = false := beq_eq_false_iff_ne.2 f5
    by_cases hf : 4 < x.fq
    · clear f5
      go_wp2_with fail
      refine (wakes22_any _ (HA.out.stays B.out)).mono ?_
      rintro e w13 ⟨rfl, k⟩
      go_wp2
      go_ret
      exact ⟨ret_b rfl, bstep B.out k⟩
    have HF := Lib.hid (show x.fq ≤ 4 by omega)
    clear f5
    have p1 := (G.out.2 10 _ rfl).1
    have p2 := (G.out.2 10 _ rfl).2
    have p3 := G.out.1
    go_upto_region 10 with fail
    go_cut [] (fun wz => ∃ gb : Nat, Hid (Cs w5.heap.size wz [.int .i64 x.fq, .int .i64 x.iv, .int .i64 x.ct, .bool x.un, .int .i64 x.ua, .bool x.ut, .slice b6 x.sc.length d6, .slice b7 x.mi.length d7, .slice b8 x.hr.length d8, .slice b9 x.dy.length d9, .slice (some ⟨gb, 0, none⟩) 1 1, .slice b11 x.yd.length d11, .slice b12 x.wn.length d12, .slice b13 x.mo.length d13, .slice b14 x.sp.length d14, .int .i64 x.wk]) ∧ Hid (Cs gb wz [.int .i64 1]) ∧ Hid (Below w5.heap.size w5 wz) ∧ Hid (Below w.heap.size w wz))
    case first =>
      clear p1
      go_wp2
      go_meet
      have v1 := K5.out.setCell (p := ⟨w5.heap.size, 10, none⟩) (Nat.le_refl _) (.slice (some ⟨w6.heap.size, 0, none⟩) 1 1)
      have v2 := B.out.setCell (p := ⟨w5.heap.size, 10, none⟩) (show w.heap.size ≤ w5.heap.size by have := h05.out; omega) (.slice (some ⟨w6.heap.size, 0, none⟩) 1 1)
      exact ⟨_, Lib.hid ((G.out.set 10 (by simp) _).alloc _), Lib.hid (cs_at (by simp [World.setCell]) [.int .i64 1] _), Lib.hid (v1.alloc v1.size _), Lib.hid (v2.alloc v2.size _)⟩
    case rest =>
    obtain ⟨w7, rfl⟩ : ∃ x : World, x = wc := ⟨_, rfl⟩
    clear G K5 B RB l0 g8 g9 g10 g13 p1 p2 p3
    obtain ⟨gb, G, GB, K5, B⟩ := hcut
    obtain ⟨d, hd⟩ : ∃ d, T / 86400 = d := ⟨_, rfl⟩
    obtain ⟨Y, hY⟩ : ∃ z, dY d = z := ⟨_, rfl⟩
    obtain ⟨M, hM⟩ : ∃ z, dM d = z := ⟨_, rfl⟩
    obtain ⟨D, hD⟩ : ∃ z, dD d = z := ⟨_, rfl⟩
    have P1 := Lib.hid (show dY (T / 86400) = Y ∧ dM (T / 86400) = M ∧ dD (T / 86400) = D from ⟨by rw [hd, hY], by rw [hd, hM], by rw [hd, hD]⟩)
    have TM := Lib.hid (show decide (Val.tmE T = 0) = true from decide_eq_true (by
      have b := mo_bd MT.out
      rw [Val.tmE, if_pos ⟨b.2.2.1, b.2.2.2⟩]))
    clear hY hM hD hd
    go_upto_region 11 with fail
    go_cut [14] (fun a wz => ∃ g1, a = .pointer (some ⟨g1, 0, none⟩) ∧ Hid (Cs g1 wz [.int .i64 Y, .int .i64 M, .int .i64 D]) ∧ Hid (Cs w5.heap.size wz [.int .i64 x.fq, .int .i64 x.iv, .int .i64 x.ct, .bool x.un, .int .i64 x.ua, .bool x.ut, .slice b6 x.sc.length d6, .slice b7 x.mi.length d7, .slice b8 x.hr.length d8, .slice b9 x.dy.length d9, .slice (some ⟨gb, 0, none⟩) 1 1, .slice b11 x.yd.length d11, .slice b12 x.wn.length d12, .slice b13 x.mo.length d13, .slice b14 x.sp.length d14, .int .i64 x.wk]) ∧ Hid (Cs gb wz [.int .i64 1]) ∧ Hid (Below w5.heap.size w5 wz) ∧ Hid (Below w.heap.size w wz))
    case first =>
      go_wp2_with fail
      refine (Val.ryears_to T Y M D true _ (by have := TB.out; omega) (by have := TB.out; omega) P1.out TM.out).mono ?_
      rintro e w8 ⟨rfl, k⟩
      have G := Lib.hid (G.out.below k)
      have GB := Lib.hid (GB.out.below k)
      have K5 := Lib.hid (bstep K5.out k)
      have B := Lib.hid (bstep B.out k)
      clear k
      go_wp2
      go_meet
      exact ⟨_, rfl, Lib.hid (Cs.new w8 [.int .i64 Y, .int .i64 M, .int .i64 D] _), Lib.hid (G.out.alloc _), Lib.hid (GB.out.alloc _), Lib.hid (K5.out.alloc K5.out.size _), Lib.hid (B.out.alloc B.out.size _)⟩
    case rest =>
    obtain ⟨w8, rfl⟩ : ∃ x : World, x = wc := ⟨_, rfl⟩
    clear G GB K5 B
    obtain ⟨g1, rfl, C1, G, GB, K5, B⟩ := hcut
    have LX : Hid (LisV w8 (withMd x) (.slice b6 x.sc.length d6) (.slice b7 x.mi.length d7) (.slice b8 x.hr.length d8) (.slice b9 x.dy.length d9) (.slice (some ⟨gb, 0, none⟩) 1 1) (.slice b11 x.yd.length d11) (.slice b12 x.wn.length d12) (.slice b13 x.mo.length d13) (.slice b14 x.sp.length d14)) := Lib.hid (by
      have h := LT.out.below K5.out
      exact ⟨h.h6, h.h7, h.h8, h.h9, Rcv.int_one GB.out, h.h11, h.h12, h.h13, h.h14⟩)
    obtain ⟨l2, hl2⟩ : ∃ l2, (l && (D == 1)) = l2 := ⟨_, rfl⟩
    have HL : Hid (letP (withMd x) A T = l2) := Lib.hid (by rw [lets_md HKB.out HM.out HF.out MT.out, L0.out, P1.out.2.2, ← hl2]; rfl)
    have HL2 := Lib.hid hl2
    clear hl2
    go_wp2_with (refine ld16 G.out rfl (by rfl) (by rfl) (by rfl) ?_; intro K hK; go_simp)
    refine (lets_to (withMd x) _ _ _ _ _ _ _ _ _ A T l2 _ (HA.out.stays B.out) HU.out.1 HU.out.2 LX.out ⟨S.out.sc, S.out.mi, S.out.hr, S.out.dy, by show (1 : Nat) ≤ 1000000; omega, S.out.yd, S.out.wn, S.out.mo, S.out.sp⟩ (nth_all (HA.out.stays B.out) LX.out) (by have := AB.out; omega) (by have := AB.out; omega) (by have := TB.out; omega) (by have := TB.out; omega) HL).mono ?_
    rintro e w9 ⟨rfl, k⟩
    have C1 := Lib.hid (C1.out.below k)
    have B := Lib.hid (bstep B.out k)
    clear k
    have y2 := (C1.out.2 2 _ rfl).1
    cases l with
    | false =>
      obtain rfl : l2 = false := by rw [← HL2.out]; rfl
      go_wp2_with fail
      refine (wakes22_any _ (HA.out.stays B.out)).mono ?_
      rintro e w13 ⟨rfl, k⟩
      go_wp2
      go_ret
      exact ⟨ret_b rfl, bstep B.out k⟩
    | true =>
      obtain ⟨v, hv⟩ : ∃ v, (D == 1) = v := ⟨_, rfl⟩
      obtain rfl : l2 = v := by rw [← HL2.out, ← hv]; rfl
      go_wp2_with fail
      refine (wakes22_any _ (HA.out.stays B.out)).mono ?_
      rintro e w13 ⟨rfl, k⟩
      go_wp2
      go_ret
      exact ⟨ret_b rfl, bstep B.out k⟩
end Fil
end Go.Proofs.YtpcmfgfhdnfmcaaDoor
