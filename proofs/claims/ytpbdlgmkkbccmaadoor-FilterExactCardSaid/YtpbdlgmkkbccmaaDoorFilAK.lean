/-
  FilterExact: the law answers true at every rule, times and number, in whatever world that holds the table of the months.
-/
import Derived.Test.YtpbdlgmkkbccmaaDoorFilAL
import Derived.Test.YtpbdlgmkkbccmaaDoorBdFd
import Derived.Test.YtpbdlgmkkbccmaaDoorBdFn
import Derived.Test.YtpbdlgmkkbccmaaDoorBdTw
import Derived.Test.YtpbdlgmkkbccmaaDoorRcvB
import Derived.Test.YtpbdlgmkkbccmaaDoorRcbH
import Derived.Test.YtpbdlgmkkbccmaaDoorRrlF
import Derived.Test.YtpbdlgmkkbccmaaDoorBdFl
namespace Go.Proofs.YtpbdlgmkkbccmaaDoor
open Go.RowKit
namespace Fil
open Rcv (CV LisV IntV DayV)
open Rck (ckE ckB Small)
open Civ (numV numE dY dM dD dnE ydV Ahead)
open Cel
theorem small_of {x : CV} (h : Rct.Len3 x) : Small x := by
  obtain ⟨a, b, c, d, e, f, g, i, j⟩ := h
  exact ⟨by omega, by omega, by omega, by omega, by omega, by omega, by omega, by omega, by omega⟩
theorem smlc_of {x : CV} (h : Rct.Len3 x) : Rcv.SmlC x := by
  obtain ⟨a, b, c, d, e, f, g, i, j⟩ := h
  exact ⟨by omega, by omega, by omega, by omega, by omega, by omega, by omega, by omega, by omega⟩
set_option maxHeartbeats 25600000 in
set_option maxRecDepth 100000 in
theorem fex_any (S T P : Int) (x : CV) (s6 s7 s8 s9 s10 s11 s12 s13 s14 : Value) (w : World) (hA : Ahead w) (hl : LisV w x s6 s7 s8 s9 s10 s11 s12 s13 s14) (hu1 : -9223372036854775808 ≤ x.ua) (hu2 : x.ua ≤ 9223372036854775807) (i1 : -9223372036854775808 ≤ S) (i2 : S ≤ 9223372036854775807) (j1 : -9223372036854775808 ≤ T) (j2 : T ≤ 9223372036854775807) :
    Calls Tryd.prog 3 #[.agg #[.int .i64 x.fq, .int .i64 x.iv, .int .i64 x.ct, .bool x.un, .int .i64 x.ua, .bool x.ut, s6, s7, s8, s9, s10, s11, s12, s13, s14, .int .i64 x.wk], .int .i64 S, .int .i64 T, .int .i64 P] w fun e w' => e = .returned (.bool true) ∧ Below w.heap.size w w' := by
  have HA := Lib.hid hA
  have L0 := Lib.hid hl
  obtain ⟨a6, c6, rfl⟩ := hl.h6.slice
  obtain ⟨a7, c7, rfl⟩ := hl.h7.slice
  obtain ⟨a8, c8, rfl⟩ := hl.h8.slice
  obtain ⟨a9, c9, rfl⟩ := hl.h9.slice
  obtain ⟨a10, c10, rfl⟩ := hl.h10.slice
  obtain ⟨a11, c11, rfl⟩ := hl.h11.slice
  obtain ⟨a12, c12, rfl⟩ := hl.h12.slice
  obtain ⟨a13, c13, rfl⟩ := hl.h13.slice
  obtain ⟨a14, c14, rfl⟩ := hl.h14.slice
  have L := Lib.hid hl
  have HU := Lib.hid (And.intro hu1 hu2)
  have BS : Hid ((-9223372036854775808 ≤ S ∧ S ≤ 9223372036854775807) ∧ (-9223372036854775808 ≤ T ∧ T ≤ 9223372036854775807)) := Lib.hid ⟨⟨i1, i2⟩, ⟨j1, j2⟩⟩
  obtain ⟨kb, hkb⟩ : ∃ c, ckB x = c := ⟨_, rfl⟩
  have HKB := Lib.hid hkb
  obtain ⟨n, hn⟩ : ∃ z, perV x T = z := ⟨_, rfl⟩
  obtain ⟨e, he⟩ : ∃ z, perE x T = z := ⟨_, rfl⟩
  obtain ⟨l, hll⟩ : ∃ z, letP x S T = z := ⟨_, rfl⟩
  obtain ⟨a, ha⟩ : ∃ z, spF x P = z := ⟨_, rfl⟩
  obtain ⟨b, hb⟩ : ∃ z, spT x P = z := ⟨_, rfl⟩
  obtain ⟨f, hf⟩ : ∃ z, spE x P = z := ⟨_, rfl⟩
  have PV := Lib.hid hn
  have PE := Lib.hid he
  have HL := Lib.hid hll
  have SF := Lib.hid ha
  have ST := Lib.hid hb
  have SE := Lib.hid hf
  clear hA hl L0 hu1 hu2 i1 i2 j1 j2 hkb hn he hll ha hb hf
  go_enter Tryd.func3, Tryd.ntmps3
  go_upto_region 0 with fail
  go_cut [4] (fun p wz => p = .pointer (some ⟨w.heap.size, 0, none⟩) ∧ Hid (Cs w.heap.size wz [.int .i64 x.fq, .int .i64 x.iv, .int .i64 x.ct, .bool x.un, .int .i64 x.ua, .bool x.ut, .slice a6 x.sc.length c6, .slice a7 x.mi.length c7, .slice a8 x.hr.length c8, .slice a9 x.dy.length c9, .slice a10 x.md.length c10, .slice a11 x.yd.length c11, .slice a12 x.wn.length c12, .slice a13 x.mo.length c13, .slice a14 x.sp.length c14, .int .i64 x.wk]) ∧ Hid (Below w.heap.size w wz))
  case first =>
    go_wp2
    go_meet
    exact ⟨rfl, Lib.hid (Cs.new w _ _), Lib.hid ((Below.refl _ _).alloc (Nat.le_refl _) _)⟩
  case rest =>
  obtain ⟨w1, rfl⟩ : ∃ x : World, x = wc := ⟨_, rfl⟩
  obtain ⟨rfl, RB, B⟩ := hcut
  go_wp2_with (refine ld16 RB.out rfl (by rfl) (by rfl) (by rfl) ?_; intro K hK; go_simp)
  refine (Rct.hv_to _ _ _ _ _ _ _ _ _ x _ (L.out.below B.out)).mono ?_
  rintro e w2 ⟨hb, rfl, HH, k⟩
  have RB := Lib.hid (RB.out.below k)
  have B := Lib.hid (bstep B.out k)
  clear k
  cases hb with
  | true =>
    go_wp2
    go_ret
    exact ⟨ret_b rfl, B.out⟩
  | false =>
  have L3 := Lib.hid (HH.out rfl)
  have SM := Lib.hid (small_of L3.out)
  have SC := Lib.hid (smlc_of L3.out)
  clear HH
  go_upto_region 3 with fail
  go_cut [9] (fun v wz => ∃ (w5 : World) (b6 b7 b8 b9 b10 b11 b12 b13 b14 : Option Addr) (d6 d7 d8 d9 d10 d11 d12 d13 d14 : Nat), v = .pointer (some ⟨w5.heap.size, 0, none⟩) ∧ Hid (w.heap.size < w5.heap.size) ∧ Hid (LisV wz x (.slice b6 x.sc.length d6) (.slice b7 x.mi.length d7) (.slice b8 x.hr.length d8) (.slice b9 x.dy.length d9) (.slice b10 x.md.length d10) (.slice b11 x.yd.length d11) (.slice b12 x.wn.length d12) (.slice b13 x.mo.length d13) (.slice b14 x.sp.length d14)) ∧ Hid (Cs w5.heap.size wz [.int .i64 x.fq, .int .i64 x.iv, .int .i64 x.ct, .bool x.un, .int .i64 x.ua, .bool x.ut, .slice b6 x.sc.length d6, .slice b7 x.mi.length d7, .slice b8 x.hr.length d8, .slice b9 x.dy.length d9, .slice b10 x.md.length d10, .slice b11 x.yd.length d11, .slice b12 x.wn.length d12, .slice b13 x.mo.length d13, .slice b14 x.sp.length d14, .int .i64 x.wk]) ∧ Hid (Cs w.heap.size wz [.int .i64 x.fq, .int .i64 x.iv, .int .i64 x.ct, .bool x.un, .int .i64 x.ua, .bool x.ut, .slice a6 x.sc.length c6, .slice a7 x.mi.length c7, .slice a8 x.hr.length c8, .slice a9 x.dy.length c9, .slice a10 x.md.length c10, .slice a11 x.yd.length c11, .slice a12 x.wn.length c12, .slice a13 x.mo.length c13, .slice a14 x.sp.length c14, .int .i64 x.wk]) ∧ Hid (Below w.heap.size w wz))
  case first =>
    go_wp2_with (refine ld16 RB.out rfl (by rfl) (by rfl) (by rfl) ?_; intro K hK; go_simp)
    refine (Twn.twin_go x a6 a7 a8 a9 a10 a11 a12 a13 a14 c6 c7 c8 c9 c10 c11 c12 c13 c14 _ (L.out.below B.out) L3.out).mono ?_
    rintro e w5 ⟨s6, s7, s8, s9, s10, s11, s12, s13, s14, rfl, ⟨m, n0, n1, n2, n3, n4, n5, n6, n7, n8, n9, _, _, _, _, _, _, _, _, _, _, _, _, t6, t7, t8, t10, t11, t12, t13, t14, t9⟩, k⟩
    have RB := Lib.hid (RB.out.below k)
    have B := Lib.hid (bstep B.out k)
    clear k
    have v6 := IntV.of_row t6.1
    have v7 := IntV.of_row t7.1
    have v8 := IntV.of_row t8.1
    have v9 := Rcp.RowD.days t9
    have v10 := IntV.of_row t10.1
    have v11 := IntV.of_row t11.1
    have v12 := IntV.of_row t12.1
    have v13 := IntV.of_row t13.1
    have v14 := IntV.of_row t14.1
    obtain ⟨b6, d6, rfl⟩ := v6.slice
    obtain ⟨b7, d7, rfl⟩ := v7.slice
    obtain ⟨b8, d8, rfl⟩ := v8.slice
    obtain ⟨b9, d9, rfl⟩ := v9.slice
    obtain ⟨b10, d10, rfl⟩ := v10.slice
    obtain ⟨b11, d11, rfl⟩ := v11.slice
    obtain ⟨b12, d12, rfl⟩ := v12.slice
    obtain ⟨b13, d13, rfl⟩ := v13.slice
    obtain ⟨b14, d14, rfl⟩ := v14.slice
    have LV := Lib.hid (show LisV w5 x (.slice b6 x.sc.length d6) (.slice b7 x.mi.length d7) (.slice b8 x.hr.length d8) (.slice b9 x.dy.length d9) (.slice b10 x.md.length d10) (.slice b11 x.yd.length d11) (.slice b12 x.wn.length d12) (.slice b13 x.mo.length d13) (.slice b14 x.sp.length d14) from ⟨v6, v7, v8, v9, v10, v11, v12, v13, v14⟩)
    have lt := Lib.hid RB.out.1
    clear t6 t7 t8 t9 t10 t11 t12 t13 t14 v6 v7 v8 v9 v10 v11 v12 v13 v14
    rw [Rcv.aggR]
    go_wp2
    go_meet
    exact ⟨w5, b6, b7, b8, b9, b10, b11, b12, b13, b14, d6, d7, d8, d9, d10, d11, d12, d13, d14, rfl, lt, Lib.hid (LV.out.below ((Below.refl _ _).alloc (Nat.le_refl _) _)), Lib.hid (Cs.new w5 _ _), Lib.hid (RB.out.alloc _), Lib.hid (B.out.alloc B.out.size _)⟩
  case rest =>
  obtain ⟨w6, rfl⟩ : ∃ x : World, x = wc := ⟨_, rfl⟩
  clear RB B
  obtain ⟨w5, b6, b7, b8, b9, b10, b11, b12, b13, b14, d6, d7, d8, d9, d10, d11, d12, d13, d14, rfl, lt, LB, IB, RB, B⟩ := hcut
  obtain ⟨g, hg⟩ : ∃ g, w5.heap.size = g := ⟨_, rfl⟩
  rw [hg] at lt IB ⊢
  clear hg
  go_upto_region 4 with fail
  go_cut [10, 11] (fun u v wz => u = .int .i64 n ∧ v = .int .i64 e ∧ Hid (LisV wz x (.slice b6 x.sc.length d6) (.slice b7 x.mi.length d7) (.slice b8 x.hr.length d8) (.slice b9 x.dy.length d9) (.slice b10 x.md.length d10) (.slice b11 x.yd.length d11) (.slice b12 x.wn.length d12) (.slice b13 x.mo.length d13) (.slice b14 x.sp.length d14)) ∧ Hid (Cs g wz [.int .i64 x.fq, .int .i64 x.iv, .int .i64 x.ct, .bool x.un, .int .i64 x.ua, .bool x.ut, .slice b6 x.sc.length d6, .slice b7 x.mi.length d7, .slice b8 x.hr.length d8, .slice b9 x.dy.length d9, .slice b10 x.md.length d10, .slice b11 x.yd.length d11, .slice b12 x.wn.length d12, .slice b13 x.mo.length d13, .slice b14 x.sp.length d14, .int .i64 x.wk]) ∧ Hid (Cs w.heap.size wz [.int .i64 x.fq, .int .i64 x.iv, .int .i64 x.ct, .bool x.un, .int .i64 x.ua, .bool x.ut, .slice a6 x.sc.length c6, .slice a7 x.mi.length c7, .slice a8 x.hr.length c8, .slice a9 x.dy.length c9, .slice a10 x.md.length c10, .slice a11 x.yd.length c11, .slice a12 x.wn.length c12, .slice a13 x.mo.length c13, .slice a14 x.sp.length c14, .int .i64 x.wk]) ∧ Hid (Below w.heap.size w wz))
  case first =>
    go_wp2_with (refine ld16 IB.out rfl (by rfl) (by rfl) (by rfl) ?_; intro K hK; go_simp)
    refine (per_to x _ _ _ _ _ _ _ _ _ T n e _ (HA.out.stays B.out) HU.out.1 HU.out.2 LB.out SM.out BS.out.2.1 BS.out.2.2 PV PE).mono ?_
    rintro e w7 ⟨rfl, k⟩
    have LB := Lib.hid (LB.out.below k)
    have IB := Lib.hid (IB.out.below k)
    have RB := Lib.hid (RB.out.below k)
    have B := Lib.hid (bstep B.out k)
    clear k
    go_wp2
    go_meet
    exact ⟨rfl, rfl, LB, IB, RB, B⟩
  case rest =>
  obtain ⟨w7, rfl⟩ : ∃ x : World, x = wc := ⟨_, rfl⟩
  clear LB IB RB B
  obtain ⟨rfl, rfl, LB, IB, RB, B⟩ := hcut
  go_upto_region 5 with fail
  go_cut [12] (fun u wz => u = .bool l ∧ Hid (LisV wz x (.slice b6 x.sc.length d6) (.slice b7 x.mi.length d7) (.slice b8 x.hr.length d8) (.slice b9 x.dy.length d9) (.slice b10 x.md.length d10) (.slice b11 x.yd.length d11) (.slice b12 x.wn.length d12) (.slice b13 x.mo.length d13) (.slice b14 x.sp.length d14)) ∧ Hid (Cs g wz [.int .i64 x.fq, .int .i64 x.iv, .int .i64 x.ct, .bool x.un, .int .i64 x.ua, .bool x.ut, .slice b6 x.sc.length d6, .slice b7 x.mi.length d7, .slice b8 x.hr.length d8, .slice b9 x.dy.length d9, .slice b10 x.md.length d10, .slice b11 x.yd.length d11, .slice b12 x.wn.length d12, .slice b13 x.mo.length d13, .slice b14 x.sp.length d14, .int .i64 x.wk]) ∧ Hid (Cs w.heap.size wz [.int .i64 x.fq, .int .i64 x.iv, .int .i64 x.ct, .bool x.un, .int .i64 x.ua, .bool x.ut, .slice a6 x.sc.length c6, .slice a7 x.mi.length c7, .slice a8 x.hr.length c8, .slice a9 x.dy.length c9, .slice a10 x.md.length c10, .slice a11 x.yd.length c11, .slice a12 x.wn.length c12, .slice a13 x.mo.length c13, .slice a14 x.sp.length c14, .int .i64 x.wk]) ∧ Hid (Below w.heap.size w wz))
  case first =>
    go_wp2_with (refine ld16 IB.out rfl (by rfl) (by rfl) (by rfl) ?_; intro K hK; go_simp)
    refine (lets_to x _ _ _ _ _ _ _ _ _ S T l _ (HA.out.stays B.out) HU.out.1 HU.out.2 LB.out SM.out (nth_all (HA.out.stays B.out) LB.out) BS.out.1.1 BS.out.1.2 BS.out.2.1 BS.out.2.2 HL).mono ?_
    rintro e w8 ⟨rfl, k⟩
    have LB := Lib.hid (LB.out.below k)
    have IB := Lib.hid (IB.out.below k)
    have RB := Lib.hid (RB.out.below k)
    have B := Lib.hid (bstep B.out k)
    clear k
    go_wp2
    go_meet
    exact ⟨rfl, LB, IB, RB, B⟩
  case rest =>
  obtain ⟨w8, rfl⟩ : ∃ x : World, x = wc := ⟨_, rfl⟩
  clear LB IB RB B
  obtain ⟨rfl, LB, IB, RB, B⟩ := hcut
  go_upto_region 6 with fail
  go_cut [13, 14, 15] (fun u v d wz => u = .int .i64 a ∧ v = .int .i64 b ∧ d = .int .i64 f ∧ Hid (LisV wz x (.slice b6 x.sc.length d6) (.slice b7 x.mi.length d7) (.slice b8 x.hr.length d8) (.slice b9 x.dy.length d9) (.slice b10 x.md.length d10) (.slice b11 x.yd.length d11) (.slice b12 x.wn.length d12) (.slice b13 x.mo.length d13) (.slice b14 x.sp.length d14)) ∧ Hid (Cs g wz [.int .i64 x.fq, .int .i64 x.iv, .int .i64 x.ct, .bool x.un, .int .i64 x.ua, .bool x.ut, .slice b6 x.sc.length d6, .slice b7 x.mi.length d7, .slice b8 x.hr.length d8, .slice b9 x.dy.length d9, .slice b10 x.md.length d10, .slice b11 x.yd.length d11, .slice b12 x.wn.length d12, .slice b13 x.mo.length d13, .slice b14 x.sp.length d14, .int .i64 x.wk]) ∧ Hid (Cs w.heap.size wz [.int .i64 x.fq, .int .i64 x.iv, .int .i64 x.ct, .bool x.un, .int .i64 x.ua, .bool x.ut, .slice a6 x.sc.length c6, .slice a7 x.mi.length c7, .slice a8 x.hr.length c8, .slice a9 x.dy.length c9, .slice a10 x.md.length c10, .slice a11 x.yd.length c11, .slice a12 x.wn.length c12, .slice a13 x.mo.length c13, .slice a14 x.sp.length c14, .int .i64 x.wk]) ∧ Hid (Below w.heap.size w wz))
  case first =>
    go_wp2_with (refine ld16 IB.out rfl (by rfl) (by rfl) (by rfl) ?_; intro K hK; go_simp)
    refine (span_to x _ _ _ _ _ _ _ _ _ P a b f _ (HA.out.stays B.out) HU.out.1 HU.out.2 LB.out SM.out SF ST SE).mono ?_
    rintro e w9 ⟨rfl, k⟩
    have LB := Lib.hid (LB.out.below k)
    have IB := Lib.hid (IB.out.below k)
    have RB := Lib.hid (RB.out.below k)
    have B := Lib.hid (bstep B.out k)
    clear k
    go_wp2
    go_meet
    exact ⟨rfl, rfl, rfl, LB, IB, RB, B⟩
  case rest =>
  obtain ⟨w9, rfl⟩ : ∃ x : World, x = wc := ⟨_, rfl⟩
  clear LB IB RB B
  obtain ⟨rfl, rfl, rfl, LB, IB, RB, B⟩ := hcut
  go_upto_region 7 with fail
  go_cut [47] (fun v wz => v = .bool false ∧ Hid (Cs w.heap.size wz [.int .i64 x.fq, .int .i64 x.iv, .int .i64 x.ct, .bool x.un, .int .i64 x.ua, .bool x.ut, .slice a6 x.sc.length c6, .slice a7 x.mi.length c7, .slice a8 x.hr.length c8, .slice a9 x.dy.length c9, .slice a10 x.md.length c10, .slice a11 x.yd.length c11, .slice a12 x.wn.length c12, .slice a13 x.mo.length c13, .slice a14 x.sp.length c14, .int .i64 x.wk]) ∧ Hid (Below w.heap.size w wz))
  case first =>
    go_wp2_with (first | (refine ld16 IB.out rfl (by rfl) (by rfl) (by rfl) ?_; intro K hK; go_simp) | (refine ld16 RB.out rfl (by rfl) (by rfl) (by rfl) ?_; intro K hK; go_simp))
    have kr := (Rcv.krec_to _ _ _ _ _ _ _ _ _ _ _ _ _ _ _ _ _ _ x x _ LB.out (L.out.below B.out) SC.out SC.out)
    unfold Rcv.aggR at kr
    refine kr.mono ?_
    clear kr
    rintro e w10 ⟨c, rfl, hc, k⟩
    obtain rfl : c = true := hc.2 rfl
    clear hc
    have RB := Lib.hid (RB.out.below k)
    have B := Lib.hid (bstep B.out k)
    clear k
    go_wp2
    go_meet
    exact ⟨rfl, RB, B⟩
  case rest =>
  obtain ⟨w10, rfl⟩ : ∃ x : World, x = wc := ⟨_, rfl⟩
  clear LB IB RB B
  obtain ⟨rfl, RB, B⟩ := hcut
  go_upto_region 9 with fail
  rename_i K11 hK11 Kc hKc
  go_cut [50] (fun v wz => v = .bool (!kb) ∧ Hid (Cs w.heap.size wz [.int .i64 x.fq, .int .i64 x.iv, .int .i64 x.ct, .bool x.un, .int .i64 x.ua, .bool x.ut, .slice a6 x.sc.length c6, .slice a7 x.mi.length c7, .slice a8 x.hr.length c8, .slice a9 x.dy.length c9, .slice a10 x.md.length c10, .slice a11 x.yd.length c11, .slice a12 x.wn.length c12, .slice a13 x.mo.length c13, .slice a14 x.sp.length c14, .int .i64 x.wk]) ∧ Hid (Below w.heap.size w wz))
  case first =>
    go_wp2_with (refine ld16 RB.out rfl (by rfl) (by rfl) (by rfl) ?_; intro K hK; go_simp)
    refine (Rrl.rrec_to _ _ _ _ _ _ _ _ _ x kb _ HU.out.1 HU.out.2 (L.out.below B.out) HKB).mono ?_
    rintro e w3 ⟨rfl, k⟩
    have RB := Lib.hid (RB.out.below k)
    have B := Lib.hid (bstep B.out k)
    clear k
    go_wp2
    go_meet
    exact ⟨rfl, RB, B⟩
  case rest =>
  obtain ⟨w11, rfl⟩ : ∃ x : World, x = wc := ⟨_, rfl⟩
  clear RB B
  obtain ⟨rfl, RB, B⟩ := hcut
  cases kb with
  | false =>
    obtain rfl : n = 0 := by rw [← PV.out, perV, if_neg (fun h => by rw [HKB.out] at h; exact absurd h.1 (by decide))]
    obtain rfl : e = 21 := by rw [← PE.out, perE, if_neg (fun h => by rw [HKB.out] at h; exact absurd h (by decide))]
    obtain rfl : l = false := by rw [← HL.out, letP, HKB.out]; rfl
    obtain rfl : a = 0 := by rw [← SF.out, spF, if_neg (fun h => by rw [HKB.out] at h; exact absurd h.1 (by decide))]
    obtain rfl : b = 0 := by rw [← ST.out, Fil.spT, if_neg (fun h => by rw [HKB.out] at h; exact absurd h.1 (by decide))]
    obtain rfl : f = 21 := by rw [← SE.out, spE, if_neg (fun h => by rw [HKB.out] at h; exact absurd h (by decide))]
    go_wp2_with fail
    refine (wakes22_any _ (HA.out.stays B.out)).mono ?_
    rintro e w13 ⟨rfl, k⟩
    go_wp2
    go_ret
    exact ⟨ret_b rfl, bstep B.out k⟩
  | true =>
    go_step
    go_step
    go_step
    go_step
    exact hK11 _ _ (fexT x a6 a7 a8 a9 a10 a11 a12 a13 a14 c6 c7 c8 c9 c10 c11 c12 c13 c14 S T P n e a b f l w _ HA L SM HKB BS PV PE HL SF ST SE RB B _ _ _ _ _ _ _ _ _ _ _ _ _ _ _ _ _ _ _ _ _ _ _ _ _ _ _ _ _ _ _ _ _ _ _ _ _ _ _ _ _ _ _ _ _ _ _ _ _ _ _ _ _ _ _ _ _ _ _ _ _ _ _ _ _ _ _ _ _ _ _ _ _ _ _ _ _ _ _ _ _ _ _ _ _ _ _ _ _ _ _ _ _ _ _ _ _ _ _ _ _ _ _ _ _ _ _ _ _ _ _ _ _ _ _ _ _ _ _ _ _ _ _ _ _ _ _ _ _ _ _ _ _ _ _ _ _ _ _ _)
end Fil
end Go.Proofs.YtpbdlgmkkbccmaaDoor
