/-
  RrulePicks, its regions 4 to 8: the rule twice more, one with the places.
-/
import Derived.Test.YtgaolaafjiiehaaGreatDoorRruLp2
import Derived.Test.YtgaolaafjiiehaaGreatDoorBdTw
import Derived.Test.YtgaolaafjiiehaaGreatDoorBdRl
namespace Go.Proofs.YtgaolaafjiiehaaGreatDoor
open Go.RowKit
namespace Rru
open Rcv (CV LisV IntV DayV)
open Rck (ckE ckB Small)
open Ap (RowI)
open Civ (numV numE dY dM dD dnE ydV Ahead)
open Fil (moO mo_bd spE spT spF spQ perV perE perQ ld16 vsm vsm_mo vsm_bd vsome_to ck_fq per_to span_to)
open Cel

noncomputable def pkT8C : Code := (Tryz.f3.body.bind (Tl.from_ 8)).getD .skip
set_option maxHeartbeats 25600000 in
set_option maxRecDepth 100000 in
theorem pkT8 (x : CV) (s6 s7 s8 s9 s10 s11 s12 s13 s14 : Value) (q6 q7 q8 q9 q10 q11 q12 q13 u6 u7 u8 u9 u10 u11 u12 u13 : Value) (T p_ : Int) (g h : Nat) (N : List Int) (pA : Option Addr) (pc : Nat) (w w8 : World) (HA : Hid (Ahead w)) (HU : Hid (-9223372036854775808 ≤ x.ua ∧ x.ua ≤ 9223372036854775807)) (L : Hid (LisV w x s6 s7 s8 s9 s10 s11 s12 s13 s14)) (S : Hid (Small x)) (HKB : Hid (ckB x = true)) (MT : Hid (moO T = true)) (PE : Hid (perE x T = 0)) (SM : Hid (4 ≤ x.fq ∧ x.sc.length ≤ 4 ∧ x.mi.length ≤ 4)) (PV : Hid (IntV w (.slice pA N.length pc) N)) (RB : Hid (Cs w.heap.size w8 [.int .i64 x.fq, .int .i64 x.iv, .int .i64 x.ct, .bool x.un, .int .i64 x.ua, .bool x.ut, s6, s7, s8, s9, s10, s11, s12, s13, s14, .int .i64 x.wk])) (PQ0 : PQ x q6 q7 q8 q9 q10 q11 q12 q13 u6 u7 u8 u9 u10 u11 u12 u13 g h N pA pc w w8) (z0 z5 z6 z7 z8 z11 z12 z13 z14 z15 z16 z17 z18 z19 z20 z21 z22 z23 z24 z25 z26 z27 z28 z29 z30 z31 z32 z33 z34 z35 z36 z37 z38 z39 z40 z41 z42 z43 z44 z45 z46 z47 z48 z49 z50 z51 z52 z53 z54 z55 z56 z57 z58 z59 z60 z61 z62 z63 z64 z65 z66 z67 z68 z69 z70 z71 z72 z73 z74 z75 z76 z77 z78 z79 z80 z81 z82 z83 z84 z85 z86 z87 z88 z89 z90 z91 z92 z93 z94 z95 z96 z97 z98 z99 z100 z101 z102 z103 z104 z105 z106 z107 z108 z109 z110 z111 z112 z113 z114 z115 z116 z117 z118 z119 z120 z121 z122 z123 z124 z125 z126 z127 z128 z129 z130 z131 z132 z133 z134 z135 z136 z137 z138 z139 z140 z141 z142 z143 z144 z145 z146 z147 z148 z149 z150 z151 z152 z153 z154 z155 z156 z157 z158 z159 z160 z161 z162 z163 z164 z165 z166 z167 z168 z169 z170 z171 z172 : Value) : Code.wp Tryz.prog pkT8C (bodyPost Tryz.prog Tryz.f3 (fun e w' => e = .returned (.bool true) ∧ Below w.heap.size w w')) ⟨List.toArray (z0 :: .int .i64 T :: .int .i64 p_ :: .slice pA N.length pc :: .pointer (some ⟨w.heap.size, 0, none⟩) :: z5 :: z6 :: z7 :: z8 :: .pointer (some ⟨g, 0, none⟩) :: .pointer (some ⟨h, 0, none⟩) :: z11 :: z12 :: z13 :: z14 :: z15 :: z16 :: z17 :: z18 :: z19 :: z20 :: z21 :: z22 :: z23 :: z24 :: z25 :: z26 :: z27 :: z28 :: z29 :: z30 :: z31 :: z32 :: z33 :: z34 :: z35 :: z36 :: z37 :: z38 :: z39 :: z40 :: z41 :: z42 :: z43 :: z44 :: z45 :: z46 :: z47 :: z48 :: z49 :: z50 :: z51 :: z52 :: z53 :: z54 :: z55 :: z56 :: z57 :: z58 :: z59 :: z60 :: z61 :: z62 :: z63 :: z64 :: z65 :: z66 :: z67 :: z68 :: z69 :: z70 :: z71 :: z72 :: z73 :: z74 :: z75 :: z76 :: z77 :: z78 :: z79 :: z80 :: z81 :: z82 :: z83 :: z84 :: z85 :: z86 :: z87 :: z88 :: z89 :: z90 :: z91 :: z92 :: z93 :: z94 :: z95 :: z96 :: z97 :: z98 :: z99 :: z100 :: z101 :: z102 :: z103 :: z104 :: z105 :: z106 :: z107 :: z108 :: z109 :: z110 :: z111 :: z112 :: z113 :: z114 :: z115 :: z116 :: z117 :: z118 :: z119 :: z120 :: z121 :: z122 :: z123 :: z124 :: z125 :: z126 :: z127 :: z128 :: z129 :: z130 :: z131 :: z132 :: z133 :: z134 :: z135 :: z136 :: z137 :: z138 :: z139 :: z140 :: z141 :: z142 :: z143 :: z144 :: z145 :: z146 :: z147 :: z148 :: z149 :: z150 :: z151 :: z152 :: z153 :: z154 :: z155 :: z156 :: z157 :: z158 :: z159 :: z160 :: z161 :: z162 :: z163 :: z164 :: z165 :: z166 :: z167 :: z168 :: z169 :: z170 :: z171 :: z172 :: []), []⟩ w8 := by
  conv => arg 2; whnf
  go_upto_region 8 with fail
  rename_i K8 hK8 Kc hKc
  have B := PQ0.2.2.2.2
  by_cases n60 : 60 < (N.length : Int)
  · go_wp2
    go_ret
    exact ⟨ret_b rfl, B.out⟩
  obtain ⟨k2, hk2⟩ : ∃ z, ckB (withSp x N) = z := ⟨_, rfl⟩
  have HK2 := Lib.hid hk2
  clear hk2
  go_cut [80] (fun a wz => ∃ b8, a = .bool b8 ∧ Hid (b8 = (!k2 || decide (N.length = 0))) ∧ PQ x q6 q7 q8 q9 q10 q11 q12 q13 u6 u7 u8 u9 u10 u11 u12 u13 g h N pA pc w wz ∧ Hid (Cs w.heap.size wz [.int .i64 x.fq, .int .i64 x.iv, .int .i64 x.ct, .bool x.un, .int .i64 x.ua, .bool x.ut, s6, s7, s8, s9, s10, s11, s12, s13, s14, .int .i64 x.wk]))
  case first =>
    have G := PQ0.2.1
    go_wp2_with (refine ld16 G.out rfl (by rfl) (by rfl) (by rfl) ?_; intro K hK; go_simp)
    refine (Rrl.rrec_to _ _ _ _ _ _ _ _ _ (withSp x N) k2 _ HU.out.1 HU.out.2 PQ0.2.2.2.1.out HK2).mono ?_
    rintro e w9 ⟨rfl, k⟩
    have P1 := pq_below PQ0 k
    have RB := Lib.hid (RB.out.below k)
    clear k G
    cases k2 with
    | false =>
      go_wp2
      go_meet
      exact ⟨_, rfl, Lib.hid rfl, P1, RB⟩
    | true =>
      by_cases n0 : N.length = 0
      · have e0 : ((N.length : Int) == 0) = true := beq_iff_eq.2 (by omega)
        have N0 := Lib.hid n0
        clear n0
        go_wp2
        go_meet
        exact ⟨_, rfl, Lib.hid (by rw [decide_eq_true N0.out]; rfl), P1, RB⟩
      · have e0 : ((N.length : Int) == 0) = false := beq_eq_false_iff_ne.2 (by omega)
        have N0 := Lib.hid n0
        clear n0
        go_wp2
        go_meet
        exact ⟨_, rfl, Lib.hid (by rw [decide_eq_false N0.out]; rfl), P1, RB⟩
  case rest =>
  obtain ⟨w9, rfl⟩ : ∃ x : World, x = wc := ⟨_, rfl⟩
  clear RB B PQ0
  obtain ⟨b8, rfl, HB8, PQ0, RB⟩ := hcut
  have B := PQ0.2.2.2.2
  cases b8 with
  | true =>
    go_wp2
    go_ret
    exact ⟨ret_b rfl, B.out⟩
  | false =>
  have h8 := HB8.out
  cases k2 with
  | false => simp at h8
  | true =>
  have n0 : ¬ N.length = 0 := fun e => by rw [decide_eq_true e] at h8; simp at h8
  have NL : Hid (1 ≤ N.length ∧ N.length ≤ 60) := Lib.hid (by omega)
  clear h8 HB8
  clear n0 n60 B
  go_step
  go_step
  go_step
  go_step
  exact hK8 _ _ (pkT10 x s6 s7 s8 s9 s10 s11 s12 s13 s14 q6 q7 q8 q9 q10 q11 q12 q13 u6 u7 u8 u9 u10 u11 u12 u13 T p_ g h N pA pc w w9 HA HU L S HKB MT PE SM HK2 PV NL RB PQ0 _ _ _ _ _ _ _ _ _ _ _ _ _ _ _ _ _ _ _ _ _ _ _ _ _ _ _ _ _ _ _ _ _ _ _ _ _ _ _ _ _ _ _ _ _ _ _ _ _ _ _ _ _ _ _ _ _ _ _ _ _ _ _ _ _ _ _ _ _ _ _ _ _ _ _ _ _ _ _ _ _ _ _ _ _ _ _ _ _ _ _ _ _ _ _ _ _ _ _ _ _ _ _ _ _ _ _ _ _ _ _ _ _ _ _ _ _ _ _ _ _ _ _ _ _ _ _ _ _ _ _ _ _ _ _ _ _ _ _ _ _ _ _ _ _ _ _ _ _ _ _ _ _ _ _ _ _ _ _ _ _ _ _ _ _ _ _)

noncomputable def pkT4C : Code := (Tryz.f3.body.bind (Tl.from_ 4)).getD .skip
set_option maxHeartbeats 25600000 in
set_option maxRecDepth 100000 in
theorem pkT4 (x : CV) (s6 s7 s8 s9 s10 s11 s12 s13 s14 : Value) (T p_ : Int) (N : List Int) (pA : Option Addr) (pc : Nat) (w w4 : World) (HA : Hid (Ahead w)) (HU : Hid (-9223372036854775808 ≤ x.ua ∧ x.ua ≤ 9223372036854775807)) (L : Hid (LisV w x s6 s7 s8 s9 s10 s11 s12 s13 s14)) (S : Hid (Small x)) (HKB : Hid (ckB x = true)) (MT : Hid (moO T = true)) (PE : Hid (perE x T = 0)) (SM : Hid (4 ≤ x.fq ∧ x.sc.length ≤ 4 ∧ x.mi.length ≤ 4)) (PV : Hid (IntV w (.slice pA N.length pc) N)) (L3 : Hid (Rct.Len3 x)) (RB : Hid (Cs w.heap.size w4 [.int .i64 x.fq, .int .i64 x.iv, .int .i64 x.ct, .bool x.un, .int .i64 x.ua, .bool x.ut, s6, s7, s8, s9, s10, s11, s12, s13, s14, .int .i64 x.wk])) (B : Hid (Below w.heap.size w w4)) (z0 z5 z6 z7 z8 z9 z10 z11 z12 z13 z14 z15 z16 z17 z18 z19 z20 z21 z22 z23 z24 z25 z26 z27 z28 z29 z30 z31 z32 z33 z34 z35 z36 z37 z38 z39 z40 z41 z42 z43 z44 z45 z46 z47 z48 z49 z50 z51 z52 z53 z54 z55 z56 z57 z58 z59 z60 z61 z62 z63 z64 z65 z66 z67 z68 z69 z70 z71 z72 z73 z74 z75 z76 z77 z78 z79 z80 z81 z82 z83 z84 z85 z86 z87 z88 z89 z90 z91 z92 z93 z94 z95 z96 z97 z98 z99 z100 z101 z102 z103 z104 z105 z106 z107 z108 z109 z110 z111 z112 z113 z114 z115 z116 z117 z118 z119 z120 z121 z122 z123 z124 z125 z126 z127 z128 z129 z130 z131 z132 z133 z134 z135 z136 z137 z138 z139 z140 z141 z142 z143 z144 z145 z146 z147 z148 z149 z150 z151 z152 z153 z154 z155 z156 z157 z158 z159 z160 z161 z162 z163 z164 z165 z166 z167 z168 z169 z170 z171 z172 : Value) : Code.wp Tryz.prog pkT4C (bodyPost Tryz.prog Tryz.f3 (fun e w' => e = .returned (.bool true) ∧ Below w.heap.size w w')) ⟨List.toArray (z0 :: .int .i64 T :: .int .i64 p_ :: .slice pA N.length pc :: .pointer (some ⟨w.heap.size, 0, none⟩) :: z5 :: z6 :: z7 :: z8 :: z9 :: z10 :: z11 :: z12 :: z13 :: z14 :: z15 :: z16 :: z17 :: z18 :: z19 :: z20 :: z21 :: z22 :: z23 :: z24 :: z25 :: z26 :: z27 :: z28 :: z29 :: z30 :: z31 :: z32 :: z33 :: z34 :: z35 :: z36 :: z37 :: z38 :: z39 :: z40 :: z41 :: z42 :: z43 :: z44 :: z45 :: z46 :: z47 :: z48 :: z49 :: z50 :: z51 :: z52 :: z53 :: z54 :: z55 :: z56 :: z57 :: z58 :: z59 :: z60 :: z61 :: z62 :: z63 :: z64 :: z65 :: z66 :: z67 :: z68 :: z69 :: z70 :: z71 :: z72 :: z73 :: z74 :: z75 :: z76 :: z77 :: z78 :: z79 :: z80 :: z81 :: z82 :: z83 :: z84 :: z85 :: z86 :: z87 :: z88 :: z89 :: z90 :: z91 :: z92 :: z93 :: z94 :: z95 :: z96 :: z97 :: z98 :: z99 :: z100 :: z101 :: z102 :: z103 :: z104 :: z105 :: z106 :: z107 :: z108 :: z109 :: z110 :: z111 :: z112 :: z113 :: z114 :: z115 :: z116 :: z117 :: z118 :: z119 :: z120 :: z121 :: z122 :: z123 :: z124 :: z125 :: z126 :: z127 :: z128 :: z129 :: z130 :: z131 :: z132 :: z133 :: z134 :: z135 :: z136 :: z137 :: z138 :: z139 :: z140 :: z141 :: z142 :: z143 :: z144 :: z145 :: z146 :: z147 :: z148 :: z149 :: z150 :: z151 :: z152 :: z153 :: z154 :: z155 :: z156 :: z157 :: z158 :: z159 :: z160 :: z161 :: z162 :: z163 :: z164 :: z165 :: z166 :: z167 :: z168 :: z169 :: z170 :: z171 :: z172 :: []), []⟩ w4 := by
  conv => arg 2; whnf
  go_upto_region 4 with fail
  go_cut [9] (fun a wz => ∃ (g : Nat) (q6 q7 q8 q9 q10 q11 q12 q13 t14 : Value), a = .pointer (some ⟨g, 0, none⟩) ∧ Hid (w.heap.size < g) ∧ Hid (Cs g wz [.int .i64 x.fq, .int .i64 x.iv, .int .i64 x.ct, .bool x.un, .int .i64 x.ua, .bool x.ut, q6, q7, q8, q9, q10, q11, q12, q13, t14, .int .i64 x.wk]) ∧ Hid (∀ (v : Value), LisV (wz.setCell ⟨g, 14, none⟩ v) (withSp x []) q6 q7 q8 q9 q10 q11 q12 q13 (.slice none 0 0)) ∧ Hid (Cs w.heap.size wz [.int .i64 x.fq, .int .i64 x.iv, .int .i64 x.ct, .bool x.un, .int .i64 x.ua, .bool x.ut, s6, s7, s8, s9, s10, s11, s12, s13, s14, .int .i64 x.wk]) ∧ Hid (Below w.heap.size w wz))
  case first =>
    obtain ⟨a6, c6, rfl⟩ := L.out.h6.slice
    obtain ⟨a7, c7, rfl⟩ := L.out.h7.slice
    obtain ⟨a8, c8, rfl⟩ := L.out.h8.slice
    obtain ⟨a9, c9, rfl⟩ := L.out.h9.slice
    obtain ⟨a13, c13, rfl⟩ := L.out.h13.slice
    obtain ⟨a10, c10, rfl⟩ := L.out.h10.slice
    obtain ⟨a11, c11, rfl⟩ := L.out.h11.slice
    obtain ⟨a12, c12, rfl⟩ := L.out.h12.slice
    obtain ⟨a14, c14, rfl⟩ := L.out.h14.slice
    go_wp2_with (refine ld16 RB.out rfl (by rfl) (by rfl) (by rfl) ?_; intro K hK; go_simp)
    refine (Twn.twin_go x a6 a7 a8 a9 a10 a11 a12 a13 a14 c6 c7 c8 c9 c10 c11 c12 c13 c14 _ (L.out.below B.out) L3.out).mono ?_
    rintro e w5 ⟨v6, v7, v8, v9, v10, v11, v12, v13, v14, rfl, ⟨m, n0, n1, n2, n3, n4, n5, n6, n7, n8, n9, _, _, _, _, _, _, _, _, _, _, _, _, t6, t7, t8, t10, t11, t12, t13, t14, t9⟩, k⟩
    have RB := Lib.hid (RB.out.below k)
    have B := Lib.hid (bstep B.out k)
    clear k
    have z6 := IntV.of_row t6.1
    have z7 := IntV.of_row t7.1
    have z8 := IntV.of_row t8.1
    have z9 := Rcp.RowD.days t9
    have z10 := IntV.of_row t10.1
    have z11 := IntV.of_row t11.1
    have z12 := IntV.of_row t12.1
    have z13 := IntV.of_row t13.1
    have z14 := IntV.of_row t14.1
    have LV := Lib.hid (show LisV w5 (withSp x []) v6 v7 v8 v9 v10 v11 v12 v13 (.slice none 0 0) from ⟨z6, z7, z8, z9, z10, z11, z12, z13, IntV.none _⟩)
    obtain ⟨b6, d6, rfl⟩ := z6.slice
    obtain ⟨b7, d7, rfl⟩ := z7.slice
    obtain ⟨b8, d8, rfl⟩ := z8.slice
    obtain ⟨b9, d9, rfl⟩ := z9.slice
    obtain ⟨b10, d10, rfl⟩ := z10.slice
    obtain ⟨b11, d11, rfl⟩ := z11.slice
    obtain ⟨b12, d12, rfl⟩ := z12.slice
    obtain ⟨b13, d13, rfl⟩ := z13.slice
    obtain ⟨b14, d14, rfl⟩ := z14.slice
    have lt := Lib.hid RB.out.1
    clear t6 t7 t8 t9 t10 t11 t12 t13 t14 z6 z7 z8 z9 z10 z11 z12 z13 z14
    rw [Rcv.aggR]
    go_wp2
    go_meet
    refine ⟨w5.heap.size, _, _, _, _, _, _, _, _, _, rfl, lt, Lib.hid (Cs.new w5 _ _), ?_, Lib.hid (RB.out.alloc _), Lib.hid (B.out.alloc B.out.size _)⟩
    exact Lib.hid (fun v => LV.out.below (((Below.refl _ _).alloc (Nat.le_refl _) _).setCell (Nat.le_refl _) _))
  case rest =>
  obtain ⟨w5, rfl⟩ : ∃ x : World, x = wc := ⟨_, rfl⟩
  clear RB B
  obtain ⟨g, q6, q7, q8, q9, q10, q11, q12, q13, t14, rfl, HG, G, LS, RB, B⟩ := hcut
  go_upto_region 5 with fail
  have g2 := (G.out.2 14 _ rfl).1
  have g2b := (G.out.2 14 _ rfl).2
  go_cut [9] (fun a wz => a = .pointer (some ⟨g, 0, none⟩) ∧ Hid (Cs g wz [.int .i64 x.fq, .int .i64 x.iv, .int .i64 x.ct, .bool x.un, .int .i64 x.ua, .bool x.ut, q6, q7, q8, q9, q10, q11, q12, q13, .slice none 0 0, .int .i64 x.wk]) ∧ Hid (LisV wz (withSp x []) q6 q7 q8 q9 q10 q11 q12 q13 (.slice none 0 0)) ∧ Hid (Cs w.heap.size wz [.int .i64 x.fq, .int .i64 x.iv, .int .i64 x.ct, .bool x.un, .int .i64 x.ua, .bool x.ut, s6, s7, s8, s9, s10, s11, s12, s13, s14, .int .i64 x.wk]) ∧ Hid (Below w.heap.size w wz))
  case first =>
    go_wp2
    go_meet
    refine ⟨rfl, Lib.hid (G.out.set 14 (by simp) _), Lib.hid (LS.out _), Lib.hid (RB.out.other (by have := HG.out; omega) _), Lib.hid (B.out.setCell (p := ⟨g, 14, none⟩) (Nat.le_of_lt HG.out) _)⟩
  case rest =>
  obtain ⟨w6, rfl⟩ : ∃ x : World, x = wc := ⟨_, rfl⟩
  clear RB B G LS g2 g2b
  obtain ⟨rfl, G, LX, RB, B⟩ := hcut
  have L3x : Hid (Rct.Len3 (withSp x [])) := Lib.hid ⟨L3.out.sc, L3.out.mi, L3.out.hr, L3.out.dy, L3.out.md, L3.out.yd, L3.out.wn, L3.out.mo, Nat.zero_le _⟩
  go_upto_region 6 with fail
  go_cut [10] (fun a wz => ∃ (h : Nat) (u6 u7 u8 u9 u10 u11 u12 u13 t14 : Value), a = .pointer (some ⟨h, 0, none⟩) ∧ Hid (g < h) ∧ Hid (Cs h wz [.int .i64 x.fq, .int .i64 x.iv, .int .i64 x.ct, .bool x.un, .int .i64 x.ua, .bool x.ut, u6, u7, u8, u9, u10, u11, u12, u13, t14, .int .i64 x.wk]) ∧ Hid (∀ (v : Value), LisV (wz.setCell ⟨h, 14, none⟩ v) (withSp x N) u6 u7 u8 u9 u10 u11 u12 u13 (.slice pA N.length pc)) ∧ Hid (Cs g wz [.int .i64 x.fq, .int .i64 x.iv, .int .i64 x.ct, .bool x.un, .int .i64 x.ua, .bool x.ut, q6, q7, q8, q9, q10, q11, q12, q13, .slice none 0 0, .int .i64 x.wk]) ∧ Hid (∀ (v : Value), LisV (wz.setCell ⟨h, 14, none⟩ v) (withSp x []) q6 q7 q8 q9 q10 q11 q12 q13 (.slice none 0 0)) ∧ Hid (Cs w.heap.size wz [.int .i64 x.fq, .int .i64 x.iv, .int .i64 x.ct, .bool x.un, .int .i64 x.ua, .bool x.ut, s6, s7, s8, s9, s10, s11, s12, s13, s14, .int .i64 x.wk]) ∧ Hid (Below w.heap.size w wz))
  case first =>
    obtain ⟨b6, d6, rfl⟩ := LX.out.h6.slice
    obtain ⟨b7, d7, rfl⟩ := LX.out.h7.slice
    obtain ⟨b8, d8, rfl⟩ := LX.out.h8.slice
    obtain ⟨b9, d9, rfl⟩ := LX.out.h9.slice
    obtain ⟨b10, d10, rfl⟩ := LX.out.h10.slice
    obtain ⟨b11, d11, rfl⟩ := LX.out.h11.slice
    obtain ⟨b12, d12, rfl⟩ := LX.out.h12.slice
    obtain ⟨b13, d13, rfl⟩ := LX.out.h13.slice
    go_wp2_with (refine ld16 G.out rfl (by rfl) (by rfl) (by rfl) ?_; intro K hK; go_simp)
    refine (Twn.twin_go (withSp x []) b6 b7 b8 b9 b10 b11 b12 b13 none d6 d7 d8 d9 d10 d11 d12 d13 0 _ LX.out L3x.out).mono ?_
    rintro e w7 ⟨v6, v7, v8, v9, v10, v11, v12, v13, v14, rfl, ⟨m, n0, n1, n2, n3, n4, n5, n6, n7, n8, n9, _, _, _, _, _, _, _, _, _, _, _, _, t6, t7, t8, t10, t11, t12, t13, t14, t9⟩, k⟩
    have RB := Lib.hid (RB.out.below k)
    have G := Lib.hid (G.out.below k)
    have LX := Lib.hid (LX.out.below k)
    have B := Lib.hid (bstep B.out k)
    clear k
    have z6 := IntV.of_row t6.1
    have z7 := IntV.of_row t7.1
    have z8 := IntV.of_row t8.1
    have z9 := Rcp.RowD.days t9
    have z10 := IntV.of_row t10.1
    have z11 := IntV.of_row t11.1
    have z12 := IntV.of_row t12.1
    have z13 := IntV.of_row t13.1
    have z14 := IntV.of_row t14.1
    have LV := Lib.hid (show LisV w7 (withSp x N) v6 v7 v8 v9 v10 v11 v12 v13 (.slice pA N.length pc) from ⟨z6, z7, z8, z9, z10, z11, z12, z13, PV.out.below B.out⟩)
    obtain ⟨y6, e6, rfl⟩ := z6.slice
    obtain ⟨y7, e7, rfl⟩ := z7.slice
    obtain ⟨y8, e8, rfl⟩ := z8.slice
    obtain ⟨y9, e9, rfl⟩ := z9.slice
    obtain ⟨y10, e10, rfl⟩ := z10.slice
    obtain ⟨y11, e11, rfl⟩ := z11.slice
    obtain ⟨y12, e12, rfl⟩ := z12.slice
    obtain ⟨y13, e13, rfl⟩ := z13.slice
    obtain ⟨y14, e14, rfl⟩ := z14.slice
    have lt := Lib.hid G.out.1
    clear t6 t7 t8 t9 t10 t11 t12 t13 t14 z6 z7 z8 z9 z10 z11 z12 z13 z14
    rw [Rcv.aggR]
    go_wp2
    go_meet
    refine ⟨w7.heap.size, _, _, _, _, _, _, _, _, _, rfl, lt, Lib.hid (Cs.new w7 _ _), ?_, Lib.hid (G.out.alloc _), Lib.hid (fun v => LX.out.below (((Below.refl _ _).alloc (Nat.le_refl _) _).setCell (Nat.le_refl _) _)), Lib.hid (RB.out.alloc _), Lib.hid (B.out.alloc B.out.size _)⟩
    exact Lib.hid (fun v => LV.out.below (((Below.refl _ _).alloc (Nat.le_refl _) _).setCell (Nat.le_refl _) _))
  case rest =>
  obtain ⟨w7, rfl⟩ : ∃ x : World, x = wc := ⟨_, rfl⟩
  clear RB B G LX
  obtain ⟨h, u6, u7, u8, u9, u10, u11, u12, u13, v14, rfl, HH2, G2, LS, G, LX, RB, B⟩ := hcut
  go_upto_region 7 with fail
  rename_i K7 hK7
  have g2 := (G2.out.2 14 _ rfl).1
  have g2b := (G2.out.2 14 _ rfl).2
  go_cut [10] (fun a wz => a = .pointer (some ⟨h, 0, none⟩) ∧ PQ x q6 q7 q8 q9 q10 q11 q12 q13 u6 u7 u8 u9 u10 u11 u12 u13 g h N pA pc w wz ∧ Hid (Cs w.heap.size wz [.int .i64 x.fq, .int .i64 x.iv, .int .i64 x.ct, .bool x.un, .int .i64 x.ua, .bool x.ut, s6, s7, s8, s9, s10, s11, s12, s13, s14, .int .i64 x.wk]))
  case first =>
    have o1 : g < h := HH2.out
    have o2 : w.heap.size < g := HG.out
    go_wp2
    go_meet
    refine ⟨rfl, ⟨Lib.hid (G.out.other (by omega) _), Lib.hid (G2.out.set 14 (by simp) _), Lib.hid (LX.out _), Lib.hid (LS.out _), Lib.hid (B.out.setCell (p := ⟨h, 14, none⟩) (by show w.heap.size ≤ h; omega) _)⟩, Lib.hid (RB.out.other (by omega) _)⟩
  case rest =>
  obtain ⟨w8, rfl⟩ : ∃ x : World, x = wc := ⟨_, rfl⟩
  clear RB B G G2 LX LS g2 g2b
  obtain ⟨rfl, PQ0, RB⟩ := hcut
  exact hK7 _ _ (pkT8 x s6 s7 s8 s9 s10 s11 s12 s13 s14 q6 q7 q8 q9 q10 q11 q12 q13 u6 u7 u8 u9 u10 u11 u12 u13 T p_ g h N pA pc w w8 HA HU L S HKB MT PE SM PV RB PQ0 _ _ _ _ _ _ _ _ _ _ _ _ _ _ _ _ _ _ _ _ _ _ _ _ _ _ _ _ _ _ _ _ _ _ _ _ _ _ _ _ _ _ _ _ _ _ _ _ _ _ _ _ _ _ _ _ _ _ _ _ _ _ _ _ _ _ _ _ _ _ _ _ _ _ _ _ _ _ _ _ _ _ _ _ _ _ _ _ _ _ _ _ _ _ _ _ _ _ _ _ _ _ _ _ _ _ _ _ _ _ _ _ _ _ _ _ _ _ _ _ _ _ _ _ _ _ _ _ _ _ _ _ _ _ _ _ _ _ _ _ _ _ _ _ _ _ _ _ _ _ _ _ _ _ _ _ _ _ _ _ _ _ _ _ _ _ _)

end Rru
end Go.Proofs.YtgaolaafjiiehaaGreatDoor
