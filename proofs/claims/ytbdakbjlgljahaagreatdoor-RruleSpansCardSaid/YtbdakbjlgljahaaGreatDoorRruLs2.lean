/-
  RruleSpans, from its region 12 on
-/
import Derived.Test.YtbdakbjlgljahaaGreatDoorRruLs3
import Derived.Test.YtbdakbjlgljahaaGreatDoorBdTw
namespace Go.Proofs.YtbdakbjlgljahaaGreatDoor
open Go.RowKit
namespace Rru
open Rcv (CV LisV IntV DayV)
open Rck (ckE ckB Small)
open Ap (RowI)
open Civ (numV numE dY dM dD dnE ydV Ahead)
open Fil (moO mo_bd spE spT spF spQ perV perE perQ ld16 vsm vsm_mo vsm_bd vsome_to ck_fq per_to span_to)
open Cel
noncomputable def spT12C : Code := (Tryz.f6.body.bind (Tl.from_ 12)).getD .skip
set_option maxHeartbeats 25600000 in
set_option maxRecDepth 100000 in
theorem spT12 (x : CV) (s6 s7 s8 s9 s10 s11 s12 s13 s14 : Value) (T to_ n : Int) (w w2 : World) (HA : Hid (Ahead w)) (HU : Hid (-9223372036854775808 ≤ x.ua ∧ x.ua ≤ 9223372036854775807)) (L : Hid (LisV w x s6 s7 s8 s9 s10 s11 s12 s13 s14)) (S : Hid (Small x)) (L3 : Hid (Rct.Len3 x)) (HKB : Hid (ckB x = true)) (MT : Hid (moO T = true)) (PE : Hid (perE x T = 0)) (BDS : Hid (-62135596800 ≤ T ∧ T ≤ to_ ∧ to_ ≤ 253600000000)) (A4 : Hid (arB T to_ 3000 = false)) (RB : Hid (Cs w.heap.size w2 [.int .i64 x.fq, .int .i64 x.iv, .int .i64 x.ct, .bool x.un, .int .i64 x.ua, .bool x.ut, s6, s7, s8, s9, s10, s11, s12, s13, s14, .int .i64 x.wk])) (B : Hid (Below w.heap.size w w2)) (z0 z2 z3 z4 z7 z8 z9 z10 z11 z12 z13 z15 z16 z17 z18 z19 z20 z21 z22 z23 z24 z25 z26 z27 z28 z29 z30 z31 z32 z33 z34 z35 z36 z37 z38 z39 z40 z41 z42 z43 z44 z45 z46 z47 z48 z49 z50 z51 z52 z53 z54 z55 z56 z57 z58 z59 z60 z61 z62 z63 z64 z65 z66 z67 z68 z69 z70 z71 z72 z73 z74 z75 z76 z77 z78 z79 z80 z81 z82 z83 z84 z85 z86 z87 z88 z89 z90 z91 z92 z93 z94 z95 z96 z97 z98 z99 z100 z101 z102 z103 z104 z105 z106 z107 z108 z109 z110 z111 z112 z113 z114 z115 z116 z117 z118 z119 z120 z121 z122 z123 z124 z125 z126 z127 z128 z129 z130 z131 z132 z133 z134 z135 z136 z137 z138 z139 z140 z141 z142 z143 z144 z145 z146 z147 z148 z149 z150 z151 z152 z153 z154 z155 z156 z157 : Value) : Code.wp Tryz.prog spT12C (bodyPost Tryz.prog Tryz.f6 (fun e w' => e = .returned (.bool true) ∧ Below w.heap.size w w')) ⟨List.toArray (z0 :: .int .i64 T :: z2 :: z3 :: z4 :: .int .i64 n :: .pointer (some ⟨w.heap.size, 0, none⟩) :: z7 :: z8 :: z9 :: z10 :: z11 :: z12 :: z13 :: .int .i64 to_ :: z15 :: z16 :: z17 :: z18 :: z19 :: z20 :: z21 :: z22 :: z23 :: z24 :: z25 :: z26 :: z27 :: z28 :: z29 :: z30 :: z31 :: z32 :: z33 :: z34 :: z35 :: z36 :: z37 :: z38 :: z39 :: z40 :: z41 :: z42 :: z43 :: z44 :: z45 :: z46 :: z47 :: z48 :: z49 :: z50 :: z51 :: z52 :: z53 :: z54 :: z55 :: z56 :: z57 :: z58 :: z59 :: z60 :: z61 :: z62 :: z63 :: z64 :: z65 :: z66 :: z67 :: z68 :: z69 :: z70 :: z71 :: z72 :: z73 :: z74 :: z75 :: z76 :: z77 :: z78 :: z79 :: z80 :: z81 :: z82 :: z83 :: z84 :: z85 :: z86 :: z87 :: z88 :: z89 :: z90 :: z91 :: z92 :: z93 :: z94 :: z95 :: z96 :: z97 :: z98 :: z99 :: z100 :: z101 :: z102 :: z103 :: z104 :: z105 :: z106 :: z107 :: z108 :: z109 :: z110 :: z111 :: z112 :: z113 :: z114 :: z115 :: z116 :: z117 :: z118 :: z119 :: z120 :: z121 :: z122 :: z123 :: z124 :: z125 :: z126 :: z127 :: z128 :: z129 :: z130 :: z131 :: z132 :: z133 :: z134 :: z135 :: z136 :: z137 :: z138 :: z139 :: z140 :: z141 :: z142 :: z143 :: z144 :: z145 :: z146 :: z147 :: z148 :: z149 :: z150 :: z151 :: z152 :: z153 :: z154 :: z155 :: z156 :: z157 :: []), []⟩ w2 := by
  conv => arg 2; whnf
  have l2 := (RB.out.2 2 _ rfl).1
  have l3 := (RB.out.2 3 _ rfl).1
  by_cases ct : 0 < x.ct
  · go_wp2_with fail
    refine (wakes23_any _ (HA.out.stays B.out)).mono ?_
    rintro e w13 ⟨rfl, k⟩
    go_wp2
    go_ret
    exact ⟨ret_b rfl, bstep B.out k⟩
  obtain ⟨un, hun⟩ : ∃ z, x.un = z := ⟨_, rfl⟩
  cases un with
  | true =>
    rw [hun] at l3
    go_wp2_with fail
    refine (wakes23_any _ (HA.out.stays B.out)).mono ?_
    rintro e w13 ⟨rfl, k⟩
    go_wp2
    go_ret
    exact ⟨ret_b rfl, bstep B.out k⟩
  | false =>
  rw [hun] at l3
  have CU := Lib.hid (And.intro (show x.ct ≤ 0 by omega) hun)
  obtain ⟨U4, hU4⟩ : ∃ u, IntKind.u64.wrap n = u := ⟨_, rfl⟩
  have u0U4 : 0 ≤ U4 ∧ U4 < 18446744073709551616 := by rw [← hU4, IntKind.wrap_u64]; omega
  obtain ⟨m4, hm4⟩ : ∃ m, U4 % 50 = m := ⟨_, rfl⟩
  have bm4 : 0 ≤ m4 ∧ m4 < 50 := by rw [← hm4]; omega
  have rm4 : U4.tmod 50 = m4 := by rw [Int.tmod_eq_emod_of_nonneg u0U4.1, hm4]
  have w1x : IntKind.i64.wrap m4 = m4 := by rw [IntKind.wrap_i64]; omega
  obtain ⟨nn, hto⟩ : ∃ z, 1 + m4 = z := ⟨_, rfl⟩
  have w2x : IntKind.i64.wrap (1 + m4) = nn := by rw [IntKind.wrap_i64]; omega
  go_upto_region 14 with fail
  go_cut [5] (fun a wz => a = .int .i64 nn ∧ FQ x s6 s7 s8 s9 s10 s11 s12 s13 s14 w wz)
  case first =>
    go_wp2
    go_meet
    refine ⟨?_, RB, B⟩
    first | rfl | (simp [hU4, rm4, w1x, w2x, hto]; done)
  case rest =>
  obtain ⟨wn, rfl⟩ : ∃ x : World, x = wc := ⟨_, rfl⟩
  clear RB B
  obtain ⟨rfl, RB, B⟩ := hcut
  have NB : Hid (1 ≤ nn ∧ nn ≤ 50) := Lib.hid (by omega)
  clear hU4 u0U4 hm4 bm4 rm4 w1x hto w2x ct l2 l3 hun
  go_upto_region 15 with fail
  go_cut [24] (fun a wz => ∃ (g : Nat) (t6 t7 t8 t9 t10 t11 t12 t13 t14 : Value), a = .pointer (some ⟨g, 0, none⟩) ∧ Hid (w.heap.size < g) ∧ Hid (LisV wz (withCt x nn) t6 t7 t8 t9 t10 t11 t12 t13 t14) ∧ Hid (Cs g wz [.int .i64 x.fq, .int .i64 x.iv, .int .i64 x.ct, .bool x.un, .int .i64 x.ua, .bool x.ut, t6, t7, t8, t9, t10, t11, t12, t13, t14, .int .i64 x.wk]) ∧ Hid (∀ (v : Value), LisV (wz.setCell ⟨g, 2, none⟩ v) (withCt x nn) t6 t7 t8 t9 t10 t11 t12 t13 t14) ∧ FQ x s6 s7 s8 s9 s10 s11 s12 s13 s14 w wz)
  case first =>
    obtain ⟨a6, c6, rfl⟩ := L.out.h6.slice
    obtain ⟨a7, c7, rfl⟩ := L.out.h7.slice
    obtain ⟨a8, c8, rfl⟩ := L.out.h8.slice
    obtain ⟨a9, c9, rfl⟩ := L.out.h9.slice
    obtain ⟨a10, c10, rfl⟩ := L.out.h10.slice
    obtain ⟨a11, c11, rfl⟩ := L.out.h11.slice
    obtain ⟨a12, c12, rfl⟩ := L.out.h12.slice
    obtain ⟨a13, c13, rfl⟩ := L.out.h13.slice
    obtain ⟨a14, c14, rfl⟩ := L.out.h14.slice
    go_wp2_with (refine ld16 RB.out rfl (by rfl) (by rfl) (by rfl) ?_; intro K hK; go_simp)
    refine (Twn.twin_go x a6 a7 a8 a9 a10 a11 a12 a13 a14 c6 c7 c8 c9 c10 c11 c12 c13 c14 _ (L.out.below B.out) L3.out).mono ?_
    rintro e w5 ⟨q6, q7, q8, q9, q10, q11, q12, q13, q14, rfl, ⟨m, n0, n1, n2, n3, n4, n5, n6, n7, n8, n9, _, _, _, _, _, _, _, _, _, _, _, _, t6, t7, t8, t10, t11, t12, t13, t14, t9⟩, k⟩
    have RB := Lib.hid (RB.out.below k)
    have B := Lib.hid (bstep B.out k)
    clear k
    have v6 := IntV.of_row t6.1
    have v7 := IntV.of_row t7.1
    have v8 := IntV.of_row t8.1
    have v9 := Rcp.RowD.days t9
    have v10 := IntV.of_row t10.1
    have v11 := IntV.of_row t11.1
    have v12 := IntV.of_row t12.1
    have v13 := IntV.of_row t13.1
    have v14 := IntV.of_row t14.1
    have LV := Lib.hid (show LisV w5 (withCt x nn) q6 q7 q8 q9 q10 q11 q12 q13 q14 from ⟨v6, v7, v8, v9, v10, v11, v12, v13, v14⟩)
    obtain ⟨b6, d6, rfl⟩ := v6.slice
    obtain ⟨b7, d7, rfl⟩ := v7.slice
    obtain ⟨b8, d8, rfl⟩ := v8.slice
    obtain ⟨b9, d9, rfl⟩ := v9.slice
    obtain ⟨b10, d10, rfl⟩ := v10.slice
    obtain ⟨b11, d11, rfl⟩ := v11.slice
    obtain ⟨b12, d12, rfl⟩ := v12.slice
    obtain ⟨b13, d13, rfl⟩ := v13.slice
    obtain ⟨b14, d14, rfl⟩ := v14.slice
    have lt := Lib.hid RB.out.1
    clear t6 t7 t8 t9 t10 t11 t12 t13 t14 v6 v7 v8 v9 v10 v11 v12 v13 v14
    rw [Rcv.aggR]
    go_wp2
    go_meet
    refine ⟨w5.heap.size, _, _, _, _, _, _, _, _, _, rfl, lt, ?_, Lib.hid (Cs.new w5 _ _), ?_, Lib.hid (RB.out.alloc _), Lib.hid (B.out.alloc B.out.size _)⟩
    · exact Lib.hid (LV.out.below ((Below.refl _ _).alloc (Nat.le_refl _) _))
    · exact Lib.hid (fun v => LV.out.below (((Below.refl _ _).alloc (Nat.le_refl _) _).setCell (Nat.le_refl _) _))
  case rest =>
  obtain ⟨w15, rfl⟩ : ∃ x : World, x = wc := ⟨_, rfl⟩
  clear RB B
  obtain ⟨g, t6, t7, t8, t9, t10, t11, t12, t13, t14, rfl, HG, LT, G, LS, RB, B⟩ := hcut
  clear LT
  go_upto_region 16 with fail
  rename_i K16 hK16
  have g2 := (G.out.2 2 _ rfl).1
  have g2b := (G.out.2 2 _ rfl).2
  go_cut [24] (fun a wz => a = .pointer (some ⟨g, 0, none⟩) ∧ Hid (LisV wz (withCt x nn) t6 t7 t8 t9 t10 t11 t12 t13 t14) ∧ GQ x t6 t7 t8 t9 t10 t11 t12 t13 t14 nn g wz ∧ FQ x s6 s7 s8 s9 s10 s11 s12 s13 s14 w wz)
  case first =>
    go_wp2
    go_meet
    refine ⟨rfl, Lib.hid (LS.out _), Lib.hid (G.out.set 2 (by simp) _), Lib.hid (RB.out.other (by have := HG.out; omega) _), Lib.hid (B.out.setCell (p := ⟨g, 2, none⟩) (Nat.le_of_lt HG.out) _)⟩
  case rest =>
  obtain ⟨w16, rfl⟩ : ∃ x : World, x = wc := ⟨_, rfl⟩
  clear RB B G LS g2 g2b
  obtain ⟨rfl, LT, G, RB, B⟩ := hcut
  exact hK16 _ _ (spT17 x s6 s7 s8 s9 s10 s11 s12 s13 s14 T to_ nn g t6 t7 t8 t9 t10 t11 t12 t13 t14 w w16 HA HU L S HKB MT PE BDS A4 CU NB LT G RB B _ _ _ _ _ _ _ _ _ _ _ _ _ _ _ _ _ _ _ _ _ _ _ _ _ _ _ _ _ _ _ _ _ _ _ _ _ _ _ _ _ _ _ _ _ _ _ _ _ _ _ _ _ _ _ _ _ _ _ _ _ _ _ _ _ _ _ _ _ _ _ _ _ _ _ _ _ _ _ _ _ _ _ _ _ _ _ _ _ _ _ _ _ _ _ _ _ _ _ _ _ _ _ _ _ _ _ _ _ _ _ _ _ _ _ _ _ _ _ _ _ _ _ _ _ _ _ _ _ _ _ _ _ _ _ _ _ _ _ _ _ _ _ _ _ _ _ _ _ _ _ _ _)
end Rru
end Go.Proofs.YtbdakbjlgljahaaGreatDoor
