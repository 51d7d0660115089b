/-
  EncodeDays: the law answers true at every numbers, in whatever world that holds the table of the months.
-/
import Derived.Test.YtpbbnkgfheafpaaGreatDoorEdL2
namespace Go.Proofs.YtpbbnkgfheafpaaGreatDoor
open Go.RowKit
namespace Edy
open Rcv (CV LisV IntV DayV RecV)
open Rck (ckE ckB Small)
open Ap (RowI)
open Civ (Ahead)
open Wk (onOk resV resE resolve_any)
open Enc (rcv enR enO unO EonQ eon_to wakes24_any smK smW smD sm_ok some7_to)
open Fil (moO mo_bd ld16)
open Rru (tmX tms_to ldY own_less2 tm_len)
open Cel

theorem zero_lis (w : World) : LisV w CV.zero (.slice none 0 0) (.slice none 0 0) (.slice none 0 0) (.slice none 0 0) (.slice none 0 0) (.slice none 0 0) (.slice none 0 0) (.slice none 0 0) (.slice none 0 0) :=
  ⟨IntV.none w, IntV.none w, IntV.none w, DayV.none w, IntV.none w, IntV.none w, IntV.none w, IntV.none w, IntV.none w⟩
theorem zero_sml : Rcv.SmlC CV.zero := ⟨by decide, by decide, by decide, by decide, by decide, by decide, by decide, by decide, by decide⟩
theorem enc_small {M k v d m : Int} {r : CV} (h : enR M k v d m = some r) : Small r := by
  have key : ∀ dy md, dy.length ≤ 1 → md.length ≤ 7 → Small (rcv M dy md) := fun dy md h1 h2 => ⟨by simp [rcv], by simp [rcv], by simp [rcv], by simp [rcv]; omega, by simp [rcv]; omega, by simp [rcv], by simp [rcv], by simp [rcv], by simp [rcv]⟩
  unfold enR at h
  repeat' split at h
  all_goals first
    | (cases h; done)
    | (obtain rfl := Option.some.inj h; exact key _ _ (by simp) (by simp [Enc.sevL]))
theorem res_range {M k v d m Y : Int} {r : CV} (hm : 1 ≤ M ∧ M ≤ 12) (hm2 : -3 ≤ m ∧ m ≤ 3) (ho : onOk k v d = true) (h : enR M k v d m = some r) (hY : 1 ≤ Y ∧ Y ≤ 9999) : resE Y M k v d = 0 ∧ (-720000 ≤ resV Y M k v d ∧ resV Y M k v d ≤ 3000000) := by
  obtain ⟨_, _, _, _, _, _, _, _, _, H⟩ := enc_gP hm ho h
  obtain ⟨r1, mt, _, _⟩ := H Y hY
  have b := mo_bd mt
  rw [yT] at b
  exact ⟨r1, by omega, by omega⟩

theorem rec_sl {w : World} {u : Value} {x : CV} (h : RecV w u x) : ∃ (a6 a7 a8 a9 a10 a11 a12 a13 a14 : Option Addr) (n6 c6 n7 c7 n8 c8 n9 c9 n10 c10 n11 c11 n12 c12 n13 c13 n14 c14 : Nat), u = .agg #[.int .i64 x.fq, .int .i64 x.iv, .int .i64 x.ct, .bool x.un, .int .i64 x.ua, .bool x.ut, .slice a6 n6 c6, .slice a7 n7 c7, .slice a8 n8 c8, .slice a9 n9 c9, .slice a10 n10 c10, .slice a11 n11 c11, .slice a12 n12 c12, .slice a13 n13 c13, .slice a14 n14 c14, .int .i64 x.wk] ∧ LisV w x (.slice a6 n6 c6) (.slice a7 n7 c7) (.slice a8 n8 c8) (.slice a9 n9 c9) (.slice a10 n10 c10) (.slice a11 n11 c11) (.slice a12 n12 c12) (.slice a13 n13 c13) (.slice a14 n14 c14) := by
  obtain ⟨s6, s7, s8, s9, s10, s11, s12, s13, s14, rfl, hl⟩ := h
  obtain ⟨a6, n6, c6, e6, _⟩ := hl.h6
  obtain ⟨a7, n7, c7, e7, _⟩ := hl.h7
  obtain ⟨a8, n8, c8, e8, _⟩ := hl.h8
  obtain ⟨a9, n9, c9, e9, _⟩ := hl.h9
  obtain ⟨a10, n10, c10, e10, _⟩ := hl.h10
  obtain ⟨a11, n11, c11, e11, _⟩ := hl.h11
  obtain ⟨a12, n12, c12, e12, _⟩ := hl.h12
  obtain ⟨a13, n13, c13, e13, _⟩ := hl.h13
  obtain ⟨a14, n14, c14, e14, _⟩ := hl.h14
  subst e6 e7 e8 e9 e10 e11 e12 e13 e14
  exact ⟨_, _, _, _, _, _, _, _, _, _, _, _, _, _, _, _, _, _, _, _, _, _, _, _, _, _, _, rfl, hl⟩

noncomputable def edT6C : Code := (Tryz.f3.body.bind (Tl.from_ 6)).getD .skip
set_option maxHeartbeats 25600000 in
set_option maxRecDepth 100000 in
theorem edT6 (M K V D mv y n : Int) (g0 g : Nat) (x : CV) (s6 s7 s8 s9 s10 s11 s12 s13 s14 : Value) (w w4 : World) (HA : Hid (Ahead w)) (MB : Hid ((1 ≤ M ∧ M ≤ 12) ∧ -3 ≤ mv ∧ mv ≤ 3)) (OK : Hid (onOk K V D = true)) (ER : Hid (enR M K V D mv = some x)) (RO : Hid (Cs g0 w4 [.int .i64 K, .int .i64 V, .int .i64 D])) (RB : Hid (Cs g w4 [.int .i64 x.fq, .int .i64 x.iv, .int .i64 x.ct, .bool x.un, .int .i64 x.ua, .bool x.ut, s6, s7, s8, s9, s10, s11, s12, s13, s14, .int .i64 x.wk])) (L : Hid (LisV w4 x s6 s7 s8 s9 s10 s11 s12 s13 s14)) (B : Hid (Below w.heap.size w w4)) (z1 z2 z3 z7 z8 z9 z10 z11 z12 z13 z14 z17 z18 z19 z20 z21 z22 z23 z24 z25 z26 z27 z28 z29 z30 z31 z32 z33 z34 z35 z36 z37 z38 z39 z40 z41 z42 z43 z44 z45 z46 z47 z48 z49 z50 z51 z52 z53 z54 z55 z56 z57 z58 z59 z60 z61 z62 z63 z64 z65 z66 z67 z68 z69 z70 z71 z72 z73 z74 z75 z76 z77 z78 z79 z80 z81 z82 z83 z84 z85 z86 z87 z88 z89 z90 z91 z92 z93 z94 z95 z96 z97 z98 z99 z100 z101 z102 z103 z104 z105 z106 z107 z108 z109 z110 z111 z112 z113 z114 z115 z116 z117 z118 z119 z120 z121 z122 z123 z124 z125 z126 z127 z128 z129 : Value) : Code.wp Tryz.prog edT6C (bodyPost Tryz.prog Tryz.f3 (fun e w' => e = .returned (.bool true) ∧ Below w.heap.size w w')) ⟨List.toArray (.int .i64 M :: z1 :: z2 :: z3 :: .int .i64 mv :: .int .i64 y :: .int .i64 n :: z7 :: z8 :: z9 :: z10 :: z11 :: z12 :: z13 :: z14 :: .pointer (some ⟨g0, 0, none⟩) :: .pointer (some ⟨g, 0, none⟩) :: z17 :: z18 :: z19 :: z20 :: z21 :: z22 :: z23 :: z24 :: z25 :: z26 :: z27 :: z28 :: z29 :: z30 :: z31 :: z32 :: z33 :: z34 :: z35 :: z36 :: z37 :: z38 :: z39 :: z40 :: z41 :: z42 :: z43 :: z44 :: z45 :: z46 :: z47 :: z48 :: z49 :: z50 :: z51 :: z52 :: z53 :: z54 :: z55 :: z56 :: z57 :: z58 :: z59 :: z60 :: z61 :: z62 :: z63 :: z64 :: z65 :: z66 :: z67 :: z68 :: z69 :: z70 :: z71 :: z72 :: z73 :: z74 :: z75 :: z76 :: z77 :: z78 :: z79 :: z80 :: z81 :: z82 :: z83 :: z84 :: z85 :: z86 :: z87 :: z88 :: z89 :: z90 :: z91 :: z92 :: z93 :: z94 :: z95 :: z96 :: z97 :: z98 :: z99 :: z100 :: z101 :: z102 :: z103 :: z104 :: z105 :: z106 :: z107 :: z108 :: z109 :: z110 :: z111 :: z112 :: z113 :: z114 :: z115 :: z116 :: z117 :: z118 :: z119 :: z120 :: z121 :: z122 :: z123 :: z124 :: z125 :: z126 :: z127 :: z128 :: z129 :: []), []⟩ w4 := by
  conv => arg 2; whnf
  obtain ⟨m3, b3, R3⟩ := uu_mod y (k := 9900) (by decide)
  obtain ⟨m4, b4, R4⟩ := uu_mod n (k := 20) (by decide)
  obtain ⟨Y, hY⟩ : ∃ z, 2 + m3 = z := ⟨_, rfl⟩
  obtain ⟨N, hN⟩ : ∃ z : Nat, m4 = (z : Int) := ⟨m4.toNat, by omega⟩
  have NB : Hid (N ≤ 19 ∧ 1 ≤ Y ∧ Y ≤ 9920 ∧ -3 ≤ mv ∧ mv ≤ 3) := Lib.hid (by have := MB.out; omega)
  have YB : Hid (1 ≤ Y ∧ Y ≤ 9950 ∧ N ≤ 19) := Lib.hid (by omega)
  have x3 : IntKind.i64.wrap (2 + m3) = Y := by rw [hY]; exact wrap_t (by omega)
  have wv3 : wrap64 Y = Y := IntWalk.wrap64_in _ (by omega)
  have wv4 : wrap64 (N : Int) = (N : Int) := IntWalk.wrap64_in _ (by omega)
  have r3 := R3.out.1
  have r4 := R4.out.1
  have z3 := R3.out.2
  have z4 := R4.out.2
  clear b3 b4
  go_upto_region 6 with fail
  go_cut [5, 6] (fun a b wz => a = .int .i64 Y ∧ b = .int .i64 N ∧ Hid (Cs g wz [.int .i64 x.fq, .int .i64 x.iv, .int .i64 x.ct, .bool x.un, .int .i64 x.ua, .bool x.ut, s6, s7, s8, s9, s10, s11, s12, s13, s14, .int .i64 x.wk]) ∧ Hid (LisV wz x s6 s7 s8 s9 s10 s11 s12 s13 s14) ∧ Hid (Cs g0 wz [.int .i64 K, .int .i64 V, .int .i64 D]) ∧ Hid (Below w.heap.size w wz))
  case first =>
    go_wp2
    go_meet
    refine ⟨?_, ?_, RB, L, RO, B⟩
    · first | rfl | (rw [wv3]; done) | (simp [r3, z3, x3, hY, wv3]; done) | trace_state
    · first | rfl | (rw [wv4]; done) | (simp [r4, z4, hN, wv4]; done) | trace_state
  case rest =>
  obtain ⟨w6, rfl⟩ : ∃ x : World, x = wc := ⟨_, rfl⟩
  clear B RO RB L
  obtain ⟨rfl, rfl, RB, L, RO, B⟩ := hcut
  clear r3 r4 z3 z4 x3 wv3 wv4 hY hN R3 R4
  have VY : Hid (∀ Y, 1 ≤ Y ∧ Y ≤ 9999 → resE Y M K V D = 0 ∧ (-720000 ≤ resV Y M K V D ∧ resV Y M K V D ≤ 3000000)) := Lib.hid (fun Y hY => res_range MB.out.1 MB.out.2 OK.out ER.out hY)
  obtain ⟨v0, hv0⟩ : ∃ z, resV Y M K V D = z := ⟨_, rfl⟩
  have V0 := Lib.hid hv0
  have RN := Lib.hid (And.intro hv0 (VY.out Y (by have := YB.out; omega)).1)
  clear hv0
  have q := enc_gP MB.out.1 OK.out ER.out
  have CK := Lib.hid q.1
  have UA := Lib.hid q.2.2.2.2.2.2.2.1
  have S := Lib.hid (enc_small ER.out)
  have TM := Lib.hid (enc_tm MB.out.1 OK.out ER.out (y := Y) (n := N) (by have := YB.out; omega) YB.out.2.2)
  clear q
  go_upto_region 7 with fail
  go_cut [18, 19] (fun a b wz => a = .int .i64 v0 ∧ b = .int .i64 0 ∧ Hid (Cs g wz [.int .i64 x.fq, .int .i64 x.iv, .int .i64 x.ct, .bool x.un, .int .i64 x.ua, .bool x.ut, s6, s7, s8, s9, s10, s11, s12, s13, s14, .int .i64 x.wk]) ∧ Hid (LisV wz x s6 s7 s8 s9 s10 s11 s12 s13 s14) ∧ Hid (Cs g0 wz [.int .i64 K, .int .i64 V, .int .i64 D]) ∧ Hid (Below w.heap.size w wz))
  case first =>
    have o0 := (RO.out.2 0 _ rfl).1
    have o1 := (RO.out.2 1 _ rfl).1
    have o2 := (RO.out.2 2 _ rfl).1
    go_wp2_with fail
    refine (res_to Y M K V D v0 0 _ (HA.out.stays B.out) RN).mono ?_
    rintro e w7 ⟨rfl, k⟩
    have RB := Lib.hid (RB.out.below k)
    have L := Lib.hid (L.out.below k)
    have RO := Lib.hid (RO.out.below k)
    have B := Lib.hid (bstep B.out k)
    clear k o0 o1 o2
    go_wp2
    go_meet
    exact ⟨rfl, rfl, RB, L, RO, B⟩
  case rest =>
  obtain ⟨w7, rfl⟩ : ∃ x : World, x = wc := ⟨_, rfl⟩
  clear B RO RB L
  obtain ⟨rfl, rfl, RB, L, RO, B⟩ := hcut
  have HC : Hid (ckE x = 0) := Lib.hid (by rw [ckE, if_pos CK.out])
  go_upto_region 8 with fail
  rename_i K8 hK8 Kc hKc
  go_cut [82] (fun a wz => a = .bool false ∧ Hid (Cs g wz [.int .i64 x.fq, .int .i64 x.iv, .int .i64 x.ct, .bool x.un, .int .i64 x.ua, .bool x.ut, s6, s7, s8, s9, s10, s11, s12, s13, s14, .int .i64 x.wk]) ∧ Hid (LisV wz x s6 s7 s8 s9 s10 s11 s12 s13 s14) ∧ Hid (Cs g0 wz [.int .i64 K, .int .i64 V, .int .i64 D]) ∧ Hid (Below w.heap.size w wz))
  case first =>
    go_wp2_with (refine Fil.ld16 RB.out rfl (by rfl) (by rfl) (by rfl) ?_; intro K2 hK2; go_simp)
    refine (Rck.ck_to _ _ _ _ _ _ _ _ _ x 0 _ (HA.out.stays B.out) (by have := UA.out; omega) (by have := UA.out; omega) L S HC).mono ?_
    rintro e w8 ⟨rfl, k⟩
    have RB := Lib.hid (RB.out.below k)
    have L := Lib.hid (L.out.below k)
    have RO := Lib.hid (RO.out.below k)
    have B := Lib.hid (bstep B.out k)
    clear k
    go_wp2
    go_meet
    exact ⟨rfl, RB, L, RO, B⟩
  case rest =>
  obtain ⟨w8, rfl⟩ : ∃ x : World, x = wc := ⟨_, rfl⟩
  clear B RO RB L
  obtain ⟨rfl, RB, L, RO, B⟩ := hcut
  go_step
  go_step
  go_step
  go_step
  exact hK8 _ _ (edT10 M K V D mv Y v0 N g0 g x s6 s7 s8 s9 s10 s11 s12 s13 s14 w w8 HA UA L S NB VY V0 TM RO RB B _ _ _ _ _ _ _ _ _ _ _ _ _ _ _ _ _ _ _ _ _ _ _ _ _ _ _ _ _ _ _ _ _ _ _ _ _ _ _ _ _ _ _ _ _ _ _ _ _ _ _ _ _ _ _ _ _ _ _ _ _ _ _ _ _ _ _ _ _ _ _ _ _ _ _ _ _ _ _ _ _ _ _ _ _ _ _ _ _ _ _ _ _ _ _ _ _ _ _ _ _ _ _ _ _ _ _ _ _ _ _ _ _ _ _ _ _ _ _ _ _ _ _)

set_option maxHeartbeats 25600000 in
set_option maxRecDepth 100000 in
theorem edays_any (month kind wd d move y n : Int) (w : World) (hA : Ahead w) :
    Calls Tryz.prog 3 #[.int .i64 month, .int .i64 kind, .int .i64 wd, .int .i64 d, .int .i64 move, .int .i64 y, .int .i64 n] w fun e w' => e = .returned (.bool true) ∧ Below w.heap.size w w' := by
  have HA := Lib.hid hA
  clear hA
  obtain ⟨m1, b1, R1⟩ := uu_mod month (k := 12) (by decide)
  obtain ⟨m2, b2, R2⟩ := uu_mod move (k := 7) (by decide)
  obtain ⟨M, hM⟩ : ∃ z, 1 + m1 = z := ⟨_, rfl⟩
  obtain ⟨mv, hmv⟩ : ∃ z, m2 - 3 = z := ⟨_, rfl⟩
  have MB : Hid ((1 ≤ M ∧ M ≤ 12) ∧ -3 ≤ mv ∧ mv ≤ 3) := Lib.hid (by omega)
  have x1 : IntKind.i64.wrap (1 + m1) = M := by rw [hM]; exact wrap_t (by omega)
  have x2 : IntKind.i64.wrap (m2 - 3) = mv := by rw [hmv]; exact wrap_t (by omega)
  have wv1 : wrap64 M = M := IntWalk.wrap64_in _ (by omega)
  have wv2 : wrap64 mv = mv := IntWalk.wrap64_in _ (by omega)
  have r1 := R1.out.1
  have r2 := R2.out.1
  have z1 := R1.out.2
  have z2 := R2.out.2
  clear b1 b2
  go_enter Tryz.func3, Tryz.ntmps3
  go_upto_region 1 with fail
  go_cut [0, 4] (fun a b wz => a = .int .i64 M ∧ b = .int .i64 mv ∧ Hid (Below w.heap.size w wz))
  case first =>
    go_wp2
    go_meet
    refine ⟨?_, ?_, Lib.hid (Below.refl _ _)⟩
    · first | rfl | (rw [wv1]; done) | (simp [r1, z1, x1, hM, wv1]; done) | trace_state
    · first | rfl | (rw [wv2]; done) | (simp [r2, z2, x2, hmv, wv2]; done) | trace_state
  case rest =>
  obtain ⟨w1, rfl⟩ : ∃ x : World, x = wc := ⟨_, rfl⟩
  obtain ⟨rfl, rfl, B⟩ := hcut
  clear r1 r2 z1 z2 x1 x2 wv1 wv2 hM hmv R1 R2
  obtain ⟨K, hK⟩ : ∃ x, smK kind = x := ⟨_, rfl⟩
  obtain ⟨V, hV⟩ : ∃ x, smW kind wd = x := ⟨_, rfl⟩
  obtain ⟨D, hD⟩ : ∃ x, smD kind d = x := ⟨_, rfl⟩
  have hok := sm_ok kind wd d
  rw [hK, hV, hD] at hok
  have S1 := Lib.hid (And.intro hK (And.intro hV hD))
  have OK := Lib.hid hok
  clear hK hV hD hok
  go_upto_region 2 with fail
  go_cut [15] (fun p wz => ∃ g0, p = .pointer (some ⟨g0, 0, none⟩) ∧ Hid (Cs g0 wz [.int .i64 K, .int .i64 V, .int .i64 D]) ∧ Hid (Below w.heap.size w wz))
  case first =>
    go_wp2_with fail
    refine (some7_to _ _ _ K V D _ S1).mono ?_
    rintro e w2 ⟨rfl, k⟩
    have B := Lib.hid (bstep B.out k)
    clear k
    go_wp2
    go_meet
    exact ⟨_, rfl, Lib.hid (Cs.new w2 [.int .i64 K, .int .i64 V, .int .i64 D] _), Lib.hid (B.out.alloc B.out.size _)⟩
  case rest =>
  obtain ⟨w2, rfl⟩ : ∃ x : World, x = wc := ⟨_, rfl⟩
  clear B
  obtain ⟨g0, rfl, RO, B⟩ := hcut
  obtain ⟨x, c, hx⟩ : ∃ x c, enO M K V D mv = (x, c) := ⟨_, _, rfl⟩
  have HX := Lib.hid hx
  clear hx
  go_upto_region 3 with fail
  go_cut [16, 17] (fun p b wz => ∃ (g : Nat) (s6 s7 s8 s9 s10 s11 s12 s13 s14 : Value), p = .pointer (some ⟨g, 0, none⟩) ∧ b = .int .i64 c ∧ Hid (Cs g wz [.int .i64 x.fq, .int .i64 x.iv, .int .i64 x.ct, .bool x.un, .int .i64 x.ua, .bool x.ut, s6, s7, s8, s9, s10, s11, s12, s13, s14, .int .i64 x.wk]) ∧ Hid (LisV wz x s6 s7 s8 s9 s10 s11 s12 s13 s14) ∧ Hid (Cs g0 wz [.int .i64 K, .int .i64 V, .int .i64 D]) ∧ Hid (Below w.heap.size w wz))
  case first =>
    have o0 := (RO.out.2 0 _ rfl).1
    have o1 := (RO.out.2 1 _ rfl).1
    have o2 := (RO.out.2 2 _ rfl).1
    go_wp2_with fail
    refine (eon_to M K V D mv x c _ MB.out.1 OK.out (by have := MB.out; omega) (by have := MB.out; omega) HX).mono ?_
    rintro e w3 ⟨u, rfl, hr, k⟩
    obtain ⟨a6, a7, a8, a9, a10, a11, a12, a13, a14, n6, c6, n7, c7, n8, c8, n9, c9, n10, c10, n11, c11, n12, c12, n13, c13, n14, c14, rfl, hl⟩ := rec_sl hr
    have L := Lib.hid hl
    have RO := Lib.hid (RO.out.below k)
    have B := Lib.hid (bstep B.out k)
    clear k o0 o1 o2 hr hl
    go_wp2
    go_meet
    exact ⟨w3.heap.size, _, _, _, _, _, _, _, _, _, rfl, rfl, Lib.hid (Cs.new w3 _ _), Lib.hid (L.out.below ((Below.refl _ _).alloc (Nat.le_refl _) _)), Lib.hid (RO.out.alloc _), Lib.hid (B.out.alloc B.out.size _)⟩
  case rest =>
  obtain ⟨w3, rfl⟩ : ∃ x : World, x = wc := ⟨_, rfl⟩
  clear B RO
  obtain ⟨g, s6, s7, s8, s9, s10, s11, s12, s13, s14, rfl, rfl, RB, L, RO, B⟩ := hcut
  have CC : Hid ((enR M K V D mv = none ∧ x = CV.zero ∧ c = 17) ∨ (enR M K V D mv = some x ∧ c = 0)) := Lib.hid (by
    have hx := HX.out
    rw [enO] at hx
    cases hr : enR M K V D mv with
    | none =>
      rw [hr] at hx
      obtain ⟨q1, q2⟩ := Prod.mk.inj (show (CV.zero, (17 : Int)) = (x, c) from hx)
      exact Or.inl ⟨rfl, q1.symm, q2.symm⟩
    | some r =>
      rw [hr] at hx
      obtain ⟨q1, q2⟩ := Prod.mk.inj (show (r, (0 : Int)) = (x, c) from hx)
      exact Or.inr ⟨by rw [q1], q2.symm⟩)
  go_upto_region 4 with fail
  rename_i K4 hK4 Kc hKc
  rcases CC.out with ⟨_, rfl, rfl⟩ | ⟨hr, rfl⟩
  · go_wp2_with (refine Fil.ld16 RB.out rfl (by rfl) (by rfl) (by rfl) ?_; intro K2 hK2; go_simp)
    refine (Rcv.krec_to _ _ _ _ _ _ _ _ _ (.slice none 0 0) (.slice none 0 0) (.slice none 0 0) (.slice none 0 0) (.slice none 0 0) (.slice none 0 0) (.slice none 0 0) (.slice none 0 0) (.slice none 0 0) CV.zero CV.zero _ L.out (zero_lis _) zero_sml zero_sml).mono ?_
    rintro e w4 ⟨b, rfl, hb, k⟩
    obtain rfl : b = true := hb.2 rfl
    have B := Lib.hid (bstep B.out k)
    clear k hb
    go_wp2_with fail
    refine (wakes24_any _).mono ?_
    rintro e w5 ⟨rfl, k⟩
    go_wp2
    go_ret
    exact ⟨ret_b rfl, bstep B.out k⟩
  have ER := Lib.hid hr
  clear hr
  go_cut [49] (fun a wz => a = .bool false ∧ Hid (Cs g wz [.int .i64 x.fq, .int .i64 x.iv, .int .i64 x.ct, .bool x.un, .int .i64 x.ua, .bool x.ut, s6, s7, s8, s9, s10, s11, s12, s13, s14, .int .i64 x.wk]) ∧ Hid (LisV wz x s6 s7 s8 s9 s10 s11 s12 s13 s14) ∧ Hid (Cs g0 wz [.int .i64 K, .int .i64 V, .int .i64 D]) ∧ Hid (Below w.heap.size w wz))
  case first =>
    go_wp2
    go_meet
    exact ⟨rfl, RB, L, RO, B⟩
  case rest =>
  obtain ⟨w4, rfl⟩ : ∃ x : World, x = wc := ⟨_, rfl⟩
  clear B RO RB L
  obtain ⟨rfl, RB, L, RO, B⟩ := hcut
  go_step
  go_step
  go_step
  go_step
  exact hK4 _ _ (edT6 M K V D mv y n g0 g x s6 s7 s8 s9 s10 s11 s12 s13 s14 w w4 HA MB OK ER RO RB L B _ _ _ _ _ _ _ _ _ _ _ _ _ _ _ _ _ _ _ _ _ _ _ _ _ _ _ _ _ _ _ _ _ _ _ _ _ _ _ _ _ _ _ _ _ _ _ _ _ _ _ _ _ _ _ _ _ _ _ _ _ _ _ _ _ _ _ _ _ _ _ _ _ _ _ _ _ _ _ _ _ _ _ _ _ _ _ _ _ _ _ _ _ _ _ _ _ _ _ _ _ _ _ _ _ _ _ _ _ _ _ _ _ _ _ _ _ _ _ _ _ _ _ _)

end Edy
end Go.Proofs.YtpbbnkgfheafpaaGreatDoor
