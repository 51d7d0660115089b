/-
  RrulePicks, from its region 10 on.
-/
import Derived.Test.YtgaolaafjiiehaaGreatDoorRruLp3
namespace Go.Proofs.YtgaolaafjiiehaaGreatDoor
open Go.RowKit
namespace Rru
open Rcv (CV LisV IntV DayV)
open Rck (ckE ckB Small)
open Ap (RowI)
open Civ (numV numE dY dM dD dnE ydV Ahead)
open Fil (moO mo_bd spE spT spF spQ perV perE perQ ld16 vsm vsm_mo vsm_bd vsome_to ck_fq per_to span_to)
open Cel

abbrev PQ (x : CV) (q6 q7 q8 q9 q10 q11 q12 q13 u6 u7 u8 u9 u10 u11 u12 u13 : Value) (g h : Nat) (N : List Int) (pA : Option Addr) (pc : Nat) (w wz : World) : Prop := Hid (Cs g wz [.int .i64 x.fq, .int .i64 x.iv, .int .i64 x.ct, .bool x.un, .int .i64 x.ua, .bool x.ut, q6, q7, q8, q9, q10, q11, q12, q13, .slice none 0 0, .int .i64 x.wk]) ∧ Hid (Cs h wz [.int .i64 x.fq, .int .i64 x.iv, .int .i64 x.ct, .bool x.un, .int .i64 x.ua, .bool x.ut, u6, u7, u8, u9, u10, u11, u12, u13, .slice pA N.length pc, .int .i64 x.wk]) ∧ Hid (LisV wz (withSp x []) q6 q7 q8 q9 q10 q11 q12 q13 (.slice none 0 0)) ∧ Hid (LisV wz (withSp x N) u6 u7 u8 u9 u10 u11 u12 u13 (.slice pA N.length pc)) ∧ Hid (Below w.heap.size w wz)
theorem pq_below {x : CV} {q6 q7 q8 q9 q10 q11 q12 q13 u6 u7 u8 u9 u10 u11 u12 u13 : Value} {g h : Nat} {N : List Int} {pA : Option Addr} {pc : Nat} {w w1 w2 : World} (H : PQ x q6 q7 q8 q9 q10 q11 q12 q13 u6 u7 u8 u9 u10 u11 u12 u13 g h N pA pc w w1) (k : Below w1.heap.size w1 w2) : PQ x q6 q7 q8 q9 q10 q11 q12 q13 u6 u7 u8 u9 u10 u11 u12 u13 g h N pA pc w w2 :=
  ⟨Lib.hid (H.1.out.below k), Lib.hid (H.2.1.out.below k), Lib.hid (H.2.2.1.out.below k), Lib.hid (H.2.2.2.1.out.below k), Lib.hid (bstep H.2.2.2.2.out k)⟩

noncomputable def pkT10C : Code := (Tryz.f3.body.bind (Tl.from_ 10)).getD .skip
set_option maxHeartbeats 25600000 in
set_option maxRecDepth 100000 in
theorem pkT10 (x : CV) (s6 s7 s8 s9 s10 s11 s12 s13 s14 : Value) (q6 q7 q8 q9 q10 q11 q12 q13 u6 u7 u8 u9 u10 u11 u12 u13 : Value) (T p_ : Int) (g h : Nat) (N : List Int) (pA : Option Addr) (pc : Nat) (w w2 : World) (HA : Hid (Ahead w)) (HU : Hid (-9223372036854775808 ≤ x.ua ∧ x.ua ≤ 9223372036854775807)) (L : Hid (LisV w x s6 s7 s8 s9 s10 s11 s12 s13 s14)) (S : Hid (Small x)) (HKB : Hid (ckB x = true)) (MT : Hid (moO T = true)) (PE : Hid (perE x T = 0)) (SM : Hid (4 ≤ x.fq ∧ x.sc.length ≤ 4 ∧ x.mi.length ≤ 4)) (K2 : Hid (ckB (withSp x N) = true)) (PV : Hid (IntV w (.slice pA N.length pc) N)) (NL : Hid (1 ≤ N.length ∧ N.length ≤ 60)) (RB : Hid (Cs w.heap.size w2 [.int .i64 x.fq, .int .i64 x.iv, .int .i64 x.ct, .bool x.un, .int .i64 x.ua, .bool x.ut, s6, s7, s8, s9, s10, s11, s12, s13, s14, .int .i64 x.wk])) (PQ0 : PQ x q6 q7 q8 q9 q10 q11 q12 q13 u6 u7 u8 u9 u10 u11 u12 u13 g h N pA pc w w2) (z0 z5 z6 z7 z8 z11 z12 z13 z14 z15 z16 z17 z18 z19 z20 z21 z22 z23 z24 z25 z26 z27 z28 z29 z30 z31 z32 z33 z34 z35 z36 z37 z38 z39 z40 z41 z42 z43 z44 z45 z46 z47 z48 z49 z50 z51 z52 z53 z54 z55 z56 z57 z58 z59 z60 z61 z62 z63 z64 z65 z66 z67 z68 z69 z70 z71 z72 z73 z74 z75 z76 z77 z78 z79 z80 z81 z82 z83 z84 z85 z86 z87 z88 z89 z90 z91 z92 z93 z94 z95 z96 z97 z98 z99 z100 z101 z102 z103 z104 z105 z106 z107 z108 z109 z110 z111 z112 z113 z114 z115 z116 z117 z118 z119 z120 z121 z122 z123 z124 z125 z126 z127 z128 z129 z130 z131 z132 z133 z134 z135 z136 z137 z138 z139 z140 z141 z142 z143 z144 z145 z146 z147 z148 z149 z150 z151 z152 z153 z154 z155 z156 z157 z158 z159 z160 z161 z162 z163 z164 z165 z166 z167 z168 z169 z170 z171 z172 : Value) : Code.wp Tryz.prog pkT10C (bodyPost Tryz.prog Tryz.f3 (fun e w' => e = .returned (.bool true) ∧ Below w.heap.size w w')) ⟨List.toArray (z0 :: .int .i64 T :: .int .i64 p_ :: .slice pA N.length pc :: .pointer (some ⟨w.heap.size, 0, none⟩) :: z5 :: z6 :: z7 :: z8 :: .pointer (some ⟨g, 0, none⟩) :: .pointer (some ⟨h, 0, none⟩) :: z11 :: z12 :: z13 :: z14 :: z15 :: z16 :: z17 :: z18 :: z19 :: z20 :: z21 :: z22 :: z23 :: z24 :: z25 :: z26 :: z27 :: z28 :: z29 :: z30 :: z31 :: z32 :: z33 :: z34 :: z35 :: z36 :: z37 :: z38 :: z39 :: z40 :: z41 :: z42 :: z43 :: z44 :: z45 :: z46 :: z47 :: z48 :: z49 :: z50 :: z51 :: z52 :: z53 :: z54 :: z55 :: z56 :: z57 :: z58 :: z59 :: z60 :: z61 :: z62 :: z63 :: z64 :: z65 :: z66 :: z67 :: z68 :: z69 :: z70 :: z71 :: z72 :: z73 :: z74 :: z75 :: z76 :: z77 :: z78 :: z79 :: z80 :: z81 :: z82 :: z83 :: z84 :: z85 :: z86 :: z87 :: z88 :: z89 :: z90 :: z91 :: z92 :: z93 :: z94 :: z95 :: z96 :: z97 :: z98 :: z99 :: z100 :: z101 :: z102 :: z103 :: z104 :: z105 :: z106 :: z107 :: z108 :: z109 :: z110 :: z111 :: z112 :: z113 :: z114 :: z115 :: z116 :: z117 :: z118 :: z119 :: z120 :: z121 :: z122 :: z123 :: z124 :: z125 :: z126 :: z127 :: z128 :: z129 :: z130 :: z131 :: z132 :: z133 :: z134 :: z135 :: z136 :: z137 :: z138 :: z139 :: z140 :: z141 :: z142 :: z143 :: z144 :: z145 :: z146 :: z147 :: z148 :: z149 :: z150 :: z151 :: z152 :: z153 :: z154 :: z155 :: z156 :: z157 :: z158 :: z159 :: z160 :: z161 :: z162 :: z163 :: z164 :: z165 :: z166 :: z167 :: z168 :: z169 :: z170 :: z171 :: z172 :: []), []⟩ w2 := by
  conv => arg 2; whnf
  have B := PQ0.2.2.2.2
  obtain ⟨q, hq⟩ : ∃ z, perV x T = z := ⟨_, rfl⟩
  have QV := Lib.hid hq
  have TB : Hid (-9223372036854775808 ≤ T ∧ T ≤ 9223372036854775807) := Lib.hid (by have := mo_bd MT.out; omega)
  have qb := per_bd (x := x) T
  rw [hq] at qb
  have QB := Lib.hid qb
  clear hq qb
  go_upto_region 10 with fail
  go_cut [11, 12] (fun a c wz => a = .int .i64 q ∧ c = .int .i64 0 ∧ PQ x q6 q7 q8 q9 q10 q11 q12 q13 u6 u7 u8 u9 u10 u11 u12 u13 g h N pA pc w wz)
  case first =>
    go_wp2_with (refine ld16 RB.out rfl (by rfl) (by rfl) (by rfl) ?_; intro K hK; go_simp)
    refine (per_to x _ _ _ _ _ _ _ _ _ T q 0 _ (HA.out.stays B.out) HU.out.1 HU.out.2 (L.out.below B.out) S.out TB.out.1 TB.out.2 QV PE).mono ?_
    rintro e w5 ⟨rfl, k⟩
    have P1 := pq_below PQ0 k
    clear k
    go_wp2
    go_meet
    exact ⟨rfl, rfl, P1⟩
  case rest =>
  obtain ⟨w10, rfl⟩ : ∃ x : World, x = wc := ⟨_, rfl⟩
  clear RB B PQ0
  obtain ⟨rfl, rfl, PQ0⟩ := hcut
  obtain ⟨U1, hU1⟩ : ∃ u, IntKind.u64.wrap p_ = u := ⟨_, rfl⟩
  have u0U1 : 0 ≤ U1 ∧ U1 < 18446744073709551616 := by rw [← hU1, IntKind.wrap_u64]; omega
  obtain ⟨m1, hm1⟩ : ∃ m, U1 % 20 = m := ⟨_, rfl⟩
  have bm1 : 0 ≤ m1 ∧ m1 < 20 := by rw [← hm1]; omega
  have rm1 : U1.tmod 20 = m1 := by rw [Int.tmod_eq_emod_of_nonneg u0U1.1, hm1]
  have w1x : IntKind.i64.wrap m1 = m1 := by rw [IntKind.wrap_i64]; omega
  obtain ⟨pp, hto⟩ : ∃ z, q + m1 = z := ⟨_, rfl⟩
  have qb := QB.out
  have w2x : IntKind.i64.wrap (q + m1) = pp := by rw [IntKind.wrap_i64]; omega
  go_upto_region 13 with fail
  go_cut [2] (fun a wz => a = .int .i64 pp ∧ PQ x q6 q7 q8 q9 q10 q11 q12 q13 u6 u7 u8 u9 u10 u11 u12 u13 g h N pA pc w wz)
  case first =>
    go_wp2
    go_meet
    refine ⟨?_, PQ0⟩
    first | rfl | (simp [hU1, rm1, w1x, w2x, hto]; done) | trace_state
  case rest =>
  obtain ⟨w13, rfl⟩ : ∃ x : World, x = wc := ⟨_, rfl⟩
  clear PQ0
  obtain ⟨rfl, PQ0⟩ := hcut
  clear hU1 u0U1 hm1 bm1 rm1 w1x hto w2x qb
  obtain ⟨c, hc⟩ : ∃ z, ofE (withSp x []) T pp = z := ⟨_, rfl⟩
  obtain ⟨A, hA2⟩ : ∃ z, ofL (withSp x []) T pp = z := ⟨_, rfl⟩
  have C1 := Lib.hid hc
  have O1 := Lib.hid hA2
  have N0 : N ≠ [] := fun e => by have := NL.out; rw [e] at this; simp at this
  have PK := picks_1 (x := x) (N := N) (st := T) (p := pp) HKB.out K2.out N0
  rw [hc, hA2] at PK
  have C2 := Lib.hid PK.1
  have O2 := Lib.hid PK.2
  have AL : Hid (A.length ≤ 200000) := Lib.hid (by rw [← hA2]; exact of_len4 (ck_sp0 HKB.out) SM.out.1 SM.out.2.1 SM.out.2.2 rfl)
  have E2 : Hid (c = 0 ∨ c = 23) := Lib.hid (by
    have p0 : perE (withSp x []) T = 0 := by rw [per_sp0 HKB.out]; exact PE.out
    rw [← hc, ofE, if_neg (by rw [p0]; decide)]
    exact spe_23 (ck_sp0 HKB.out))
  have S0 : Hid (Small (withSp x [])) := Lib.hid ⟨S.out.sc, S.out.mi, S.out.hr, S.out.dy, S.out.md, S.out.yd, S.out.wn, S.out.mo, Nat.zero_le _⟩
  have SN : Hid (Small (withSp x N)) := Lib.hid ⟨S.out.sc, S.out.mi, S.out.hr, S.out.dy, S.out.md, S.out.yd, S.out.wn, S.out.mo, by have := NL.out; show N.length ≤ _; omega⟩
  clear hc hA2 N0 PK
  go_upto_region 14 with fail
  go_cut [13, 14] (fun a b wz => ∃ lv, lv = a ∧ b = .int .i64 c ∧ Hid (RowI w.heap.size wz lv A) ∧ PQ x q6 q7 q8 q9 q10 q11 q12 q13 u6 u7 u8 u9 u10 u11 u12 u13 g h N pA pc w wz)
  case first =>
    have G := PQ0.1
    go_wp2_with (refine ld16 G.out rfl (by rfl) (by rfl) (by rfl) ?_; intro K hK; go_simp)
    refine (of_to (withSp x []) _ _ _ _ _ _ _ _ _ T pp c A _ (Lib.hid (HA.out.stays PQ0.2.2.2.2.out)) HU PQ0.2.2.1 S0 TB.out.1 TB.out.2 C1 O1).mono ?_
    rintro e w5 ⟨lv, rfl, R, k⟩
    have RO := Lib.hid (own_less2 R PQ0.2.2.2.2.out.size)
    have P1 := pq_below PQ0 k
    clear k R G
    go_wp2
    go_meet
    exact ⟨_, rfl, rfl, RO, P1⟩
  case rest =>
  obtain ⟨w14, rfl⟩ : ∃ x : World, x = wc := ⟨_, rfl⟩
  clear PQ0
  obtain ⟨va, rfl, rfl, RA, PQ0⟩ := hcut
  go_upto_region 15 with fail
  go_cut [15, 16] (fun a b wz => ∃ lv, lv = a ∧ b = .int .i64 c ∧ Hid (RowI w.heap.size wz lv (pkL N A A.length)) ∧ Hid (RowI w.heap.size wz va A) ∧ Hid (Below w.heap.size w wz))
  case first =>
    have G := PQ0.2.1
    go_wp2_with (refine ld16 G.out rfl (by rfl) (by rfl) (by rfl) ?_; intro K hK; go_simp)
    refine (of_to (withSp x N) _ _ _ _ _ _ _ _ _ T pp c (pkL N A A.length) _ (Lib.hid (HA.out.stays PQ0.2.2.2.2.out)) HU PQ0.2.2.2.1 SN TB.out.1 TB.out.2 C2 O2).mono ?_
    rintro e w5 ⟨lv, rfl, R, k⟩
    have RO := Lib.hid (own_less2 R PQ0.2.2.2.2.out.size)
    have RA := Lib.hid (RA.out.below k)
    have B := Lib.hid (bstep PQ0.2.2.2.2.out k)
    clear k R G
    go_wp2
    go_meet
    exact ⟨_, rfl, rfl, RO, RA, B⟩
  case rest =>
  obtain ⟨w15, rfl⟩ : ∃ x : World, x = wc := ⟨_, rfl⟩
  clear PQ0 RA
  obtain ⟨vb, rfl, rfl, RO, RA, B⟩ := hcut
  clear C1 C2 O1 O2 S0 SN QV QB TB
  go_upto_region 16 with fail
  rename_i K16 hK16 Kc hKc
  rcases E2.out with rfl | rfl
  rotate_left
  · go_wp2_with fail
    refine (wakes23_any _ (HA.out.stays B.out)).mono ?_
    rintro e w13 ⟨rfl, k⟩
    go_wp2
    go_ret
    exact ⟨ret_b rfl, bstep B.out k⟩
  go_cut [115] (fun a wz => a = .bool false ∧ Hid (RowI w.heap.size wz vb (pkL N A A.length)) ∧ Hid (RowI w.heap.size wz va A) ∧ Hid (Below w.heap.size w wz))
  case first =>
    go_wp2
    go_meet
    exact ⟨rfl, RO, RA, B⟩
  case rest =>
  obtain ⟨w16, rfl⟩ : ∃ x : World, x = wc := ⟨_, rfl⟩
  clear RO RA B
  obtain ⟨rfl, RO, RA, B⟩ := hcut
  go_step
  go_step
  go_step
  go_step
  exact hK16 _ _ (pkT18 N A pA pc va vb w w16 HA PV NL AL RA RO B _ _ _ _ _ _ _ _ _ _ _ _ _ _ _ _ _ _ _ _ _ _ _ _ _ _ _ _ _ _ _ _ _ _ _ _ _ _ _ _ _ _ _ _ _ _ _ _ _ _ _ _ _ _ _ _ _ _ _ _ _ _ _ _ _ _ _ _ _ _ _ _ _ _ _ _ _ _ _ _ _ _ _ _ _ _ _ _ _ _ _ _ _ _ _ _ _ _ _ _ _ _ _ _ _ _ _ _ _ _ _ _ _ _ _ _ _ _ _ _ _ _ _ _ _ _ _ _ _ _ _ _ _ _ _ _ _ _ _ _ _ _ _ _ _ _ _ _ _ _ _ _ _ _ _ _ _ _ _ _ _ _ _ _ _ _ _ _ _ _)

end Rru
end Go.Proofs.YtgaolaafjiiehaaGreatDoor
