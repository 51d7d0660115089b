/-
  The reference's Recur (layer 21): from its lists on. (Written by gen/gen_rrl.py.)
-/
import Derived.Test.YtpbdlgmkkbccmaaDoorRrlC
namespace Go.Proofs.YtpbdlgmkkbccmaaDoor
open Go.RowKit
namespace Rrl
open Cel
open Rcv (CV IntV DayV LisV)
open Rck (ckB ckE frB eiB dyB lsB gtB nmB endB frB_iff dyB_iff Small)
noncomputable def code8 : Code := (Tryd.f13.body.bind (fromR 8)).getD .skip
set_option maxHeartbeats 25600000 in
set_option maxRecDepth 100000 in
theorem rr8 (x : CV) (a6 a7 a8 a9 a10 a11 a12 a13 a14 : Option Addr) (c6 c7 c8 c9 c10 c11 c12 c13 c14 : Nat) (r : Bool) (w w1 : World) (C : Hid (Cs w.heap.size w1 [.int .i64 x.fq, .int .i64 x.iv, .int .i64 x.ct, .bool x.un, .int .i64 x.ua, .bool x.ut, .slice a6 x.sc.length c6, .slice a7 x.mi.length c7, .slice a8 x.hr.length c8, .slice a9 x.dy.length c9, .slice a10 x.md.length c10, .slice a11 x.yd.length c11, .slice a12 x.wn.length c12, .slice a13 x.mo.length c13, .slice a14 x.sp.length c14, .int .i64 x.wk])) (L : Hid (LisV w1 x (.slice a6 x.sc.length c6) (.slice a7 x.mi.length c7) (.slice a8 x.hr.length c8) (.slice a9 x.dy.length c9) (.slice a10 x.md.length c10) (.slice a11 x.yd.length c11) (.slice a12 x.wn.length c12) (.slice a13 x.mo.length c13) (.slice a14 x.sp.length c14))) (B : Hid (Below w.heap.size w w1)) (HL : Hid (l1B x = false)) (HQ : Hid (ckB x = (laB x && (dsB x.fq x.wn.length x.dy && (g1B x && g2B x))))) (HR : Hid (ckB x = r))
    (z0 z2 z3 z4 z5 z6 z7 z8 z9 z10 z11 z12 z13 z14 z15 z16 z17 z18 z19 z20 z21 z22 z23 z24 z25 z26 z27 z28 z29 z30 z31 z32 z33 z34 z35 z36 z37 z38 z39 z40 z41 z42 z43 z44 z45 z46 z47 z48 z49 z50 z51 z52 z53 z54 z55 z56 z57 z58 z59 z60 z61 z62 z63 z64 z65 z66 z67 z68 z69 z70 z71 z72 z73 z74 z75 z76 z77 z78 z79 z80 z81 z82 z83 z84 z85 z86 z87 z88 z89 z90 z91 z92 z93 z94 z95 z96 z97 z98 z99 z100 z101 z102 z103 z104 z105 z106 z107 z108 z109 z110 z111 z112 z113 z114 z115 z116 z117 z118 z119 z120 z121 z122 z123 z124 z125 z126 z127 z128 z129 z130 z131 z132 z133 z134 z135 z136 z137 z138 z139 z140 z141 z142 z143 z144 z145 z146 z147 z148 z149 z150 z151 z152 z153 z154 z155 z156 z157 z158 z159 z160 z161 z162 z163 z164 z165 z166 z167 z168 z169 z170 z171 z172 z173 z174 z175 z176 z177 z178 z179 z180 z181 z182 z183 z184 z185 z186 z187 z188 z189 z190 z191 z192 z193 z194 z195 z196 z197 z198 z199 z200 z201 z202 z203 z204 z205 z206 z207 z208 z209 z210 z211 z212 z213 z214 z215 z216 z217 z218 z219 z220 z221 z222 z223 z224 z225 z226 z227 z228 z229 z230 z231 z232 z233 z234 z235 z236 z237 z238 z239 z240 z241 z242 z243 z244 z245 z246 z247 z248 z249 z250 z251 z252 z253 z254 z255 z256 z257 z258 z259 z260 z261 z262 z263 z264 z265 z266 z267 z268 z269 z270 z271 z272 z273 z274 z275 z276 z277 z278 z279 z280 z281 z282 z283 z284 z285 z286 : Value) : Code.wp Tryd.prog code8 (bodyPost Tryd.prog Tryd.f13 (fun e w' => e = .returned (.bool r) ∧ Below w.heap.size w w')) ⟨List.toArray (z0 :: .pointer (some ⟨w.heap.size, 0, none⟩) :: z2 :: z3 :: z4 :: z5 :: z6 :: z7 :: z8 :: z9 :: z10 :: z11 :: z12 :: z13 :: z14 :: z15 :: z16 :: z17 :: z18 :: z19 :: z20 :: z21 :: z22 :: z23 :: z24 :: z25 :: z26 :: z27 :: z28 :: z29 :: z30 :: z31 :: z32 :: z33 :: z34 :: z35 :: z36 :: z37 :: z38 :: z39 :: z40 :: z41 :: z42 :: z43 :: z44 :: z45 :: z46 :: z47 :: z48 :: z49 :: z50 :: z51 :: z52 :: z53 :: z54 :: z55 :: z56 :: z57 :: z58 :: z59 :: z60 :: z61 :: z62 :: z63 :: z64 :: z65 :: z66 :: z67 :: z68 :: z69 :: z70 :: z71 :: z72 :: z73 :: z74 :: z75 :: z76 :: z77 :: z78 :: z79 :: z80 :: z81 :: z82 :: z83 :: z84 :: z85 :: z86 :: z87 :: z88 :: z89 :: z90 :: z91 :: z92 :: z93 :: z94 :: z95 :: z96 :: z97 :: z98 :: z99 :: z100 :: z101 :: z102 :: z103 :: z104 :: z105 :: z106 :: z107 :: z108 :: z109 :: z110 :: z111 :: z112 :: z113 :: z114 :: z115 :: z116 :: z117 :: z118 :: z119 :: z120 :: z121 :: z122 :: z123 :: z124 :: z125 :: z126 :: z127 :: z128 :: z129 :: z130 :: z131 :: z132 :: z133 :: z134 :: z135 :: z136 :: z137 :: z138 :: z139 :: z140 :: z141 :: z142 :: z143 :: z144 :: z145 :: z146 :: z147 :: z148 :: z149 :: z150 :: z151 :: z152 :: z153 :: z154 :: z155 :: z156 :: z157 :: z158 :: z159 :: z160 :: z161 :: z162 :: z163 :: z164 :: z165 :: z166 :: z167 :: z168 :: z169 :: z170 :: z171 :: z172 :: z173 :: z174 :: z175 :: z176 :: z177 :: z178 :: z179 :: z180 :: z181 :: z182 :: z183 :: z184 :: z185 :: z186 :: z187 :: z188 :: z189 :: z190 :: z191 :: z192 :: z193 :: z194 :: z195 :: z196 :: z197 :: z198 :: z199 :: z200 :: z201 :: z202 :: z203 :: z204 :: z205 :: z206 :: z207 :: z208 :: z209 :: z210 :: z211 :: z212 :: z213 :: z214 :: z215 :: z216 :: z217 :: z218 :: z219 :: z220 :: z221 :: z222 :: z223 :: z224 :: z225 :: z226 :: z227 :: z228 :: z229 :: z230 :: z231 :: z232 :: z233 :: z234 :: z235 :: z236 :: z237 :: z238 :: z239 :: z240 :: z241 :: z242 :: z243 :: z244 :: z245 :: z246 :: z247 :: z248 :: z249 :: z250 :: z251 :: z252 :: z253 :: z254 :: z255 :: z256 :: z257 :: z258 :: z259 :: z260 :: z261 :: z262 :: z263 :: z264 :: z265 :: z266 :: z267 :: z268 :: z269 :: z270 :: z271 :: z272 :: z273 :: z274 :: z275 :: z276 :: z277 :: z278 :: z279 :: z280 :: z281 :: z282 :: z283 :: z284 :: z285 :: z286 :: []), []⟩ w1 := by
  conv => arg 2; whnf
  have hl := of_decide_eq_false HL.out
  have b6 : x.sc.length ≤ 60 := by omega
  have b7 : x.mi.length ≤ 60 := by omega
  have b8 : x.hr.length ≤ 24 := by omega
  have b13 : x.mo.length ≤ 12 := by omega
  have b10 : x.md.length ≤ 62 := by omega
  have b11 : x.yd.length ≤ 732 := by omega
  have b12 : x.wn.length ≤ 106 := by omega
  have b14 : x.sp.length ≤ 732 := by omega
  have b9 : x.dy.length ≤ 749 := by omega
  clear hl
  obtain ⟨la, hla⟩ : ∃ b, laB x = b := ⟨_, rfl⟩
  have HA := Lib.hid hla
  clear hla
  obtain ⟨t0, ht0⟩ : ∃ b, lsR 0 59 false x.sc = b := ⟨_, rfl⟩
  have T0 := Lib.hid ht0
  clear ht0
  obtain ⟨t1, ht1⟩ : ∃ b, lsR 0 59 false x.mi = b := ⟨_, rfl⟩
  have T1 := Lib.hid ht1
  clear ht1
  obtain ⟨t2, ht2⟩ : ∃ b, lsR 0 23 false x.hr = b := ⟨_, rfl⟩
  have T2 := Lib.hid ht2
  clear ht2
  obtain ⟨t3, ht3⟩ : ∃ b, lsR 1 12 false x.mo = b := ⟨_, rfl⟩
  have T3 := Lib.hid ht3
  clear ht3
  obtain ⟨t4, ht4⟩ : ∃ b, lsR 1 31 true x.md = b := ⟨_, rfl⟩
  have T4 := Lib.hid ht4
  clear ht4
  obtain ⟨t5, ht5⟩ : ∃ b, lsR 1 366 true x.yd = b := ⟨_, rfl⟩
  have T5 := Lib.hid ht5
  clear ht5
  obtain ⟨t6, ht6⟩ : ∃ b, lsR 1 53 true x.wn = b := ⟨_, rfl⟩
  have T6 := Lib.hid ht6
  clear ht6
  obtain ⟨t7, ht7⟩ : ∃ b, lsR 1 366 true x.sp = b := ⟨_, rfl⟩
  have T7 := Lib.hid ht7
  clear ht7
  go_upto_region 8 with fail
  rename_i K10 hK10 Kc hKc
  go_cut [167] (fun v wz => v = .bool (!la) ∧ Hid (Below w1.heap.size w1 wz))
  case first =>
    have CC := C
    have LL := L
    have BB : Hid (Below w1.heap.size w1 w1) := Lib.hid (Below.refl _ _)
    have m6 := (CC.out.2 6 _ rfl).1
    go_wp2_with fail
    refine (rlst_to _ _ 0 59 false t0 _ LL.out.h6 (by omega) (by decide) (by decide) (by decide) (by decide) T0).mono ?_
    rintro e v0 ⟨rfl, k0⟩
    have CC := Lib.hid (CC.out.below k0)
    have LL := Lib.hid (LL.out.below k0)
    have BB := Lib.hid (bstep BB.out k0)
    clear m6 k0
    cases t0 with
    | false =>
      obtain rfl : la = false := by rw [← HA.out, laB, T0.out]; rfl
      go_wp2
      go_meet
      exact ⟨rfl, BB⟩
    | true =>
    have m7 := (CC.out.2 7 _ rfl).1
    go_wp2_with fail
    refine (rlst_to _ _ 0 59 false t1 _ LL.out.h7 (by omega) (by decide) (by decide) (by decide) (by decide) T1).mono ?_
    rintro e v1 ⟨rfl, k1⟩
    have CC := Lib.hid (CC.out.below k1)
    have LL := Lib.hid (LL.out.below k1)
    have BB := Lib.hid (bstep BB.out k1)
    clear m7 k1
    cases t1 with
    | false =>
      obtain rfl : la = false := by rw [← HA.out, laB, T0.out, T1.out]; rfl
      go_wp2
      go_meet
      exact ⟨rfl, BB⟩
    | true =>
    have m8 := (CC.out.2 8 _ rfl).1
    go_wp2_with fail
    refine (rlst_to _ _ 0 23 false t2 _ LL.out.h8 (by omega) (by decide) (by decide) (by decide) (by decide) T2).mono ?_
    rintro e v2 ⟨rfl, k2⟩
    have CC := Lib.hid (CC.out.below k2)
    have LL := Lib.hid (LL.out.below k2)
    have BB := Lib.hid (bstep BB.out k2)
    clear m8 k2
    cases t2 with
    | false =>
      obtain rfl : la = false := by rw [← HA.out, laB, T0.out, T1.out, T2.out]; rfl
      go_wp2
      go_meet
      exact ⟨rfl, BB⟩
    | true =>
    have m13 := (CC.out.2 13 _ rfl).1
    go_wp2_with fail
    refine (rlst_to _ _ 1 12 false t3 _ LL.out.h13 (by omega) (by decide) (by decide) (by decide) (by decide) T3).mono ?_
    rintro e v3 ⟨rfl, k3⟩
    have CC := Lib.hid (CC.out.below k3)
    have LL := Lib.hid (LL.out.below k3)
    have BB := Lib.hid (bstep BB.out k3)
    clear m13 k3
    cases t3 with
    | false =>
      obtain rfl : la = false := by rw [← HA.out, laB, T0.out, T1.out, T2.out, T3.out]; rfl
      go_wp2
      go_meet
      exact ⟨rfl, BB⟩
    | true =>
    have m10 := (CC.out.2 10 _ rfl).1
    go_wp2_with fail
    refine (rlst_to _ _ 1 31 true t4 _ LL.out.h10 (by omega) (by decide) (by decide) (by decide) (by decide) T4).mono ?_
    rintro e v4 ⟨rfl, k4⟩
    have CC := Lib.hid (CC.out.below k4)
    have LL := Lib.hid (LL.out.below k4)
    have BB := Lib.hid (bstep BB.out k4)
    clear m10 k4
    cases t4 with
    | false =>
      obtain rfl : la = false := by rw [← HA.out, laB, T0.out, T1.out, T2.out, T3.out, T4.out]; rfl
      go_wp2
      go_meet
      exact ⟨rfl, BB⟩
    | true =>
    have m11 := (CC.out.2 11 _ rfl).1
    go_wp2_with fail
    refine (rlst_to _ _ 1 366 true t5 _ LL.out.h11 (by omega) (by decide) (by decide) (by decide) (by decide) T5).mono ?_
    rintro e v5 ⟨rfl, k5⟩
    have CC := Lib.hid (CC.out.below k5)
    have LL := Lib.hid (LL.out.below k5)
    have BB := Lib.hid (bstep BB.out k5)
    clear m11 k5
    cases t5 with
    | false =>
      obtain rfl : la = false := by rw [← HA.out, laB, T0.out, T1.out, T2.out, T3.out, T4.out, T5.out]; rfl
      go_wp2
      go_meet
      exact ⟨rfl, BB⟩
    | true =>
    have m12 := (CC.out.2 12 _ rfl).1
    go_wp2_with fail
    refine (rlst_to _ _ 1 53 true t6 _ LL.out.h12 (by omega) (by decide) (by decide) (by decide) (by decide) T6).mono ?_
    rintro e v6 ⟨rfl, k6⟩
    have CC := Lib.hid (CC.out.below k6)
    have LL := Lib.hid (LL.out.below k6)
    have BB := Lib.hid (bstep BB.out k6)
    clear m12 k6
    cases t6 with
    | false =>
      obtain rfl : la = false := by rw [← HA.out, laB, T0.out, T1.out, T2.out, T3.out, T4.out, T5.out, T6.out]; rfl
      go_wp2
      go_meet
      exact ⟨rfl, BB⟩
    | true =>
    have m14 := (CC.out.2 14 _ rfl).1
    go_wp2_with fail
    refine (rlst_to _ _ 1 366 true t7 _ LL.out.h14 (by omega) (by decide) (by decide) (by decide) (by decide) T7).mono ?_
    rintro e v7 ⟨rfl, k7⟩
    have CC := Lib.hid (CC.out.below k7)
    have LL := Lib.hid (LL.out.below k7)
    have BB := Lib.hid (bstep BB.out k7)
    clear m14 k7
    cases t7 with
    | false =>
      obtain rfl : la = false := by rw [← HA.out, laB, T0.out, T1.out, T2.out, T3.out, T4.out, T5.out, T6.out, T7.out]; rfl
      go_wp2
      go_meet
      exact ⟨rfl, BB⟩
    | true =>
    obtain rfl : la = true := by rw [← HA.out, laB, T0.out, T1.out, T2.out, T3.out, T4.out, T5.out, T6.out, T7.out]; rfl
    go_wp2
    go_meet
    exact ⟨rfl, BB⟩
  case rest =>
  obtain ⟨rfl, BB⟩ := hcut
  cases la with
  | false =>
    have hr : ckB x = false := by rw [HQ.out, HA.out]; rfl
    rw [HR.out] at hr
    subst hr
    go_wp2
    go_ret
    exact ⟨rfl, bstep B.out BB.out⟩
  | true =>
  have HQ2 : Hid (ckB x = (dsB x.fq x.wn.length x.dy && (g1B x && g2B x))) := Lib.hid (by rw [HQ.out, HA.out, Bool.true_and])
  go_step
  go_step
  go_step
  go_step
  exact hK10 _ _ (rr10 x a6 a7 a8 a9 a10 a11 a12 a13 a14 c6 c7 c8 c9 c10 c11 c12 c13 c14 r w _ (Lib.hid (C.out.below BB.out)) (Lib.hid (L.out.below BB.out)) (Lib.hid (bstep B.out BB.out)) HL HQ2 HR _ _ _ _ _ _ _ _ _ _ _ _ _ _ _ _ _ _ _ _ _ _ _ _ _ _ _ _ _ _ _ _ _ _ _ _ _ _ _ _ _ _ _ _ _ _ _ _ _ _ _ _ _ _ _ _ _ _ _ _ _ _ _ _ _ _ _ _ _ _ _ _ _ _ _ _ _ _ _ _ _ _ _ _ _ _ _ _ _ _ _ _ _ _ _ _ _ _ _ _ _ _ _ _ _ _ _ _ _ _ _ _ _ _ _ _ _ _ _ _ _ _ _ _ _ _ _ _ _ _ _ _ _ _ _ _ _ _ _ _ _ _ _ _ _ _ _ _ _ _ _ _ _ _ _ _ _ _ _ _ _ _ _ _ _ _ _ _ _ _ _ _ _ _ _ _ _ _ _ _ _ _ _ _ _ _ _ _ _ _ _ _ _ _ _ _ _ _ _ _ _ _ _ _ _ _ _ _ _ _ _ _ _ _ _ _ _ _ _ _ _ _ _ _ _ _ _ _ _ _ _ _ _ _ _ _ _ _ _ _ _ _ _ _ _ _ _ _ _ _ _ _ _ _ _ _ _ _ _ _ _ _ _ _ _ _ _ _ _ _ _ _ _ _ _ _ _ _ _ _ _ _ _ _ _ _)
end Rrl
end Go.Proofs.YtpbdlgmkkbccmaaDoor
