/-
  The reference's Day (solsticeref21): from the day of the year on, whole.
-/
import Derived.Test.YtpbdlgmkkbccmaaDoorFilAH2
namespace Go.Proofs.YtpbdlgmkkbccmaaDoor
open Go.RowKit
namespace Fil
open Rcv (CV LisV IntV DayV)
open Rck (ckE ckB Small)
open Civ (numV numE dY dM dD dnE ydV Ahead)
open Wk (noY noN noE)
open Cel
theorem yd_bd {d : Int} (hd : -719162 ≤ d ∧ d < 2932897) : 1 ≤ ydV d ∧ ydV d ≤ ylen (dY d) ∧ ylen (dY d) ≤ 366 := by
  obtain ⟨Y, M, D, h1, h2, h3, y, mm, dd, e, a, b⟩ := dy_bounds hd
  have yd : ydV d = d - Cal.ny Y + 1 := by
    have e' : -719528 ≤ d ∧ d ≤ 2933262 := by omega
    rw [dY, if_pos e'] at h1
    rw [ydV, if_pos e', h1]
  have yl : ylen Y = 365 + Cal.lp Y := by
    rw [ylen, Cal.lp]
    by_cases c : Cal.long Y = true
    · rw [if_pos c, if_pos c]; rfl
    · rw [if_neg c, if_neg c]; rfl
  have s := Cal.ny_succ Y
  have l := Cal.lp_01 Y
  rw [h1, yd, yl]
  omega
noncomputable def rdRC : Code := (Tryd.f43.body.bind (Tl.from_ 10)).getD .skip
set_option maxHeartbeats 25600000 in
set_option maxRecDepth 100000 in
theorem rdR (x : CV) (s6 s7 s8 s14 : Value) (a9 a10 a11 a12 a13 : Option Addr) (c9 c10 c11 c12 c13 : Nat) (a d Y M D Y0 M0 D0 : Int) (p : Bool) (w w1 : World) (g h : Nat) (L : Hid (LisV w x s6 s7 s8 (.slice a9 x.dy.length c9) (.slice a10 x.md.length c10) (.slice a11 x.yd.length c11) (.slice a12 x.wn.length c12) (.slice a13 x.mo.length c13) s14)) (S : Hid (Small x)) (C : Hid (Cs g w1 [.int .i64 Y, .int .i64 M, .int .i64 D])) (E : Hid (Cs h w1 [.int .i64 Y0, .int .i64 M0, .int .i64 D0])) (RB : Hid (Cs w.heap.size w1 [.int .i64 x.fq, .int .i64 x.iv, .int .i64 x.ct, .bool x.un, .int .i64 x.ua, .bool x.ut, s6, s7, s8, .slice a9 x.dy.length c9, .slice a10 x.md.length c10, .slice a11 x.yd.length c11, .slice a12 x.wn.length c12, .slice a13 x.mo.length c13, s14, .int .i64 x.wk])) (B : Hid (Below w.heap.size w w1)) (DB : Hid ((-719162 ≤ d ∧ d < 2932897) ∧ (-719162 ≤ a ∧ a < 2932897) ∧ (1 ≤ Y ∧ Y ≤ 9999) ∧ (1 ≤ M ∧ M ≤ 12) ∧ (1 ≤ D ∧ D ≤ Cal.mlen Y M))) (DE : Hid (dD d = D ∧ dD a = D0 ∧ dM d = M ∧ dM a = M0)) (DY : Hid (dY d = Y)) (HP : Hid (((decide (x.yd = []) || ewB x.yd (ydV d) (ylen (dY d))) && ((decide (x.md = []) || ewB x.md (dD d) (Cal.mlen (dY d) (dM d))) && rlastB x a d)) = p)) (z0 z1 z4 z5 z6 z9 z11 z12 z13 z14 z15 z16 z17 z18 z19 z20 z21 z22 z23 z24 z25 z26 z27 z28 z29 z30 z31 z32 z33 z34 z35 z36 z37 z38 z39 z40 z41 z42 z43 z44 z45 z46 z47 z48 z49 z50 z51 z52 z53 z54 z55 z56 z57 z58 z59 z60 z61 z62 z63 z64 z65 z66 z67 z68 z69 z70 z71 z72 z73 z74 z75 z76 z77 z78 z79 z80 z81 z82 z83 z84 z85 z86 z87 z88 z89 z90 z91 z92 z93 z94 z95 z96 z97 z98 z99 z100 z101 z102 z103 z104 z105 z106 z107 z108 z109 z110 z111 z112 z113 z114 z115 z116 z117 z118 z119 z120 z121 z122 z123 z124 z125 z126 z127 z128 z129 z130 z131 z132 z133 z134 z135 z136 z137 z138 z139 z140 z141 z142 z143 z144 z145 z146 z147 z148 z149 z150 z151 z152 z153 z154 z155 z156 z157 z158 z159 z160 z161 z162 z163 z164 z165 z166 z167 z168 z169 z170 z171 z172 z173 z174 z175 z176 z177 z178 z179 z180 z181 z182 z183 z184 z185 z186 z187 z188 z189 z190 z191 z192 z193 z194 z195 z196 z197 z198 z199 z200 z201 z202 z203 z204 z205 z206 z207 z208 z209 z210 z211 z212 z213 z214 z215 z216 z217 z218 z219 z220 z221 z222 z223 z224 z225 z226 z227 z228 z229 z230 z231 z232 z233 z234 z235 z236 z237 z238 z239 z240 z241 z242 z243 z244 z245 z246 z247 z248 z249 z250 z251 : Value) : Code.wp Tryd.prog rdRC (bodyPost Tryd.prog Tryd.f43 (fun e w' => e = .returned (.bool p) ∧ Below w.heap.size w w')) ⟨List.toArray (z0 :: z1 :: .int .i64 d :: .pointer (some ⟨w.heap.size, 0, none⟩) :: z4 :: z5 :: z6 :: .pointer (some ⟨g, 0, none⟩) :: .int .i64 a :: z9 :: .pointer (some ⟨h, 0, none⟩) :: z11 :: z12 :: z13 :: z14 :: z15 :: z16 :: z17 :: z18 :: z19 :: z20 :: z21 :: z22 :: z23 :: z24 :: z25 :: z26 :: z27 :: z28 :: z29 :: z30 :: z31 :: z32 :: z33 :: z34 :: z35 :: z36 :: z37 :: z38 :: z39 :: z40 :: z41 :: z42 :: z43 :: z44 :: z45 :: z46 :: z47 :: z48 :: z49 :: z50 :: z51 :: z52 :: z53 :: z54 :: z55 :: z56 :: z57 :: z58 :: z59 :: z60 :: z61 :: z62 :: z63 :: z64 :: z65 :: z66 :: z67 :: z68 :: z69 :: z70 :: z71 :: z72 :: z73 :: z74 :: z75 :: z76 :: z77 :: z78 :: z79 :: z80 :: z81 :: z82 :: z83 :: z84 :: z85 :: z86 :: z87 :: z88 :: z89 :: z90 :: z91 :: z92 :: z93 :: z94 :: z95 :: z96 :: z97 :: z98 :: z99 :: z100 :: z101 :: z102 :: z103 :: z104 :: z105 :: z106 :: z107 :: z108 :: z109 :: z110 :: z111 :: z112 :: z113 :: z114 :: z115 :: z116 :: z117 :: z118 :: z119 :: z120 :: z121 :: z122 :: z123 :: z124 :: z125 :: z126 :: z127 :: z128 :: z129 :: z130 :: z131 :: z132 :: z133 :: z134 :: z135 :: z136 :: z137 :: z138 :: z139 :: z140 :: z141 :: z142 :: z143 :: z144 :: z145 :: z146 :: z147 :: z148 :: z149 :: z150 :: z151 :: z152 :: z153 :: z154 :: z155 :: z156 :: z157 :: z158 :: z159 :: z160 :: z161 :: z162 :: z163 :: z164 :: z165 :: z166 :: z167 :: z168 :: z169 :: z170 :: z171 :: z172 :: z173 :: z174 :: z175 :: z176 :: z177 :: z178 :: z179 :: z180 :: z181 :: z182 :: z183 :: z184 :: z185 :: z186 :: z187 :: z188 :: z189 :: z190 :: z191 :: z192 :: z193 :: z194 :: z195 :: z196 :: z197 :: z198 :: z199 :: z200 :: z201 :: z202 :: z203 :: z204 :: z205 :: z206 :: z207 :: z208 :: z209 :: z210 :: z211 :: z212 :: z213 :: z214 :: z215 :: z216 :: z217 :: z218 :: z219 :: z220 :: z221 :: z222 :: z223 :: z224 :: z225 :: z226 :: z227 :: z228 :: z229 :: z230 :: z231 :: z232 :: z233 :: z234 :: z235 :: z236 :: z237 :: z238 :: z239 :: z240 :: z241 :: z242 :: z243 :: z244 :: z245 :: z246 :: z247 :: z248 :: z249 :: z250 :: z251 :: []), []⟩ w1 := by
  conv => arg 2; whnf
  have DB1 := DB.out.1.1
  have DB2 := DB.out.1.2
  obtain ⟨yd, hyd⟩ : ∃ k, ydV d = k := ⟨_, rfl⟩
  obtain ⟨yl, hyl⟩ : ∃ k, ylen (dY d) = k := ⟨_, rfl⟩
  obtain ⟨ml, hml⟩ : ∃ k, Cal.mlen Y M = k := ⟨_, rfl⟩
  have yb := yd_bd DB.out.1
  rw [hyd, hyl] at yb
  obtain ⟨lb, hlb⟩ : ∃ k, Cal.long Y = k := ⟨_, rfl⟩
  have HYL : Hid (yl = if lb = true then 366 else 365) := Lib.hid (by rw [← hyl, ylen, DY.out, hlb])
  obtain ⟨jb, hjb⟩ : ∃ k, (decide (x.yd = []) || ewB x.yd yd yl) = k := ⟨_, rfl⟩
  obtain ⟨kb, hkb⟩ : ∃ k, (decide (x.md = []) || ewB x.md D ml) = k := ⟨_, rfl⟩
  have HP : Hid ((jb && (kb && rlastB x a d)) = p) := Lib.hid (by rw [← HP.out, hyd, hyl, DE.out.1, DY.out, DE.out.2.2.1, hml, hjb, hkb])
  have EWY := Lib.hid hjb
  have EWM := Lib.hid hkb
  have HYD := Lib.hid (And.intro hyd (And.intro hyl yb))
  have HLM := Lib.hid hml
  have HML : Hid (Cal.mlen (dY d) M = ml) := Lib.hid (by rw [DY.out]; exact hml)
  have MB : Hid (28 ≤ ml ∧ ml ≤ 31 ∧ 1 ≤ D ∧ D ≤ ml) := Lib.hid (by rw [← hml]; exact ⟨Cal.mlen_28 DB.out.2.2.2.1.1 DB.out.2.2.2.1.2, (Cal.mlen_bd _ _).2, DB.out.2.2.2.2⟩)
  have HLB := Lib.hid hlb
  obtain ⟨yb1, yb2, yb3⟩ := yb
  clear hyd hyl hml hlb hjb hkb
  go_upto_region 10 with fail
  go_cut [13, 14] (fun u v wz => u = .int .i64 yd ∧ v = .int .i64 365 ∧ Hid (Cs g wz [.int .i64 Y, .int .i64 M, .int .i64 D]) ∧ Hid (Cs h wz [.int .i64 Y0, .int .i64 M0, .int .i64 D0]) ∧ Hid (Cs w.heap.size wz [.int .i64 x.fq, .int .i64 x.iv, .int .i64 x.ct, .bool x.un, .int .i64 x.ua, .bool x.ut, s6, s7, s8, .slice a9 x.dy.length c9, .slice a10 x.md.length c10, .slice a11 x.yd.length c11, .slice a12 x.wn.length c12, .slice a13 x.mo.length c13, s14, .int .i64 x.wk]) ∧ Hid (Below w.heap.size w wz))
  case first =>
    go_wp2_with fail
    refine (Civ.ryearDay_any d _ (by omega) (by omega)).mono ?_
    rintro e w3 ⟨rfl, k⟩
    rw [HYD.out.1]
    have C := Lib.hid (C.out.below (k.mono (Nat.le_refl _)))
    have E := Lib.hid (E.out.below (k.mono (Nat.le_refl _)))
    have RB := Lib.hid (RB.out.below k)
    have B := Lib.hid (bstep B.out k)
    clear k
    go_wp2
    go_meet
    exact ⟨rfl, rfl, C, E, RB, B⟩
  case rest =>
  obtain ⟨w2, rfl⟩ : ∃ x : World, x = wc := ⟨_, rfl⟩
  clear C E RB B
  obtain ⟨rfl, rfl, C, E, RB, B⟩ := hcut
  have q0 := (C.out.2 0 _ rfl).1
  go_upto_region 11 with fail
  go_cut [76] (fun v wz => v = .bool lb ∧ Hid (Cs g wz [.int .i64 Y, .int .i64 M, .int .i64 D]) ∧ Hid (Cs h wz [.int .i64 Y0, .int .i64 M0, .int .i64 D0]) ∧ Hid (Cs w.heap.size wz [.int .i64 x.fq, .int .i64 x.iv, .int .i64 x.ct, .bool x.un, .int .i64 x.ua, .bool x.ut, s6, s7, s8, .slice a9 x.dy.length c9, .slice a10 x.md.length c10, .slice a11 x.yd.length c11, .slice a12 x.wn.length c12, .slice a13 x.mo.length c13, s14, .int .i64 x.wk]) ∧ Hid (Below w.heap.size w wz))
  case first =>
    go_wp2_with fail
    refine (Civ.rlong_any Y _ (by have := DB.out; omega) (by have := DB.out; omega)).mono ?_
    rintro e w3 ⟨rfl, n, rfl⟩
    rw [HLB.out]
    go_wp2
    go_meet
    exact ⟨rfl, Lib.hid (C.out.drewN n), Lib.hid (E.out.drewN n), Lib.hid (RB.out.drewN n), Lib.hid (bdrew B.out n)⟩
  case rest =>
  obtain ⟨w4, rfl⟩ : ∃ x : World, x = wc := ⟨_, rfl⟩
  clear C E RB B q0
  obtain ⟨rfl, C, E, RB, B⟩ := hcut
  go_upto_if 76 with fail
  rename_i K13 hK13
  go_cut [14] (fun v wz => v = .int .i64 yl ∧ Hid (Cs g wz [.int .i64 Y, .int .i64 M, .int .i64 D]) ∧ Hid (Cs h wz [.int .i64 Y0, .int .i64 M0, .int .i64 D0]) ∧ Hid (Cs w.heap.size wz [.int .i64 x.fq, .int .i64 x.iv, .int .i64 x.ct, .bool x.un, .int .i64 x.ua, .bool x.ut, s6, s7, s8, .slice a9 x.dy.length c9, .slice a10 x.md.length c10, .slice a11 x.yd.length c11, .slice a12 x.wn.length c12, .slice a13 x.mo.length c13, s14, .int .i64 x.wk]) ∧ Hid (Below w.heap.size w wz))
  case first =>
    cases lb with
    | true =>
      have hF : yl = 366 := HYL.out
      subst hF
      clear HYL
      go_wp2
      go_meet
      exact ⟨rfl, C, E, RB, B⟩
    | false =>
      have hF : yl = 365 := HYL.out
      subst hF
      clear HYL
      go_wp2
      go_meet
      exact ⟨rfl, C, E, RB, B⟩
  case rest =>
  obtain ⟨w5, rfl⟩ : ∃ x : World, x = wc := ⟨_, rfl⟩
  clear C E RB B HYL HLB
  obtain ⟨rfl, C, E, RB, B⟩ := hcut
  exact hK13 _ _ (rdO x s6 s7 s8 s14 a9 a10 a11 a12 a13 c9 c10 c11 c12 c13 a d Y M D Y0 M0 D0 p w _ g h L S C E RB B DB yd yl ml jb kb DY DE HYD HLM HML MB EWY EWM HP _ _ _ _ _ _ _ _ _ _ _ _ _ _ _ _ _ _ _ _ _ _ _ _ _ _ _ _ _ _ _ _ _ _ _ _ _ _ _ _ _ _ _ _ _ _ _ _ _ _ _ _ _ _ _ _ _ _ _ _ _ _ _ _ _ _ _ _ _ _ _ _ _ _ _ _ _ _ _ _ _ _ _ _ _ _ _ _ _ _ _ _ _ _ _ _ _ _ _ _ _ _ _ _ _ _ _ _ _ _ _ _ _ _ _ _ _ _ _ _ _ _ _ _ _ _ _ _ _ _ _ _ _ _ _ _ _ _ _ _ _ _ _ _ _ _ _ _ _ _ _ _ _ _ _ _ _ _ _ _ _ _ _ _ _ _ _ _ _ _ _ _ _ _ _ _ _ _ _ _ _ _ _ _ _ _ _ _ _ _ _ _ _ _ _ _ _ _ _ _ _ _ _ _ _ _ _ _ _ _ _ _ _ _ _ _ _ _ _ _ _ _ _ _ _ _ _ _ _ _ _ _ _ _ _ _ _ _ _ _ _ _ _ _ _)
end Fil
end Go.Proofs.YtpbdlgmkkbccmaaDoor
