/-
  The reference's Day (solsticeref21): from the months on.
-/
import Derived.Test.YtpbdlgmkkbccmaaDoorBdFk
namespace Go.Proofs.YtpbdlgmkkbccmaaDoor
open Go.RowKit
namespace Fil
open Rcv (CV LisV IntV DayV)
open Rck (ckE ckB Small)
open Civ (numV numE dY dM dD dnE ydV Ahead)
open Wk (noY noN noE)
open Cel
noncomputable def rdQC : Code := (Tryd.f43.body.bind (Tl.from_ 4)).getD .skip
set_option maxHeartbeats 25600000 in
set_option maxRecDepth 100000 in
theorem rdQ (x : CV) (s6 s7 s8 s14 : Value) (a9 a10 a11 a12 a13 : Option Addr) (c9 c10 c11 c12 c13 : Nat) (a d Y M D Y0 M0 D0 : Int) (p : Bool) (w w1 : World) (g h : Nat) (L : Hid (LisV w x s6 s7 s8 (.slice a9 x.dy.length c9) (.slice a10 x.md.length c10) (.slice a11 x.yd.length c11) (.slice a12 x.wn.length c12) (.slice a13 x.mo.length c13) s14)) (S : Hid (Small x)) (C : Hid (Cs g w1 [.int .i64 Y, .int .i64 M, .int .i64 D])) (E : Hid (Cs h w1 [.int .i64 Y0, .int .i64 M0, .int .i64 D0])) (RB : Hid (Cs w.heap.size w1 [.int .i64 x.fq, .int .i64 x.iv, .int .i64 x.ct, .bool x.un, .int .i64 x.ua, .bool x.ut, s6, s7, s8, .slice a9 x.dy.length c9, .slice a10 x.md.length c10, .slice a11 x.yd.length c11, .slice a12 x.wn.length c12, .slice a13 x.mo.length c13, s14, .int .i64 x.wk])) (B : Hid (Below w.heap.size w w1)) (DB : Hid ((-719162 ≤ d ∧ d < 2932897) ∧ (-719162 ≤ a ∧ a < 2932897) ∧ (1 ≤ Y ∧ Y ≤ 9999) ∧ (1 ≤ M ∧ M ≤ 12) ∧ (1 ≤ D ∧ D ≤ Cal.mlen Y M))) (DE : Hid (dD d = D ∧ dD a = D0 ∧ dM d = M ∧ dM a = M0)) (DY : Hid (dY d = Y)) (KW : Hid (0 ≤ x.wk ∧ x.wk ≤ 6)) (HYR : Hid (1 ≤ Cal.yr d ∧ Cal.yr d ≤ 9999)) (HP : Hid (dayR x a d (wkN (noY d x.wk) x.wk) = p)) (z0 z1 z4 z5 z6 z9 z11 z12 z13 z14 z15 z16 z17 z18 z19 z20 z21 z22 z23 z24 z25 z26 z27 z28 z29 z30 z31 z32 z33 z34 z35 z36 z37 z38 z39 z40 z41 z42 z43 z44 z45 z46 z47 z48 z49 z50 z51 z52 z53 z54 z55 z56 z57 z58 z59 z60 z61 z62 z63 z64 z65 z66 z67 z68 z69 z70 z71 z72 z73 z74 z75 z76 z77 z78 z79 z80 z81 z82 z83 z84 z85 z86 z87 z88 z89 z90 z91 z92 z93 z94 z95 z96 z97 z98 z99 z100 z101 z102 z103 z104 z105 z106 z107 z108 z109 z110 z111 z112 z113 z114 z115 z116 z117 z118 z119 z120 z121 z122 z123 z124 z125 z126 z127 z128 z129 z130 z131 z132 z133 z134 z135 z136 z137 z138 z139 z140 z141 z142 z143 z144 z145 z146 z147 z148 z149 z150 z151 z152 z153 z154 z155 z156 z157 z158 z159 z160 z161 z162 z163 z164 z165 z166 z167 z168 z169 z170 z171 z172 z173 z174 z175 z176 z177 z178 z179 z180 z181 z182 z183 z184 z185 z186 z187 z188 z189 z190 z191 z192 z193 z194 z195 z196 z197 z198 z199 z200 z201 z202 z203 z204 z205 z206 z207 z208 z209 z210 z211 z212 z213 z214 z215 z216 z217 z218 z219 z220 z221 z222 z223 z224 z225 z226 z227 z228 z229 z230 z231 z232 z233 z234 z235 z236 z237 z238 z239 z240 z241 z242 z243 z244 z245 z246 z247 z248 z249 z250 z251 : Value) : Code.wp Tryd.prog rdQC (bodyPost Tryd.prog Tryd.f43 (fun e w' => e = .returned (.bool p) ∧ Below w.heap.size w w')) ⟨List.toArray (z0 :: z1 :: .int .i64 d :: .pointer (some ⟨w.heap.size, 0, none⟩) :: z4 :: z5 :: z6 :: .pointer (some ⟨g, 0, none⟩) :: .int .i64 a :: z9 :: .pointer (some ⟨h, 0, none⟩) :: z11 :: z12 :: z13 :: z14 :: z15 :: z16 :: z17 :: z18 :: z19 :: z20 :: z21 :: z22 :: z23 :: z24 :: z25 :: z26 :: z27 :: z28 :: z29 :: z30 :: z31 :: z32 :: z33 :: z34 :: z35 :: z36 :: z37 :: z38 :: z39 :: z40 :: z41 :: z42 :: z43 :: z44 :: z45 :: z46 :: z47 :: z48 :: z49 :: z50 :: z51 :: z52 :: z53 :: z54 :: z55 :: z56 :: z57 :: z58 :: z59 :: z60 :: z61 :: z62 :: z63 :: z64 :: z65 :: z66 :: z67 :: z68 :: z69 :: z70 :: z71 :: z72 :: z73 :: z74 :: z75 :: z76 :: z77 :: z78 :: z79 :: z80 :: z81 :: z82 :: z83 :: z84 :: z85 :: z86 :: z87 :: z88 :: z89 :: z90 :: z91 :: z92 :: z93 :: z94 :: z95 :: z96 :: z97 :: z98 :: z99 :: z100 :: z101 :: z102 :: z103 :: z104 :: z105 :: z106 :: z107 :: z108 :: z109 :: z110 :: z111 :: z112 :: z113 :: z114 :: z115 :: z116 :: z117 :: z118 :: z119 :: z120 :: z121 :: z122 :: z123 :: z124 :: z125 :: z126 :: z127 :: z128 :: z129 :: z130 :: z131 :: z132 :: z133 :: z134 :: z135 :: z136 :: z137 :: z138 :: z139 :: z140 :: z141 :: z142 :: z143 :: z144 :: z145 :: z146 :: z147 :: z148 :: z149 :: z150 :: z151 :: z152 :: z153 :: z154 :: z155 :: z156 :: z157 :: z158 :: z159 :: z160 :: z161 :: z162 :: z163 :: z164 :: z165 :: z166 :: z167 :: z168 :: z169 :: z170 :: z171 :: z172 :: z173 :: z174 :: z175 :: z176 :: z177 :: z178 :: z179 :: z180 :: z181 :: z182 :: z183 :: z184 :: z185 :: z186 :: z187 :: z188 :: z189 :: z190 :: z191 :: z192 :: z193 :: z194 :: z195 :: z196 :: z197 :: z198 :: z199 :: z200 :: z201 :: z202 :: z203 :: z204 :: z205 :: z206 :: z207 :: z208 :: z209 :: z210 :: z211 :: z212 :: z213 :: z214 :: z215 :: z216 :: z217 :: z218 :: z219 :: z220 :: z221 :: z222 :: z223 :: z224 :: z225 :: z226 :: z227 :: z228 :: z229 :: z230 :: z231 :: z232 :: z233 :: z234 :: z235 :: z236 :: z237 :: z238 :: z239 :: z240 :: z241 :: z242 :: z243 :: z244 :: z245 :: z246 :: z247 :: z248 :: z249 :: z250 :: z251 :: []), []⟩ w1 := by
  conv => arg 2; whnf
  obtain ⟨jb, hjb⟩ : ∃ k, (decide (x.mo = []) || x.mo.contains M) = k := ⟨_, rfl⟩
  have HB := Lib.hid hjb
  obtain ⟨wb, hwb⟩ : ∃ k, (decide (x.wn = []) || ewB x.wn (noN d x.wk) (wkN (noY d x.wk) x.wk)) = k := ⟨_, rfl⟩
  have HWB := Lib.hid hwb
  have HP : Hid ((jb && (wb && (((decide (x.yd = []) || ewB x.yd (ydV d) (ylen (dY d))) && ((decide (x.md = []) || ewB x.md (dD d) (Cal.mlen (dY d) (dM d))) && rlastB x a d))))) = p) := Lib.hid (by rw [← HP.out, dayR, DE.out.2.2.1, hjb, hwb])
  clear hjb hwb
  have q1 := (C.out.2 1 _ rfl).1
  have l13 := (RB.out.2 13 _ rfl).1
  have LV := Lib.hid (L.out.below B.out)
  cases jb with
  | false =>
    have hF : p = false := by rw [← HP.out]; rfl
    subst hF
    have h0 : ¬ x.mo = [] := fun q => by have := HB.out; rw [decide_eq_true q] at this; exact absurd this (by simp)
    have H1 : Hid (x.mo.contains M = false) := Lib.hid (by have q := HB.out; rw [decide_eq_false h0, Bool.false_or] at q; exact q)
    have z := len_pos' h0
    have zn := Int.ofNat_lt.1 z
    have zd := decide_eq_true zn
    clear h0 HP
    go_wp2_with fail
    refine (rhas_v _ x.mo M _ _ LV.out.h13 S.out.mo H1).mono ?_
    rintro e w9 ⟨rfl, rfl⟩
    go_wp2
    go_ret
    exact ⟨ret_b rfl, B.out⟩
  | true =>
  go_upto_region 4 with fail
  go_cut [42] (fun v wz => v = .bool false ∧ Hid (Cs g wz [.int .i64 Y, .int .i64 M, .int .i64 D]) ∧ Hid (Cs h wz [.int .i64 Y0, .int .i64 M0, .int .i64 D0]) ∧ Hid (Cs w.heap.size wz [.int .i64 x.fq, .int .i64 x.iv, .int .i64 x.ct, .bool x.un, .int .i64 x.ua, .bool x.ut, s6, s7, s8, .slice a9 x.dy.length c9, .slice a10 x.md.length c10, .slice a11 x.yd.length c11, .slice a12 x.wn.length c12, .slice a13 x.mo.length c13, s14, .int .i64 x.wk]) ∧ Hid (Below w.heap.size w wz))
  case first =>
    by_cases h0 : x.mo = []
    case pos =>
      have z0 : x.mo.length = 0 := by rw [h0]; rfl
      rw [z0] at l13
      clear h0 z0 HP HB
      go_wp2
      go_meet
      exact ⟨rfl, C, E, RB, B⟩
    have z := len_pos' h0
    have zn := Int.ofNat_lt.1 z
    have zd := decide_eq_true zn
    have H1 : Hid (x.mo.contains M = true) := Lib.hid (by have q := HB.out; rw [decide_eq_false h0, Bool.false_or] at q; exact q)
    clear h0 HP HB
    go_wp2_with fail
    refine (rhas_v _ x.mo M _ _ LV.out.h13 S.out.mo H1).mono ?_
    rintro e w9 ⟨rfl, rfl⟩
    go_wp2
    go_meet
    exact ⟨rfl, C, E, RB, B⟩
  case rest =>
  obtain ⟨w2, rfl⟩ : ∃ x : World, x = wc := ⟨_, rfl⟩
  clear C E RB B q1 l13 LV HB
  obtain ⟨rfl, C, E, RB, B⟩ := hcut
  have HP : Hid ((wb && (((decide (x.yd = []) || ewB x.yd (ydV d) (ylen (dY d))) && ((decide (x.md = []) || ewB x.md (dD d) (Cal.mlen (dY d) (dM d))) && rlastB x a d)))) = p) := Lib.hid (by rw [← HP.out]; rfl)
  have l12 := (RB.out.2 12 _ rfl).1
  by_cases h0 : x.wn = []
  · have z0 : x.wn.length = 0 := by rw [h0]; rfl
    rw [z0] at l12
    have HP2 : Hid ((((decide (x.yd = []) || ewB x.yd (ydV d) (ylen (dY d))) && ((decide (x.md = []) || ewB x.md (dD d) (Cal.mlen (dY d) (dM d))) && rlastB x a d))) = p) := Lib.hid (by rw [← HP.out, ← HWB.out, decide_eq_true h0, Bool.true_or, Bool.true_and])
    clear HP HWB
    go_upto_region 6 with fail
    rename_i K10 hK10 Kc hKc
    go_cut [46] (fun v wz => v = .bool false ∧ Hid (Cs g wz [.int .i64 Y, .int .i64 M, .int .i64 D]) ∧ Hid (Cs h wz [.int .i64 Y0, .int .i64 M0, .int .i64 D0]) ∧ Hid (Cs w.heap.size wz [.int .i64 x.fq, .int .i64 x.iv, .int .i64 x.ct, .bool x.un, .int .i64 x.ua, .bool x.ut, s6, s7, s8, .slice a9 x.dy.length c9, .slice a10 x.md.length c10, .slice a11 x.yd.length c11, .slice a12 x.wn.length c12, .slice a13 x.mo.length c13, s14, .int .i64 x.wk]) ∧ Hid (Below w.heap.size w wz))
    case first =>
      clear h0 z0 HP2
      go_wp2
      go_meet
      exact ⟨rfl, C, E, RB, B⟩
    case rest =>
    obtain ⟨w3, rfl⟩ : ∃ x : World, x = wc := ⟨_, rfl⟩
    clear C E RB B l12
    obtain ⟨rfl, C, E, RB, B⟩ := hcut
    go_step
    go_step
    go_step
    go_step
    exact hK10 _ _ (rdR x s6 s7 s8 s14 a9 a10 a11 a12 a13 c9 c10 c11 c12 c13 a d Y M D Y0 M0 D0 p w _ g h L S C E RB B DB DE DY HP2 _ _ _ _ _ _ _ _ _ _ _ _ _ _ _ _ _ _ _ _ _ _ _ _ _ _ _ _ _ _ _ _ _ _ _ _ _ _ _ _ _ _ _ _ _ _ _ _ _ _ _ _ _ _ _ _ _ _ _ _ _ _ _ _ _ _ _ _ _ _ _ _ _ _ _ _ _ _ _ _ _ _ _ _ _ _ _ _ _ _ _ _ _ _ _ _ _ _ _ _ _ _ _ _ _ _ _ _ _ _ _ _ _ _ _ _ _ _ _ _ _ _ _ _ _ _ _ _ _ _ _ _ _ _ _ _ _ _ _ _ _ _ _ _ _ _ _ _ _ _ _ _ _ _ _ _ _ _ _ _ _ _ _ _ _ _ _ _ _ _ _ _ _ _ _ _ _ _ _ _ _ _ _ _ _ _ _ _ _ _ _ _ _ _ _ _ _ _ _ _ _ _ _ _ _ _ _ _ _ _ _ _ _ _ _ _ _ _ _ _ _ _ _ _ _ _ _ _ _ _ _ _ _ _ _ _ _ _ _ _ _ _ _ _ _ _ _)
  · have z := len_pos' h0
    have zn := Int.ofNat_lt.1 z
    have zd := decide_eq_true zn
    obtain ⟨N, hN⟩ : ∃ k, noN d x.wk = k := ⟨_, rfl⟩
    obtain ⟨V, hV⟩ : ∃ k, noY d x.wk = k := ⟨_, rfl⟩
    rw [hN, hV] at HWB
    obtain ⟨W, hW⟩ : ∃ k, wkN V x.wk = k := ⟨_, rfl⟩
    rw [hW] at HWB
    have HNV := Lib.hid (And.intro hN hV)
    have HWW := Lib.hid hW
    obtain ⟨k1, hk1⟩ : ∃ k, x.wn.contains N = k := ⟨_, rfl⟩
    obtain ⟨k2, hk2⟩ : ∃ k, x.wn.contains (N - W - 1) = k := ⟨_, rfl⟩
    have H1 := Lib.hid hk1
    have H2 := Lib.hid hk2
    have HWB2 : Hid ((k1 || k2) = wb) := Lib.hid (by rw [← HWB.out, decide_eq_false h0, Bool.false_or, ewB, hk1, hk2])
    have NS := no_span (d := d) KW.out DB.out.1
    rw [hV] at NS
    have NB := Lib.hid NS
    clear NS hN hV hW hk1 hk2 h0 HWB
    go_upto_region 6 with fail
    rename_i K10 hK10 Kc hKc
    go_cut [46] (fun v wz => v = .bool true ∧ Hid (Cs g wz [.int .i64 Y, .int .i64 M, .int .i64 D]) ∧ Hid (Cs h wz [.int .i64 Y0, .int .i64 M0, .int .i64 D0]) ∧ Hid (Cs w.heap.size wz [.int .i64 x.fq, .int .i64 x.iv, .int .i64 x.ct, .bool x.un, .int .i64 x.ua, .bool x.ut, s6, s7, s8, .slice a9 x.dy.length c9, .slice a10 x.md.length c10, .slice a11 x.yd.length c11, .slice a12 x.wn.length c12, .slice a13 x.mo.length c13, s14, .int .i64 x.wk]) ∧ Hid (Below w.heap.size w wz))
    case first =>
      clear HP HWB2
      go_wp2
      go_meet
      exact ⟨rfl, C, E, RB, B⟩
    case rest =>
    obtain ⟨w3, rfl⟩ : ∃ x : World, x = wc := ⟨_, rfl⟩
    clear C E RB B l12
    obtain ⟨rfl, C, E, RB, B⟩ := hcut
    cases wb with
    | false =>
      have hF : p = false := by rw [← HP.out]; rfl
      go_step
      go_step
      exact rdF x s6 s7 s8 s14 a9 a10 a11 a12 a13 c9 c10 c11 c12 c13 a d Y M D Y0 M0 D0 p w _ g h L S C E RB B DB N V W k1 k2 hF DE KW HYR H1 H2 HWB2 HNV HWW NB _ _ _ _ _ _ _ _ _ _ _ _ _ _ _ _ _ _ _ _ _ _ _ _ _ _ _ _ _ _ _ _ _ _ _ _ _ _ _ _ _ _ _ _ _ _ _ _ _ _ _ _ _ _ _ _ _ _ _ _ _ _ _ _ _ _ _ _ _ _ _ _ _ _ _ _ _ _ _ _ _ _ _ _ _ _ _ _ _ _ _ _ _ _ _ _ _ _ _ _ _ _ _ _ _ _ _ _ _ _ _ _ _ _ _ _ _ _ _ _ _ _ _ _ _ _ _ _ _ _ _ _ _ _ _ _ _ _ _ _ _ _ _ _ _ _ _ _ _ _ _ _ _ _ _ _ _ _ _ _ _ _ _ _ _ _ _ _ _ _ _ _ _ _ _ _ _ _ _ _ _ _ _ _ _ _ _ _ _ _ _ _ _ _ _ _ _ _ _ _ _ _ _ _ _ _ _ _ _ _ _ _ _ _ _ _ _ _ _ _ _ _ _ _ _ _ _ _ _ _ _ _ _ _ _ _ _ _ _ _ _ _ _ _ _ _ _ _
    | true =>
      have HP2 : Hid ((((decide (x.yd = []) || ewB x.yd (ydV d) (ylen (dY d))) && ((decide (x.md = []) || ewB x.md (dD d) (Cal.mlen (dY d) (dM d))) && rlastB x a d))) = p) := Lib.hid (by rw [← HP.out]; rfl)
      go_step
      go_step
      refine rdG x s6 s7 s8 s14 a9 a10 a11 a12 a13 c9 c10 c11 c12 c13 a d Y M D Y0 M0 D0 p w _ g h L S C E RB B DB N V W k1 k2 DE KW HYR H1 H2 HWB2 HNV HWW NB _ _ _ _ _ _ _ _ _ _ _ _ _ _ _ _ _ _ _ _ _ _ _ _ _ _ _ _ _ _ _ _ _ _ _ _ _ _ _ _ _ _ _ _ _ _ _ _ _ _ _ _ _ _ _ _ _ _ _ _ _ _ _ _ _ _ _ _ _ _ _ _ _ _ _ _ _ _ _ _ _ _ _ _ _ _ _ _ _ _ _ _ _ _ _ _ _ _ _ _ _ _ _ _ _ _ _ _ _ _ _ _ _ _ _ _ _ _ _ _ _ _ _ _ _ _ _ _ _ _ _ _ _ _ _ _ _ _ _ _ _ _ _ _ _ _ _ _ _ _ _ _ _ _ _ _ _ _ _ _ _ _ _ _ _ _ _ _ _ _ _ _ _ _ _ _ _ _ _ _ _ _ _ _ _ _ _ _ _ _ _ _ _ _ _ _ _ _ _ _ _ _ _ _ _ _ _ _ _ _ _ _ _ _ _ _ _ _ _ _ _ _ _ _ _ _ _ _ _ _ _ _ _ _ _ _ _ _ _ _ _ _ _ _ _ _ _ _ ?_
      intro y0 y1 y4 y5 y6 y9 y11 y12 y13 y14 y15 y16 y17 y18 y19 y20 y21 y22 y23 y24 y25 y26 y27 y28 y29 y30 y31 y32 y33 y34 y35 y36 y37 y38 y39 y40 y41 y42 y43 y44 y45 y46 y47 y48 y49 y50 y51 y52 y53 y54 y55 y56 y57 y58 y59 y60 y61 y62 y63 y64 y65 y66 y67 y68 y69 y70 y71 y72 y73 y74 y75 y76 y77 y78 y79 y80 y81 y82 y83 y84 y85 y86 y87 y88 y89 y90 y91 y92 y93 y94 y95 y96 y97 y98 y99 y100 y101 y102 y103 y104 y105 y106 y107 y108 y109 y110 y111 y112 y113 y114 y115 y116 y117 y118 y119 y120 y121 y122 y123 y124 y125 y126 y127 y128 y129 y130 y131 y132 y133 y134 y135 y136 y137 y138 y139 y140 y141 y142 y143 y144 y145 y146 y147 y148 y149 y150 y151 y152 y153 y154 y155 y156 y157 y158 y159 y160 y161 y162 y163 y164 y165 y166 y167 y168 y169 y170 y171 y172 y173 y174 y175 y176 y177 y178 y179 y180 y181 y182 y183 y184 y185 y186 y187 y188 y189 y190 y191 y192 y193 y194 y195 y196 y197 y198 y199 y200 y201 y202 y203 y204 y205 y206 y207 y208 y209 y210 y211 y212 y213 y214 y215 y216 y217 y218 y219 y220 y221 y222 y223 y224 y225 y226 y227 y228 y229 y230 y231 y232 y233 y234 y235 y236 y237 y238 y239 y240 y241 y242 y243 y244 y245 y246 y247 y248 y249 y250 y251 wz C E RB B
      exact hK10 _ _ (rdR x s6 s7 s8 s14 a9 a10 a11 a12 a13 c9 c10 c11 c12 c13 a d Y M D Y0 M0 D0 p w wz g h L S C E RB B DB DE DY HP2 _ _ _ _ _ _ _ _ _ _ _ _ _ _ _ _ _ _ _ _ _ _ _ _ _ _ _ _ _ _ _ _ _ _ _ _ _ _ _ _ _ _ _ _ _ _ _ _ _ _ _ _ _ _ _ _ _ _ _ _ _ _ _ _ _ _ _ _ _ _ _ _ _ _ _ _ _ _ _ _ _ _ _ _ _ _ _ _ _ _ _ _ _ _ _ _ _ _ _ _ _ _ _ _ _ _ _ _ _ _ _ _ _ _ _ _ _ _ _ _ _ _ _ _ _ _ _ _ _ _ _ _ _ _ _ _ _ _ _ _ _ _ _ _ _ _ _ _ _ _ _ _ _ _ _ _ _ _ _ _ _ _ _ _ _ _ _ _ _ _ _ _ _ _ _ _ _ _ _ _ _ _ _ _ _ _ _ _ _ _ _ _ _ _ _ _ _ _ _ _ _ _ _ _ _ _ _ _ _ _ _ _ _ _ _ _ _ _ _ _ _ _ _ _ _ _ _ _ _ _ _ _ _ _ _ _ _ _ _ _ _ _ _ _ _ _ _)
end Fil
end Go.Proofs.YtpbdlgmkkbccmaaDoor
