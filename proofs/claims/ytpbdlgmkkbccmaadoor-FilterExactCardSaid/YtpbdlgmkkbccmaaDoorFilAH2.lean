/-
  The reference's Day (solsticeref21): from the day of the year on.
-/
import Derived.Test.YtpbdlgmkkbccmaaDoorFilAG
namespace Go.Proofs.YtpbdlgmkkbccmaaDoor
open Go.RowKit
namespace Fil
open Rcv (CV LisV IntV DayV)
open Rck (ckE ckB Small)
open Civ (numV numE dY dM dD dnE ydV Ahead)
open Wk (noY noN noE)
open Cel
noncomputable def rdPC : Code := (Tryd.f43.body.bind (Tl.from_ 15)).getD .skip
set_option maxHeartbeats 25600000 in
set_option maxRecDepth 100000 in
theorem rdP (x : CV) (s6 s7 s8 s14 : Value) (a9 a10 a11 a12 a13 : Option Addr) (c9 c10 c11 c12 c13 : Nat) (a d Y M D Y0 M0 D0 : Int) (p : Bool) (w w1 : World) (g h : Nat) (L : Hid (LisV w x s6 s7 s8 (.slice a9 x.dy.length c9) (.slice a10 x.md.length c10) (.slice a11 x.yd.length c11) (.slice a12 x.wn.length c12) (.slice a13 x.mo.length c13) s14)) (S : Hid (Small x)) (C : Hid (Cs g w1 [.int .i64 Y, .int .i64 M, .int .i64 D])) (E : Hid (Cs h w1 [.int .i64 Y0, .int .i64 M0, .int .i64 D0])) (RB : Hid (Cs w.heap.size w1 [.int .i64 x.fq, .int .i64 x.iv, .int .i64 x.ct, .bool x.un, .int .i64 x.ua, .bool x.ut, s6, s7, s8, .slice a9 x.dy.length c9, .slice a10 x.md.length c10, .slice a11 x.yd.length c11, .slice a12 x.wn.length c12, .slice a13 x.mo.length c13, s14, .int .i64 x.wk])) (B : Hid (Below w.heap.size w w1)) (DB : Hid ((-719162 ≤ d ∧ d < 2932897) ∧ (-719162 ≤ a ∧ a < 2932897) ∧ (1 ≤ Y ∧ Y ≤ 9999) ∧ (1 ≤ M ∧ M ≤ 12) ∧ (1 ≤ D ∧ D ≤ Cal.mlen Y M))) (yd yl ml : Int) (kb : Bool) (DY : Hid (dY d = Y)) (DE : Hid (dD d = D ∧ dD a = D0 ∧ dM d = M ∧ dM a = M0)) (HYD : Hid (ydV d = yd ∧ ylen (dY d) = yl ∧ (1 ≤ yd ∧ yd ≤ yl ∧ yl ≤ 366))) (HLM : Hid (Cal.mlen Y M = ml)) (HML : Hid (Cal.mlen (dY d) M = ml)) (MB : Hid (28 ≤ ml ∧ ml ≤ 31 ∧ 1 ≤ D ∧ D ≤ ml)) (EWM : Hid ((decide (x.md = []) || ewB x.md D ml) = kb)) (HP : Hid ((kb && rlastB x a d) = p)) (z0 z1 z4 z5 z6 z9 z11 z12 z15 z16 z17 z18 z19 z20 z21 z22 z23 z24 z25 z26 z27 z28 z29 z30 z31 z32 z33 z34 z35 z36 z37 z38 z39 z40 z41 z42 z43 z44 z45 z46 z47 z48 z49 z50 z51 z52 z53 z54 z55 z56 z57 z58 z59 z60 z61 z62 z63 z64 z65 z66 z67 z68 z69 z70 z71 z72 z73 z74 z75 z76 z77 z78 z79 z80 z81 z82 z83 z84 z85 z86 z87 z88 z89 z90 z91 z92 z93 z94 z95 z96 z97 z98 z99 z100 z101 z102 z103 z104 z105 z106 z107 z108 z109 z110 z111 z112 z113 z114 z115 z116 z117 z118 z119 z120 z121 z122 z123 z124 z125 z126 z127 z128 z129 z130 z131 z132 z133 z134 z135 z136 z137 z138 z139 z140 z141 z142 z143 z144 z145 z146 z147 z148 z149 z150 z151 z152 z153 z154 z155 z156 z157 z158 z159 z160 z161 z162 z163 z164 z165 z166 z167 z168 z169 z170 z171 z172 z173 z174 z175 z176 z177 z178 z179 z180 z181 z182 z183 z184 z185 z186 z187 z188 z189 z190 z191 z192 z193 z194 z195 z196 z197 z198 z199 z200 z201 z202 z203 z204 z205 z206 z207 z208 z209 z210 z211 z212 z213 z214 z215 z216 z217 z218 z219 z220 z221 z222 z223 z224 z225 z226 z227 z228 z229 z230 z231 z232 z233 z234 z235 z236 z237 z238 z239 z240 z241 z242 z243 z244 z245 z246 z247 z248 z249 z250 z251 : Value) : Code.wp Tryd.prog rdPC (bodyPost Tryd.prog Tryd.f43 (fun e w' => e = .returned (.bool p) ∧ Below w.heap.size w w')) ⟨List.toArray (z0 :: z1 :: .int .i64 d :: .pointer (some ⟨w.heap.size, 0, none⟩) :: z4 :: z5 :: z6 :: .pointer (some ⟨g, 0, none⟩) :: .int .i64 a :: z9 :: .pointer (some ⟨h, 0, none⟩) :: z11 :: z12 :: .int .i64 yd :: .int .i64 yl :: z15 :: z16 :: z17 :: z18 :: z19 :: z20 :: z21 :: z22 :: z23 :: z24 :: z25 :: z26 :: z27 :: z28 :: z29 :: z30 :: z31 :: z32 :: z33 :: z34 :: z35 :: z36 :: z37 :: z38 :: z39 :: z40 :: z41 :: z42 :: z43 :: z44 :: z45 :: z46 :: z47 :: z48 :: z49 :: z50 :: z51 :: z52 :: z53 :: z54 :: z55 :: z56 :: z57 :: z58 :: z59 :: z60 :: z61 :: z62 :: z63 :: z64 :: z65 :: z66 :: z67 :: z68 :: z69 :: z70 :: z71 :: z72 :: z73 :: z74 :: z75 :: z76 :: z77 :: z78 :: z79 :: z80 :: z81 :: z82 :: z83 :: z84 :: z85 :: z86 :: z87 :: z88 :: z89 :: z90 :: z91 :: z92 :: z93 :: z94 :: z95 :: z96 :: z97 :: z98 :: z99 :: z100 :: z101 :: z102 :: z103 :: z104 :: z105 :: z106 :: z107 :: z108 :: z109 :: z110 :: z111 :: z112 :: z113 :: z114 :: z115 :: z116 :: z117 :: z118 :: z119 :: z120 :: z121 :: z122 :: z123 :: z124 :: z125 :: z126 :: z127 :: z128 :: z129 :: z130 :: z131 :: z132 :: z133 :: z134 :: z135 :: z136 :: z137 :: z138 :: z139 :: z140 :: z141 :: z142 :: z143 :: z144 :: z145 :: z146 :: z147 :: z148 :: z149 :: z150 :: z151 :: z152 :: z153 :: z154 :: z155 :: z156 :: z157 :: z158 :: z159 :: z160 :: z161 :: z162 :: z163 :: z164 :: z165 :: z166 :: z167 :: z168 :: z169 :: z170 :: z171 :: z172 :: z173 :: z174 :: z175 :: z176 :: z177 :: z178 :: z179 :: z180 :: z181 :: z182 :: z183 :: z184 :: z185 :: z186 :: z187 :: z188 :: z189 :: z190 :: z191 :: z192 :: z193 :: z194 :: z195 :: z196 :: z197 :: z198 :: z199 :: z200 :: z201 :: z202 :: z203 :: z204 :: z205 :: z206 :: z207 :: z208 :: z209 :: z210 :: z211 :: z212 :: z213 :: z214 :: z215 :: z216 :: z217 :: z218 :: z219 :: z220 :: z221 :: z222 :: z223 :: z224 :: z225 :: z226 :: z227 :: z228 :: z229 :: z230 :: z231 :: z232 :: z233 :: z234 :: z235 :: z236 :: z237 :: z238 :: z239 :: z240 :: z241 :: z242 :: z243 :: z244 :: z245 :: z246 :: z247 :: z248 :: z249 :: z250 :: z251 :: []), []⟩ w1 := by
  conv => arg 2; whnf
  have q0 := (C.out.2 0 _ rfl).1
  have q1 := (C.out.2 1 _ rfl).1
  go_upto_region 15 with fail
  go_cut [15] (fun v wz => v = .int .i64 ml ∧ Hid (Cs g wz [.int .i64 Y, .int .i64 M, .int .i64 D]) ∧ Hid (Cs h wz [.int .i64 Y0, .int .i64 M0, .int .i64 D0]) ∧ Hid (Cs w.heap.size wz [.int .i64 x.fq, .int .i64 x.iv, .int .i64 x.ct, .bool x.un, .int .i64 x.ua, .bool x.ut, s6, s7, s8, .slice a9 x.dy.length c9, .slice a10 x.md.length c10, .slice a11 x.yd.length c11, .slice a12 x.wn.length c12, .slice a13 x.mo.length c13, s14, .int .i64 x.wk]) ∧ Hid (Below w.heap.size w wz))
  case first =>
    clear HP HYD HML MB EWM DY DE
    go_wp2_with fail
    refine (Civ.rlen_any Y M _ (by have := DB.out; omega) (by have := DB.out; omega)).mono ?_
    rintro e w3 ⟨rfl, n, rfl⟩
    rw [HLM.out]
    go_wp2
    go_meet
    exact ⟨rfl, Lib.hid (C.out.drewN n), Lib.hid (E.out.drewN n), Lib.hid (RB.out.drewN n), Lib.hid (bdrew B.out n)⟩
  case rest =>
  obtain ⟨w7, rfl⟩ : ∃ x : World, x = wc := ⟨_, rfl⟩
  clear C E RB B q0 q1
  obtain ⟨rfl, C, E, RB, B⟩ := hcut
  have q2 := (C.out.2 2 _ rfl).1
  have r1 : IntKind.i64.wrap (D - ml) = D - ml := IntWalk.i64_in _ (by have := MB.out; omega)
  have r2 : IntKind.i64.wrap (D - ml - 1) = D - ml - 1 := IntWalk.i64_in _ (by have := MB.out; omega)
  have l10 := (RB.out.2 10 _ rfl).1
  have LV := Lib.hid (L.out.below B.out)
  obtain ⟨k1, hk1⟩ : ∃ k, x.md.contains (D) = k := ⟨_, rfl⟩
  obtain ⟨k2, hk2⟩ : ∃ k, x.md.contains (D - ml - 1) = k := ⟨_, rfl⟩
  have HB : Hid (kb = (decide (x.md = []) || (k1 || k2))) := Lib.hid (by rw [← EWM.out, ewB, hk1, hk2])
  have H1 := Lib.hid hk1
  have H2 := Lib.hid hk2
  clear hk1 hk2
  cases kb with
  | false =>
    have hF : p = false := by rw [← HP.out]; simp
    subst hF
    have h0 : ¬ x.md = [] := fun q => by have := HB.out; rw [decide_eq_true q] at this; exact absurd this (by simp)
    have hk : k1 = false ∧ k2 = false := by
      have q := HB.out
      cases k1 <;> cases k2 <;> simp at q ⊢
    obtain ⟨rfl, rfl⟩ := hk
    have z := len_pos' h0
    have zn := Int.ofNat_lt.1 z
    have zd := decide_eq_true zn
    clear h0 HP
    go_wp2_with fail
    refine (rhas_v _ x.md (D) _ _ LV.out.h10 S.out.md H1).mono ?_
    rintro e w9 ⟨rfl, rfl⟩
    go_wp2_with fail
    refine (rhas_v _ x.md (D - ml - 1) _ _ LV.out.h10 S.out.md H2).mono ?_
    rintro e w9 ⟨rfl, rfl⟩
    go_wp2
    go_ret
    exact ⟨ret_b rfl, B.out⟩
  | true =>
  go_upto_region 16 with fail
  rename_i K18 hK18 Kc hKc
  go_cut [125] (fun v wz => v = .bool false ∧ Hid (Cs g wz [.int .i64 Y, .int .i64 M, .int .i64 D]) ∧ Hid (Cs h wz [.int .i64 Y0, .int .i64 M0, .int .i64 D0]) ∧ Hid (Cs w.heap.size wz [.int .i64 x.fq, .int .i64 x.iv, .int .i64 x.ct, .bool x.un, .int .i64 x.ua, .bool x.ut, s6, s7, s8, .slice a9 x.dy.length c9, .slice a10 x.md.length c10, .slice a11 x.yd.length c11, .slice a12 x.wn.length c12, .slice a13 x.mo.length c13, s14, .int .i64 x.wk]) ∧ Hid (Below w.heap.size w wz))
  case first =>
    by_cases h0 : x.md = []
    case pos =>
      have z0 : x.md.length = 0 := by rw [h0]; rfl
      rw [z0] at l10
      clear h0 z0 HP HB
      go_wp2
      go_meet
      exact ⟨rfl, C, E, RB, B⟩
    have z := len_pos' h0
    have zn := Int.ofNat_lt.1 z
    have zd := decide_eq_true zn
    cases k1 with
    | true =>
      clear h0 HP HB
      go_wp2_with fail
      refine (rhas_v _ x.md (D) _ _ LV.out.h10 S.out.md H1).mono ?_
      rintro e w9 ⟨rfl, rfl⟩
      go_wp2
      go_meet
      exact ⟨rfl, C, E, RB, B⟩
    | false =>
      have hk : k2 = true := by
        have q := HB.out
        rw [decide_eq_false h0] at q
        cases k2 <;> simp at q ⊢
      subst hk
      clear h0 HP HB
      go_wp2_with fail
      refine (rhas_v _ x.md (D) _ _ LV.out.h10 S.out.md H1).mono ?_
      rintro e w9 ⟨rfl, rfl⟩
      go_wp2_with fail
      refine (rhas_v _ x.md (D - ml - 1) _ _ LV.out.h10 S.out.md H2).mono ?_
      rintro e w9 ⟨rfl, rfl⟩
      go_wp2
      go_meet
      exact ⟨rfl, C, E, RB, B⟩
  case rest =>
  obtain ⟨w9, rfl⟩ : ∃ x : World, x = wc := ⟨_, rfl⟩
  clear C E RB B l10
  obtain ⟨rfl, C, E, RB, B⟩ := hcut
  have HP2 : Hid (rlastB x a d = p) := Lib.hid (by rw [← HP.out]; rfl)
  go_step
  go_step
  go_step
  go_step
  exact hK18 _ _ (rdS x s6 s7 s8 s14 a9 a10 a11 a12 a13 c9 c10 c11 c12 c13 a d Y M D Y0 M0 D0 p w _ g h L S C E RB B DB yd yl ml DY DE (Lib.hid ⟨HYD.out.1, HYD.out.2.1, HML.out, HYD.out.2.2⟩) HP2 _ _ _ _ _ _ _ _ _ _ _ _ _ _ _ _ _ _ _ _ _ _ _ _ _ _ _ _ _ _ _ _ _ _ _ _ _ _ _ _ _ _ _ _ _ _ _ _ _ _ _ _ _ _ _ _ _ _ _ _ _ _ _ _ _ _ _ _ _ _ _ _ _ _ _ _ _ _ _ _ _ _ _ _ _ _ _ _ _ _ _ _ _ _ _ _ _ _ _ _ _ _ _ _ _ _ _ _ _ _ _ _ _ _ _ _ _ _ _ _ _ _ _ _ _ _ _ _ _ _ _ _ _ _ _ _ _ _ _ _ _ _ _ _ _ _ _ _ _ _ _ _ _ _ _ _ _ _ _ _ _ _ _ _ _ _ _ _ _ _ _ _ _ _ _ _ _ _ _ _ _ _ _ _ _ _ _ _ _ _ _ _ _ _ _ _ _ _ _ _ _ _ _ _ _ _ _ _ _ _ _ _ _ _ _ _ _ _ _ _ _ _ _ _ _ _ _ _ _ _ _ _ _ _ _ _ _ _ _ _ _ _ _ _)
noncomputable def rdOC : Code := (Tryd.f43.body.bind (Tl.from_ 13)).getD .skip
set_option maxHeartbeats 25600000 in
set_option maxRecDepth 100000 in
theorem rdO (x : CV) (s6 s7 s8 s14 : Value) (a9 a10 a11 a12 a13 : Option Addr) (c9 c10 c11 c12 c13 : Nat) (a d Y M D Y0 M0 D0 : Int) (p : Bool) (w w1 : World) (g h : Nat) (L : Hid (LisV w x s6 s7 s8 (.slice a9 x.dy.length c9) (.slice a10 x.md.length c10) (.slice a11 x.yd.length c11) (.slice a12 x.wn.length c12) (.slice a13 x.mo.length c13) s14)) (S : Hid (Small x)) (C : Hid (Cs g w1 [.int .i64 Y, .int .i64 M, .int .i64 D])) (E : Hid (Cs h w1 [.int .i64 Y0, .int .i64 M0, .int .i64 D0])) (RB : Hid (Cs w.heap.size w1 [.int .i64 x.fq, .int .i64 x.iv, .int .i64 x.ct, .bool x.un, .int .i64 x.ua, .bool x.ut, s6, s7, s8, .slice a9 x.dy.length c9, .slice a10 x.md.length c10, .slice a11 x.yd.length c11, .slice a12 x.wn.length c12, .slice a13 x.mo.length c13, s14, .int .i64 x.wk])) (B : Hid (Below w.heap.size w w1)) (DB : Hid ((-719162 ≤ d ∧ d < 2932897) ∧ (-719162 ≤ a ∧ a < 2932897) ∧ (1 ≤ Y ∧ Y ≤ 9999) ∧ (1 ≤ M ∧ M ≤ 12) ∧ (1 ≤ D ∧ D ≤ Cal.mlen Y M))) (yd yl ml : Int) (jb kb : Bool) (DY : Hid (dY d = Y)) (DE : Hid (dD d = D ∧ dD a = D0 ∧ dM d = M ∧ dM a = M0)) (HYD : Hid (ydV d = yd ∧ ylen (dY d) = yl ∧ (1 ≤ yd ∧ yd ≤ yl ∧ yl ≤ 366))) (HLM : Hid (Cal.mlen Y M = ml)) (HML : Hid (Cal.mlen (dY d) M = ml)) (MB : Hid (28 ≤ ml ∧ ml ≤ 31 ∧ 1 ≤ D ∧ D ≤ ml)) (EWY : Hid ((decide (x.yd = []) || ewB x.yd yd yl) = jb)) (EWM : Hid ((decide (x.md = []) || ewB x.md D ml) = kb)) (HP : Hid ((jb && (kb && rlastB x a d)) = p)) (z0 z1 z4 z5 z6 z9 z11 z12 z15 z16 z17 z18 z19 z20 z21 z22 z23 z24 z25 z26 z27 z28 z29 z30 z31 z32 z33 z34 z35 z36 z37 z38 z39 z40 z41 z42 z43 z44 z45 z46 z47 z48 z49 z50 z51 z52 z53 z54 z55 z56 z57 z58 z59 z60 z61 z62 z63 z64 z65 z66 z67 z68 z69 z70 z71 z72 z73 z74 z75 z76 z77 z78 z79 z80 z81 z82 z83 z84 z85 z86 z87 z88 z89 z90 z91 z92 z93 z94 z95 z96 z97 z98 z99 z100 z101 z102 z103 z104 z105 z106 z107 z108 z109 z110 z111 z112 z113 z114 z115 z116 z117 z118 z119 z120 z121 z122 z123 z124 z125 z126 z127 z128 z129 z130 z131 z132 z133 z134 z135 z136 z137 z138 z139 z140 z141 z142 z143 z144 z145 z146 z147 z148 z149 z150 z151 z152 z153 z154 z155 z156 z157 z158 z159 z160 z161 z162 z163 z164 z165 z166 z167 z168 z169 z170 z171 z172 z173 z174 z175 z176 z177 z178 z179 z180 z181 z182 z183 z184 z185 z186 z187 z188 z189 z190 z191 z192 z193 z194 z195 z196 z197 z198 z199 z200 z201 z202 z203 z204 z205 z206 z207 z208 z209 z210 z211 z212 z213 z214 z215 z216 z217 z218 z219 z220 z221 z222 z223 z224 z225 z226 z227 z228 z229 z230 z231 z232 z233 z234 z235 z236 z237 z238 z239 z240 z241 z242 z243 z244 z245 z246 z247 z248 z249 z250 z251 : Value) : Code.wp Tryd.prog rdOC (bodyPost Tryd.prog Tryd.f43 (fun e w' => e = .returned (.bool p) ∧ Below w.heap.size w w')) ⟨List.toArray (z0 :: z1 :: .int .i64 d :: .pointer (some ⟨w.heap.size, 0, none⟩) :: z4 :: z5 :: z6 :: .pointer (some ⟨g, 0, none⟩) :: .int .i64 a :: z9 :: .pointer (some ⟨h, 0, none⟩) :: z11 :: z12 :: .int .i64 yd :: .int .i64 yl :: z15 :: z16 :: z17 :: z18 :: z19 :: z20 :: z21 :: z22 :: z23 :: z24 :: z25 :: z26 :: z27 :: z28 :: z29 :: z30 :: z31 :: z32 :: z33 :: z34 :: z35 :: z36 :: z37 :: z38 :: z39 :: z40 :: z41 :: z42 :: z43 :: z44 :: z45 :: z46 :: z47 :: z48 :: z49 :: z50 :: z51 :: z52 :: z53 :: z54 :: z55 :: z56 :: z57 :: z58 :: z59 :: z60 :: z61 :: z62 :: z63 :: z64 :: z65 :: z66 :: z67 :: z68 :: z69 :: z70 :: z71 :: z72 :: z73 :: z74 :: z75 :: z76 :: z77 :: z78 :: z79 :: z80 :: z81 :: z82 :: z83 :: z84 :: z85 :: z86 :: z87 :: z88 :: z89 :: z90 :: z91 :: z92 :: z93 :: z94 :: z95 :: z96 :: z97 :: z98 :: z99 :: z100 :: z101 :: z102 :: z103 :: z104 :: z105 :: z106 :: z107 :: z108 :: z109 :: z110 :: z111 :: z112 :: z113 :: z114 :: z115 :: z116 :: z117 :: z118 :: z119 :: z120 :: z121 :: z122 :: z123 :: z124 :: z125 :: z126 :: z127 :: z128 :: z129 :: z130 :: z131 :: z132 :: z133 :: z134 :: z135 :: z136 :: z137 :: z138 :: z139 :: z140 :: z141 :: z142 :: z143 :: z144 :: z145 :: z146 :: z147 :: z148 :: z149 :: z150 :: z151 :: z152 :: z153 :: z154 :: z155 :: z156 :: z157 :: z158 :: z159 :: z160 :: z161 :: z162 :: z163 :: z164 :: z165 :: z166 :: z167 :: z168 :: z169 :: z170 :: z171 :: z172 :: z173 :: z174 :: z175 :: z176 :: z177 :: z178 :: z179 :: z180 :: z181 :: z182 :: z183 :: z184 :: z185 :: z186 :: z187 :: z188 :: z189 :: z190 :: z191 :: z192 :: z193 :: z194 :: z195 :: z196 :: z197 :: z198 :: z199 :: z200 :: z201 :: z202 :: z203 :: z204 :: z205 :: z206 :: z207 :: z208 :: z209 :: z210 :: z211 :: z212 :: z213 :: z214 :: z215 :: z216 :: z217 :: z218 :: z219 :: z220 :: z221 :: z222 :: z223 :: z224 :: z225 :: z226 :: z227 :: z228 :: z229 :: z230 :: z231 :: z232 :: z233 :: z234 :: z235 :: z236 :: z237 :: z238 :: z239 :: z240 :: z241 :: z242 :: z243 :: z244 :: z245 :: z246 :: z247 :: z248 :: z249 :: z250 :: z251 :: []), []⟩ w1 := by
  conv => arg 2; whnf
  obtain ⟨yb1, yb2, yb3⟩ := HYD.out.2.2
  have r1 : IntKind.i64.wrap (yd - yl) = yd - yl := IntWalk.i64_in _ (by omega)
  have r2 : IntKind.i64.wrap (yd - yl - 1) = yd - yl - 1 := IntWalk.i64_in _ (by omega)
  have l11 := (RB.out.2 11 _ rfl).1
  have LV := Lib.hid (L.out.below B.out)
  obtain ⟨k1, hk1⟩ : ∃ k, x.yd.contains (yd) = k := ⟨_, rfl⟩
  obtain ⟨k2, hk2⟩ : ∃ k, x.yd.contains (yd - yl - 1) = k := ⟨_, rfl⟩
  have HB : Hid (jb = (decide (x.yd = []) || (k1 || k2))) := Lib.hid (by rw [← EWY.out, ewB, hk1, hk2])
  have H1 := Lib.hid hk1
  have H2 := Lib.hid hk2
  clear hk1 hk2
  cases jb with
  | false =>
    have hF : p = false := by rw [← HP.out]; simp
    subst hF
    have h0 : ¬ x.yd = [] := fun q => by have := HB.out; rw [decide_eq_true q] at this; exact absurd this (by simp)
    have hk : k1 = false ∧ k2 = false := by
      have q := HB.out
      cases k1 <;> cases k2 <;> simp at q ⊢
    obtain ⟨rfl, rfl⟩ := hk
    have z := len_pos' h0
    have zn := Int.ofNat_lt.1 z
    have zd := decide_eq_true zn
    clear h0 HP
    go_wp2_with fail
    refine (rhas_v _ x.yd (yd) _ _ LV.out.h11 S.out.yd H1).mono ?_
    rintro e w9 ⟨rfl, rfl⟩
    go_wp2_with fail
    refine (rhas_v _ x.yd (yd - yl - 1) _ _ LV.out.h11 S.out.yd H2).mono ?_
    rintro e w9 ⟨rfl, rfl⟩
    go_wp2
    go_ret
    exact ⟨ret_b rfl, B.out⟩
  | true =>
  go_upto_region 13 with fail
  rename_i K15 hK15 Kc hKc
  go_cut [97] (fun v wz => v = .bool false ∧ Hid (Cs g wz [.int .i64 Y, .int .i64 M, .int .i64 D]) ∧ Hid (Cs h wz [.int .i64 Y0, .int .i64 M0, .int .i64 D0]) ∧ Hid (Cs w.heap.size wz [.int .i64 x.fq, .int .i64 x.iv, .int .i64 x.ct, .bool x.un, .int .i64 x.ua, .bool x.ut, s6, s7, s8, .slice a9 x.dy.length c9, .slice a10 x.md.length c10, .slice a11 x.yd.length c11, .slice a12 x.wn.length c12, .slice a13 x.mo.length c13, s14, .int .i64 x.wk]) ∧ Hid (Below w.heap.size w wz))
  case first =>
    by_cases h0 : x.yd = []
    case pos =>
      have z0 : x.yd.length = 0 := by rw [h0]; rfl
      rw [z0] at l11
      clear h0 z0 HP HB
      go_wp2
      go_meet
      exact ⟨rfl, C, E, RB, B⟩
    have z := len_pos' h0
    have zn := Int.ofNat_lt.1 z
    have zd := decide_eq_true zn
    cases k1 with
    | true =>
      clear h0 HP HB
      go_wp2_with fail
      refine (rhas_v _ x.yd (yd) _ _ LV.out.h11 S.out.yd H1).mono ?_
      rintro e w9 ⟨rfl, rfl⟩
      go_wp2
      go_meet
      exact ⟨rfl, C, E, RB, B⟩
    | false =>
      have hk : k2 = true := by
        have q := HB.out
        rw [decide_eq_false h0] at q
        cases k2 <;> simp at q ⊢
      subst hk
      clear h0 HP HB
      go_wp2_with fail
      refine (rhas_v _ x.yd (yd) _ _ LV.out.h11 S.out.yd H1).mono ?_
      rintro e w9 ⟨rfl, rfl⟩
      go_wp2_with fail
      refine (rhas_v _ x.yd (yd - yl - 1) _ _ LV.out.h11 S.out.yd H2).mono ?_
      rintro e w9 ⟨rfl, rfl⟩
      go_wp2
      go_meet
      exact ⟨rfl, C, E, RB, B⟩
  case rest =>
  obtain ⟨w6, rfl⟩ : ∃ x : World, x = wc := ⟨_, rfl⟩
  clear C E RB B l11 LV HB H1 H2
  obtain ⟨rfl, C, E, RB, B⟩ := hcut
  have HP2 : Hid ((kb && rlastB x a d) = p) := Lib.hid (by rw [← HP.out]; rfl)
  go_step
  go_step
  go_step
  go_step
  exact hK15 _ _ (rdP x s6 s7 s8 s14 a9 a10 a11 a12 a13 c9 c10 c11 c12 c13 a d Y M D Y0 M0 D0 p w _ g h L S C E RB B DB yd yl ml kb DY DE HYD HLM HML MB EWM HP2 _ _ _ _ _ _ _ _ _ _ _ _ _ _ _ _ _ _ _ _ _ _ _ _ _ _ _ _ _ _ _ _ _ _ _ _ _ _ _ _ _ _ _ _ _ _ _ _ _ _ _ _ _ _ _ _ _ _ _ _ _ _ _ _ _ _ _ _ _ _ _ _ _ _ _ _ _ _ _ _ _ _ _ _ _ _ _ _ _ _ _ _ _ _ _ _ _ _ _ _ _ _ _ _ _ _ _ _ _ _ _ _ _ _ _ _ _ _ _ _ _ _ _ _ _ _ _ _ _ _ _ _ _ _ _ _ _ _ _ _ _ _ _ _ _ _ _ _ _ _ _ _ _ _ _ _ _ _ _ _ _ _ _ _ _ _ _ _ _ _ _ _ _ _ _ _ _ _ _ _ _ _ _ _ _ _ _ _ _ _ _ _ _ _ _ _ _ _ _ _ _ _ _ _ _ _ _ _ _ _ _ _ _ _ _ _ _ _ _ _ _ _ _ _ _ _ _ _ _ _ _ _ _ _ _ _ _ _ _ _ _ _ _ _ _)
end Fil
end Go.Proofs.YtpbdlgmkkbccmaaDoor
