/-
  Several texts in one (FilAI1, FilAI2).
-/
import Derived.Test.YtpbdlgmkkbccmaaDoorFilAH
import Derived.Test.YtpbdlgmkkbccmaaDoorBdFf
import Derived.Lib.QuietBelow
/-
  The reference's Day (solsticeref21): from the months on.
-/
namespace Go.Proofs.YtpbdlgmkkbccmaaDoor
open Go.RowKit
namespace Fil
open Rcv (CV LisV IntV DayV)
open Rck (ckE ckB Small)
open Civ (numV numE dY dM dD dnE ydV Ahead)
open Wk (noY noN noE)
open Cel
theorem wkN_bd (y k : Int) : 40 ≤ wkN y k ∧ wkN y k ≤ 60 := by
  have s := Cal.ny_succ y
  have l := Cal.lp_01 y
  rw [wkN, fw_ny, fw_ny]
  omega
theorem rweeks_v (y k W : Int) (w : World) (h0 : 0 ≤ y) (h1 : y ≤ 10000) (k0 : 0 ≤ k) (k6 : k ≤ 6) (h : Hid (wkN y k = W)) :
    Calls Tryd.prog 84 #[.int .i64 y, .int .i64 k] w fun e w' => e = .returned (.int .i64 W) ∧ Below w.heap.size w w' := by
  rw [← h.out]
  exact Wk.rweeks_x y k w h0 h1 k0 k6
theorem LisV.drew {w : World} {x : CV} {a b c d e f g h i : Value} (H : LisV w x a b c d e f g h i) (n : Nat) : LisV (w.drewN n) x a b c d e f g h i := H.below ⟨rfl, rfl, rfl, Nat.le_refl _, fun _ _ => rfl⟩
noncomputable def rdFC : Code := (Tryd.f43.body.bind (Tl.find_ 7)).getD .skip
set_option maxHeartbeats 25600000 in
set_option maxRecDepth 100000 in
theorem rdF (x : CV) (s6 s7 s8 s14 : Value) (a9 a10 a11 a12 a13 : Option Addr) (c9 c10 c11 c12 c13 : Nat) (a d Y M D Y0 M0 D0 : Int) (p : Bool) (w w1 : World) (g h : Nat) (L : Hid (LisV w x s6 s7 s8 (.slice a9 x.dy.length c9) (.slice a10 x.md.length c10) (.slice a11 x.yd.length c11) (.slice a12 x.wn.length c12) (.slice a13 x.mo.length c13) s14)) (S : Hid (Small x)) (C : Hid (Cs g w1 [.int .i64 Y, .int .i64 M, .int .i64 D])) (E : Hid (Cs h w1 [.int .i64 Y0, .int .i64 M0, .int .i64 D0])) (RB : Hid (Cs w.heap.size w1 [.int .i64 x.fq, .int .i64 x.iv, .int .i64 x.ct, .bool x.un, .int .i64 x.ua, .bool x.ut, s6, s7, s8, .slice a9 x.dy.length c9, .slice a10 x.md.length c10, .slice a11 x.yd.length c11, .slice a12 x.wn.length c12, .slice a13 x.mo.length c13, s14, .int .i64 x.wk])) (B : Hid (Below w.heap.size w w1)) (DB : Hid ((-719162 ≤ d ∧ d < 2932897) ∧ (-719162 ≤ a ∧ a < 2932897) ∧ (1 ≤ Y ∧ Y ≤ 9999) ∧ (1 ≤ M ∧ M ≤ 12) ∧ (1 ≤ D ∧ D ≤ Cal.mlen Y M))) (N V W : Int) (k1 k2 : Bool) (hF : p = false) (_DE : Hid (dD d = D ∧ dD a = D0 ∧ dM d = M ∧ dM a = M0)) (KW : Hid (0 ≤ x.wk ∧ x.wk ≤ 6)) (HYR : Hid (1 ≤ Cal.yr d ∧ Cal.yr d ≤ 9999)) (H1 : Hid (x.wn.contains N = k1)) (H2 : Hid (x.wn.contains (N - W - 1) = k2)) (HWB : Hid ((k1 || k2) = false)) (HNV : Hid (noN d x.wk = N ∧ noY d x.wk = V)) (HWW : Hid (wkN V x.wk = W)) (NB : Hid (0 ≤ V ∧ V ≤ 10000 ∧ Wk.fw V x.wk ≤ d ∧ d < Wk.fw (V + 1) x.wk)) (z0 z1 z4 z5 z6 z9 z11 z12 z13 z14 z15 z16 z17 z18 z19 z20 z21 z22 z23 z24 z25 z26 z27 z28 z29 z30 z31 z32 z33 z34 z35 z36 z37 z38 z39 z40 z41 z42 z43 z44 z45 z46 z47 z48 z49 z50 z51 z52 z53 z54 z55 z56 z57 z58 z59 z60 z61 z62 z63 z64 z65 z66 z67 z68 z69 z70 z71 z72 z73 z74 z75 z76 z77 z78 z79 z80 z81 z82 z83 z84 z85 z86 z87 z88 z89 z90 z91 z92 z93 z94 z95 z96 z97 z98 z99 z100 z101 z102 z103 z104 z105 z106 z107 z108 z109 z110 z111 z112 z113 z114 z115 z116 z117 z118 z119 z120 z121 z122 z123 z124 z125 z126 z127 z128 z129 z130 z131 z132 z133 z134 z135 z136 z137 z138 z139 z140 z141 z142 z143 z144 z145 z146 z147 z148 z149 z150 z151 z152 z153 z154 z155 z156 z157 z158 z159 z160 z161 z162 z163 z164 z165 z166 z167 z168 z169 z170 z171 z172 z173 z174 z175 z176 z177 z178 z179 z180 z181 z182 z183 z184 z185 z186 z187 z188 z189 z190 z191 z192 z193 z194 z195 z196 z197 z198 z199 z200 z201 z202 z203 z204 z205 z206 z207 z208 z209 z210 z211 z212 z213 z214 z215 z216 z217 z218 z219 z220 z221 z222 z223 z224 z225 z226 z227 z228 z229 z230 z231 z232 z233 z234 z235 z236 z237 z238 z239 z240 z241 z242 z243 z244 z245 z246 z247 z248 z249 z250 z251 : Value) (K : Act → World → Prop) : Code.wp Tryd.prog rdFC (Exit.then K (bodyPost Tryd.prog Tryd.f43 (fun e w' => e = .returned (.bool p) ∧ Below w.heap.size w w'))) ⟨List.toArray (z0 :: z1 :: .int .i64 d :: .pointer (some ⟨w.heap.size, 0, none⟩) :: z4 :: z5 :: z6 :: .pointer (some ⟨g, 0, none⟩) :: .int .i64 a :: z9 :: .pointer (some ⟨h, 0, none⟩) :: z11 :: z12 :: z13 :: z14 :: z15 :: z16 :: z17 :: z18 :: z19 :: z20 :: z21 :: z22 :: z23 :: z24 :: z25 :: z26 :: z27 :: z28 :: z29 :: z30 :: z31 :: z32 :: z33 :: z34 :: z35 :: z36 :: z37 :: z38 :: z39 :: z40 :: z41 :: z42 :: z43 :: z44 :: z45 :: z46 :: z47 :: z48 :: z49 :: z50 :: z51 :: z52 :: z53 :: z54 :: z55 :: z56 :: z57 :: z58 :: z59 :: z60 :: z61 :: z62 :: z63 :: z64 :: z65 :: z66 :: z67 :: z68 :: z69 :: z70 :: z71 :: z72 :: z73 :: z74 :: z75 :: z76 :: z77 :: z78 :: z79 :: z80 :: z81 :: z82 :: z83 :: z84 :: z85 :: z86 :: z87 :: z88 :: z89 :: z90 :: z91 :: z92 :: z93 :: z94 :: z95 :: z96 :: z97 :: z98 :: z99 :: z100 :: z101 :: z102 :: z103 :: z104 :: z105 :: z106 :: z107 :: z108 :: z109 :: z110 :: z111 :: z112 :: z113 :: z114 :: z115 :: z116 :: z117 :: z118 :: z119 :: z120 :: z121 :: z122 :: z123 :: z124 :: z125 :: z126 :: z127 :: z128 :: z129 :: z130 :: z131 :: z132 :: z133 :: z134 :: z135 :: z136 :: z137 :: z138 :: z139 :: z140 :: z141 :: z142 :: z143 :: z144 :: z145 :: z146 :: z147 :: z148 :: z149 :: z150 :: z151 :: z152 :: z153 :: z154 :: z155 :: z156 :: z157 :: z158 :: z159 :: z160 :: z161 :: z162 :: z163 :: z164 :: z165 :: z166 :: z167 :: z168 :: z169 :: z170 :: z171 :: z172 :: z173 :: z174 :: z175 :: z176 :: z177 :: z178 :: z179 :: z180 :: z181 :: z182 :: z183 :: z184 :: z185 :: z186 :: z187 :: z188 :: z189 :: z190 :: z191 :: z192 :: z193 :: z194 :: z195 :: z196 :: z197 :: z198 :: z199 :: z200 :: z201 :: z202 :: z203 :: z204 :: z205 :: z206 :: z207 :: z208 :: z209 :: z210 :: z211 :: z212 :: z213 :: z214 :: z215 :: z216 :: z217 :: z218 :: z219 :: z220 :: z221 :: z222 :: z223 :: z224 :: z225 :: z226 :: z227 :: z228 :: z229 :: z230 :: z231 :: z232 :: z233 :: z234 :: z235 :: z236 :: z237 :: z238 :: z239 :: z240 :: z241 :: z242 :: z243 :: z244 :: z245 :: z246 :: z247 :: z248 :: z249 :: z250 :: z251 :: []), []⟩ w1 := by
  conv => arg 2; whnf
  go_upto_region 7 with fail
  go_cut [11, 12] (fun u v wz => u = .int .i64 V ∧ v = .int .i64 N ∧ Hid (Cs g wz [.int .i64 Y, .int .i64 M, .int .i64 D]) ∧ Hid (Cs h wz [.int .i64 Y0, .int .i64 M0, .int .i64 D0]) ∧ Hid (Cs w.heap.size wz [.int .i64 x.fq, .int .i64 x.iv, .int .i64 x.ct, .bool x.un, .int .i64 x.ua, .bool x.ut, s6, s7, s8, .slice a9 x.dy.length c9, .slice a10 x.md.length c10, .slice a11 x.yd.length c11, .slice a12 x.wn.length c12, .slice a13 x.mo.length c13, s14, .int .i64 x.wk]) ∧ Hid (Below w.heap.size w wz))
  case first =>
    have l15 := (RB.out.2 15 _ rfl).1
    clear HWB H1 H2 HWW
    go_wp2_with fail
    refine (Wk.rno_any d x.wk _ ⟨by have := DB.out; omega, by have := DB.out; omega⟩ HYR.out KW.out.1 KW.out.2).mono ?_
    rintro e w6 ⟨rfl, k⟩
    rw [HNV.out.1, HNV.out.2]
    have C := Lib.hid (C.out.below (k.mono (Nat.le_refl _)))
    have E := Lib.hid (E.out.below (k.mono (Nat.le_refl _)))
    have RB := Lib.hid (RB.out.below k)
    have B := Lib.hid (bstep B.out k)
    clear k
    go_wp2
    go_meet
    exact ⟨rfl, rfl, C, E, RB, B⟩
  case rest =>
  obtain ⟨w5, rfl⟩ : ∃ x : World, x = wc := ⟨_, rfl⟩
  clear C E RB B
  obtain ⟨rfl, rfl, C, E, RB, B⟩ := hcut
  go_upto_region 8 with fail
  go_cut [71] (fun v wz => v = .bool true ∧ Hid (Cs g wz [.int .i64 Y, .int .i64 M, .int .i64 D]) ∧ Hid (Cs h wz [.int .i64 Y0, .int .i64 M0, .int .i64 D0]) ∧ Hid (Cs w.heap.size wz [.int .i64 x.fq, .int .i64 x.iv, .int .i64 x.ct, .bool x.un, .int .i64 x.ua, .bool x.ut, s6, s7, s8, .slice a9 x.dy.length c9, .slice a10 x.md.length c10, .slice a11 x.yd.length c11, .slice a12 x.wn.length c12, .slice a13 x.mo.length c13, s14, .int .i64 x.wk]) ∧ Hid (Below w.heap.size w wz))
  case first =>
    have l12 := (RB.out.2 12 _ rfl).1
    have l15 := (RB.out.2 15 _ rfl).1
    have LV := Lib.hid (L.out.below B.out)
    obtain ⟨rfl, rfl⟩ : k1 = false ∧ k2 = false := by
      have q := HWB.out
      cases k1 <;> cases k2 <;> simp at q ⊢
    have n1 := (noN_bd d x.wk)
    rw [HNV.out.1] at n1
    have n2 := wkN_bd V x.wk
    rw [HWW.out] at n2
    have r1 : IntKind.i64.wrap (N - W) = N - W := IntWalk.i64_in _ (by omega)
    have r2 : IntKind.i64.wrap (N - W - 1) = N - W - 1 := IntWalk.i64_in _ (by omega)
    have c12 := cell_regrown l12
    have c15 := cell_regrown l15
    have d1 := Lib.hid (fun dd os => Calls.regrown_of ((rhas_v _ x.wn N false (Sort.grow (redrawn w5 dd) os) (LV.out.below (below_regrown w5 dd os)).h12 S.out.wn H1).mono (fun e w' h => ⟨h.1, h.2 ▸ Below.refl _ _⟩)))
    have d2 := Lib.hid (fun dd os => Calls.regrown_of (rweeks_v V x.wk W (Sort.grow (redrawn w5 dd) os) NB.out.1 NB.out.2.1 KW.out.1 KW.out.2 HWW))
    have d3 := Lib.hid (fun dd os => Calls.regrown_of ((rhas_v _ x.wn (N - W - 1) false (Sort.grow (redrawn w5 dd) os) (LV.out.below (below_regrown w5 dd os)).h12 S.out.wn H2).mono (fun e w' h => ⟨h.1, h.2 ▸ Below.refl _ _⟩)))
    clear HWB HNV HWW NB n1 n2 H1 H2 l12 l15 LV
    refine wp_region_quiet_below (by kernel_rfl) (by kernel_rfl) ?_
    repeat (quiet_step (first | with_reducible exact d1.out _ _ | with_reducible exact d2.out _ _ | with_reducible exact d3.out _ _))
    refine wpQuiet_nil ?_
    intro w' hw'
    obtain ⟨⟨dq, osq⟩, rfl⟩ := hw'
    have k := below_regrown w5 dq osq
    have C := Lib.hid (C.out.below (k.mono (Nat.le_refl _)))
    have E := Lib.hid (E.out.below (k.mono (Nat.le_refl _)))
    have RB := Lib.hid (RB.out.below k)
    have B := Lib.hid (bstep B.out k)
    clear k
    go_wp2
    go_meet
    exact ⟨rfl, C, E, RB, B⟩
  case rest =>
  obtain ⟨w6, rfl⟩ : ∃ x : World, x = wc := ⟨_, rfl⟩
  clear C E RB B
  obtain ⟨rfl, C, E, RB, B⟩ := hcut
  subst hF
  go_wp2
  go_ret
  exact ⟨ret_b rfl, B.out⟩
end Fil
end Go.Proofs.YtpbdlgmkkbccmaaDoor
/-
  The reference's Day (solsticeref21): the weeks, let.
-/
namespace Go.Proofs.YtpbdlgmkkbccmaaDoor
open Go.RowKit
namespace Fil
open Rcv (CV LisV IntV DayV)
open Rck (ckE ckB Small)
open Civ (numV numE dY dM dD dnE ydV Ahead)
open Wk (noY noN noE)
open Cel
noncomputable def rdGC : Code := (Tryd.f43.body.bind (Tl.find_ 7)).getD .skip
set_option maxHeartbeats 25600000 in
set_option maxRecDepth 100000 in
theorem rdG (x : CV) (s6 s7 s8 s14 : Value) (a9 a10 a11 a12 a13 : Option Addr) (c9 c10 c11 c12 c13 : Nat) (a d Y M D Y0 M0 D0 : Int) (p : Bool) (w w1 : World) (g h : Nat) (L : Hid (LisV w x s6 s7 s8 (.slice a9 x.dy.length c9) (.slice a10 x.md.length c10) (.slice a11 x.yd.length c11) (.slice a12 x.wn.length c12) (.slice a13 x.mo.length c13) s14)) (S : Hid (Small x)) (C : Hid (Cs g w1 [.int .i64 Y, .int .i64 M, .int .i64 D])) (E : Hid (Cs h w1 [.int .i64 Y0, .int .i64 M0, .int .i64 D0])) (RB : Hid (Cs w.heap.size w1 [.int .i64 x.fq, .int .i64 x.iv, .int .i64 x.ct, .bool x.un, .int .i64 x.ua, .bool x.ut, s6, s7, s8, .slice a9 x.dy.length c9, .slice a10 x.md.length c10, .slice a11 x.yd.length c11, .slice a12 x.wn.length c12, .slice a13 x.mo.length c13, s14, .int .i64 x.wk])) (B : Hid (Below w.heap.size w w1)) (DB : Hid ((-719162 ≤ d ∧ d < 2932897) ∧ (-719162 ≤ a ∧ a < 2932897) ∧ (1 ≤ Y ∧ Y ≤ 9999) ∧ (1 ≤ M ∧ M ≤ 12) ∧ (1 ≤ D ∧ D ≤ Cal.mlen Y M))) (N V W : Int) (k1 k2 : Bool) (_DE : Hid (dD d = D ∧ dD a = D0 ∧ dM d = M ∧ dM a = M0)) (KW : Hid (0 ≤ x.wk ∧ x.wk ≤ 6)) (HYR : Hid (1 ≤ Cal.yr d ∧ Cal.yr d ≤ 9999)) (H1 : Hid (x.wn.contains N = k1)) (H2 : Hid (x.wn.contains (N - W - 1) = k2)) (HWB : Hid ((k1 || k2) = true)) (HNV : Hid (noN d x.wk = N ∧ noY d x.wk = V)) (HWW : Hid (wkN V x.wk = W)) (NB : Hid (0 ≤ V ∧ V ≤ 10000 ∧ Wk.fw V x.wk ≤ d ∧ d < Wk.fw (V + 1) x.wk)) (z0 z1 z4 z5 z6 z9 z11 z12 z13 z14 z15 z16 z17 z18 z19 z20 z21 z22 z23 z24 z25 z26 z27 z28 z29 z30 z31 z32 z33 z34 z35 z36 z37 z38 z39 z40 z41 z42 z43 z44 z45 z46 z47 z48 z49 z50 z51 z52 z53 z54 z55 z56 z57 z58 z59 z60 z61 z62 z63 z64 z65 z66 z67 z68 z69 z70 z71 z72 z73 z74 z75 z76 z77 z78 z79 z80 z81 z82 z83 z84 z85 z86 z87 z88 z89 z90 z91 z92 z93 z94 z95 z96 z97 z98 z99 z100 z101 z102 z103 z104 z105 z106 z107 z108 z109 z110 z111 z112 z113 z114 z115 z116 z117 z118 z119 z120 z121 z122 z123 z124 z125 z126 z127 z128 z129 z130 z131 z132 z133 z134 z135 z136 z137 z138 z139 z140 z141 z142 z143 z144 z145 z146 z147 z148 z149 z150 z151 z152 z153 z154 z155 z156 z157 z158 z159 z160 z161 z162 z163 z164 z165 z166 z167 z168 z169 z170 z171 z172 z173 z174 z175 z176 z177 z178 z179 z180 z181 z182 z183 z184 z185 z186 z187 z188 z189 z190 z191 z192 z193 z194 z195 z196 z197 z198 z199 z200 z201 z202 z203 z204 z205 z206 z207 z208 z209 z210 z211 z212 z213 z214 z215 z216 z217 z218 z219 z220 z221 z222 z223 z224 z225 z226 z227 z228 z229 z230 z231 z232 z233 z234 z235 z236 z237 z238 z239 z240 z241 z242 z243 z244 z245 z246 z247 z248 z249 z250 z251 : Value) (K : Act → World → Prop) (hK : ∀ (y0 y1 y4 y5 y6 y9 y11 y12 y13 y14 y15 y16 y17 y18 y19 y20 y21 y22 y23 y24 y25 y26 y27 y28 y29 y30 y31 y32 y33 y34 y35 y36 y37 y38 y39 y40 y41 y42 y43 y44 y45 y46 y47 y48 y49 y50 y51 y52 y53 y54 y55 y56 y57 y58 y59 y60 y61 y62 y63 y64 y65 y66 y67 y68 y69 y70 y71 y72 y73 y74 y75 y76 y77 y78 y79 y80 y81 y82 y83 y84 y85 y86 y87 y88 y89 y90 y91 y92 y93 y94 y95 y96 y97 y98 y99 y100 y101 y102 y103 y104 y105 y106 y107 y108 y109 y110 y111 y112 y113 y114 y115 y116 y117 y118 y119 y120 y121 y122 y123 y124 y125 y126 y127 y128 y129 y130 y131 y132 y133 y134 y135 y136 y137 y138 y139 y140 y141 y142 y143 y144 y145 y146 y147 y148 y149 y150 y151 y152 y153 y154 y155 y156 y157 y158 y159 y160 y161 y162 y163 y164 y165 y166 y167 y168 y169 y170 y171 y172 y173 y174 y175 y176 y177 y178 y179 y180 y181 y182 y183 y184 y185 y186 y187 y188 y189 y190 y191 y192 y193 y194 y195 y196 y197 y198 y199 y200 y201 y202 y203 y204 y205 y206 y207 y208 y209 y210 y211 y212 y213 y214 y215 y216 y217 y218 y219 y220 y221 y222 y223 y224 y225 y226 y227 y228 y229 y230 y231 y232 y233 y234 y235 y236 y237 y238 y239 y240 y241 y242 y243 y244 y245 y246 y247 y248 y249 y250 y251 : Value) (wz : World), Hid (Cs g wz [.int .i64 Y, .int .i64 M, .int .i64 D]) → Hid (Cs h wz [.int .i64 Y0, .int .i64 M0, .int .i64 D0]) → Hid (Cs w.heap.size wz [.int .i64 x.fq, .int .i64 x.iv, .int .i64 x.ct, .bool x.un, .int .i64 x.ua, .bool x.ut, s6, s7, s8, .slice a9 x.dy.length c9, .slice a10 x.md.length c10, .slice a11 x.yd.length c11, .slice a12 x.wn.length c12, .slice a13 x.mo.length c13, s14, .int .i64 x.wk]) → Hid (Below w.heap.size w wz) → K ⟨List.toArray (y0 :: y1 :: .int .i64 d :: .pointer (some ⟨w.heap.size, 0, none⟩) :: y4 :: y5 :: y6 :: .pointer (some ⟨g, 0, none⟩) :: .int .i64 a :: y9 :: .pointer (some ⟨h, 0, none⟩) :: y11 :: y12 :: y13 :: y14 :: y15 :: y16 :: y17 :: y18 :: y19 :: y20 :: y21 :: y22 :: y23 :: y24 :: y25 :: y26 :: y27 :: y28 :: y29 :: y30 :: y31 :: y32 :: y33 :: y34 :: y35 :: y36 :: y37 :: y38 :: y39 :: y40 :: y41 :: y42 :: y43 :: y44 :: y45 :: y46 :: y47 :: y48 :: y49 :: y50 :: y51 :: y52 :: y53 :: y54 :: y55 :: y56 :: y57 :: y58 :: y59 :: y60 :: y61 :: y62 :: y63 :: y64 :: y65 :: y66 :: y67 :: y68 :: y69 :: y70 :: y71 :: y72 :: y73 :: y74 :: y75 :: y76 :: y77 :: y78 :: y79 :: y80 :: y81 :: y82 :: y83 :: y84 :: y85 :: y86 :: y87 :: y88 :: y89 :: y90 :: y91 :: y92 :: y93 :: y94 :: y95 :: y96 :: y97 :: y98 :: y99 :: y100 :: y101 :: y102 :: y103 :: y104 :: y105 :: y106 :: y107 :: y108 :: y109 :: y110 :: y111 :: y112 :: y113 :: y114 :: y115 :: y116 :: y117 :: y118 :: y119 :: y120 :: y121 :: y122 :: y123 :: y124 :: y125 :: y126 :: y127 :: y128 :: y129 :: y130 :: y131 :: y132 :: y133 :: y134 :: y135 :: y136 :: y137 :: y138 :: y139 :: y140 :: y141 :: y142 :: y143 :: y144 :: y145 :: y146 :: y147 :: y148 :: y149 :: y150 :: y151 :: y152 :: y153 :: y154 :: y155 :: y156 :: y157 :: y158 :: y159 :: y160 :: y161 :: y162 :: y163 :: y164 :: y165 :: y166 :: y167 :: y168 :: y169 :: y170 :: y171 :: y172 :: y173 :: y174 :: y175 :: y176 :: y177 :: y178 :: y179 :: y180 :: y181 :: y182 :: y183 :: y184 :: y185 :: y186 :: y187 :: y188 :: y189 :: y190 :: y191 :: y192 :: y193 :: y194 :: y195 :: y196 :: y197 :: y198 :: y199 :: y200 :: y201 :: y202 :: y203 :: y204 :: y205 :: y206 :: y207 :: y208 :: y209 :: y210 :: y211 :: y212 :: y213 :: y214 :: y215 :: y216 :: y217 :: y218 :: y219 :: y220 :: y221 :: y222 :: y223 :: y224 :: y225 :: y226 :: y227 :: y228 :: y229 :: y230 :: y231 :: y232 :: y233 :: y234 :: y235 :: y236 :: y237 :: y238 :: y239 :: y240 :: y241 :: y242 :: y243 :: y244 :: y245 :: y246 :: y247 :: y248 :: y249 :: y250 :: y251 :: []), []⟩ wz) : Code.wp Tryd.prog rdGC (Exit.then K (bodyPost Tryd.prog Tryd.f43 (fun e w' => e = .returned (.bool p) ∧ Below w.heap.size w w'))) ⟨List.toArray (z0 :: z1 :: .int .i64 d :: .pointer (some ⟨w.heap.size, 0, none⟩) :: z4 :: z5 :: z6 :: .pointer (some ⟨g, 0, none⟩) :: .int .i64 a :: z9 :: .pointer (some ⟨h, 0, none⟩) :: z11 :: z12 :: z13 :: z14 :: z15 :: z16 :: z17 :: z18 :: z19 :: z20 :: z21 :: z22 :: z23 :: z24 :: z25 :: z26 :: z27 :: z28 :: z29 :: z30 :: z31 :: z32 :: z33 :: z34 :: z35 :: z36 :: z37 :: z38 :: z39 :: z40 :: z41 :: z42 :: z43 :: z44 :: z45 :: z46 :: z47 :: z48 :: z49 :: z50 :: z51 :: z52 :: z53 :: z54 :: z55 :: z56 :: z57 :: z58 :: z59 :: z60 :: z61 :: z62 :: z63 :: z64 :: z65 :: z66 :: z67 :: z68 :: z69 :: z70 :: z71 :: z72 :: z73 :: z74 :: z75 :: z76 :: z77 :: z78 :: z79 :: z80 :: z81 :: z82 :: z83 :: z84 :: z85 :: z86 :: z87 :: z88 :: z89 :: z90 :: z91 :: z92 :: z93 :: z94 :: z95 :: z96 :: z97 :: z98 :: z99 :: z100 :: z101 :: z102 :: z103 :: z104 :: z105 :: z106 :: z107 :: z108 :: z109 :: z110 :: z111 :: z112 :: z113 :: z114 :: z115 :: z116 :: z117 :: z118 :: z119 :: z120 :: z121 :: z122 :: z123 :: z124 :: z125 :: z126 :: z127 :: z128 :: z129 :: z130 :: z131 :: z132 :: z133 :: z134 :: z135 :: z136 :: z137 :: z138 :: z139 :: z140 :: z141 :: z142 :: z143 :: z144 :: z145 :: z146 :: z147 :: z148 :: z149 :: z150 :: z151 :: z152 :: z153 :: z154 :: z155 :: z156 :: z157 :: z158 :: z159 :: z160 :: z161 :: z162 :: z163 :: z164 :: z165 :: z166 :: z167 :: z168 :: z169 :: z170 :: z171 :: z172 :: z173 :: z174 :: z175 :: z176 :: z177 :: z178 :: z179 :: z180 :: z181 :: z182 :: z183 :: z184 :: z185 :: z186 :: z187 :: z188 :: z189 :: z190 :: z191 :: z192 :: z193 :: z194 :: z195 :: z196 :: z197 :: z198 :: z199 :: z200 :: z201 :: z202 :: z203 :: z204 :: z205 :: z206 :: z207 :: z208 :: z209 :: z210 :: z211 :: z212 :: z213 :: z214 :: z215 :: z216 :: z217 :: z218 :: z219 :: z220 :: z221 :: z222 :: z223 :: z224 :: z225 :: z226 :: z227 :: z228 :: z229 :: z230 :: z231 :: z232 :: z233 :: z234 :: z235 :: z236 :: z237 :: z238 :: z239 :: z240 :: z241 :: z242 :: z243 :: z244 :: z245 :: z246 :: z247 :: z248 :: z249 :: z250 :: z251 :: []), []⟩ w1 := by
  conv => arg 2; whnf
  go_upto_region 7 with fail
  go_cut [11, 12] (fun u v wz => u = .int .i64 V ∧ v = .int .i64 N ∧ Hid (Cs g wz [.int .i64 Y, .int .i64 M, .int .i64 D]) ∧ Hid (Cs h wz [.int .i64 Y0, .int .i64 M0, .int .i64 D0]) ∧ Hid (Cs w.heap.size wz [.int .i64 x.fq, .int .i64 x.iv, .int .i64 x.ct, .bool x.un, .int .i64 x.ua, .bool x.ut, s6, s7, s8, .slice a9 x.dy.length c9, .slice a10 x.md.length c10, .slice a11 x.yd.length c11, .slice a12 x.wn.length c12, .slice a13 x.mo.length c13, s14, .int .i64 x.wk]) ∧ Hid (Below w.heap.size w wz))
  case first =>
    have l15 := (RB.out.2 15 _ rfl).1
    clear HWB H1 H2 HWW
    go_wp2_with fail
    refine (Wk.rno_any d x.wk _ ⟨by have := DB.out; omega, by have := DB.out; omega⟩ HYR.out KW.out.1 KW.out.2).mono ?_
    rintro e w6 ⟨rfl, k⟩
    rw [HNV.out.1, HNV.out.2]
    have C := Lib.hid (C.out.below (k.mono (Nat.le_refl _)))
    have E := Lib.hid (E.out.below (k.mono (Nat.le_refl _)))
    have RB := Lib.hid (RB.out.below k)
    have B := Lib.hid (bstep B.out k)
    clear k
    go_wp2
    go_meet
    exact ⟨rfl, rfl, C, E, RB, B⟩
  case rest =>
  obtain ⟨w5, rfl⟩ : ∃ x : World, x = wc := ⟨_, rfl⟩
  clear C E RB B
  obtain ⟨rfl, rfl, C, E, RB, B⟩ := hcut
  go_upto_region 8 with fail
  go_cut [71] (fun v wz => v = .bool false ∧ Hid (Cs g wz [.int .i64 Y, .int .i64 M, .int .i64 D]) ∧ Hid (Cs h wz [.int .i64 Y0, .int .i64 M0, .int .i64 D0]) ∧ Hid (Cs w.heap.size wz [.int .i64 x.fq, .int .i64 x.iv, .int .i64 x.ct, .bool x.un, .int .i64 x.ua, .bool x.ut, s6, s7, s8, .slice a9 x.dy.length c9, .slice a10 x.md.length c10, .slice a11 x.yd.length c11, .slice a12 x.wn.length c12, .slice a13 x.mo.length c13, s14, .int .i64 x.wk]) ∧ Hid (Below w.heap.size w wz))
  case first =>
    have l12 := (RB.out.2 12 _ rfl).1
    have l15 := (RB.out.2 15 _ rfl).1
    have LV := Lib.hid (L.out.below B.out)
    cases k1 with
    | true =>
      clear HWB HNV HWW NB
      go_wp2_with fail
      go_quiet ((go_at_call 83; exact quiet_r (rhas_v _ x.wn N _ _ (LisV.drew LV.out _).h12 S.out.wn H1)))
      go_wp2
      go_meet
      exact ⟨rfl, Lib.hid (C.out.drewN _), Lib.hid (E.out.drewN _), Lib.hid (RB.out.drewN _), Lib.hid (bdrew B.out _)⟩
    | false =>
    obtain rfl : k2 = true := HWB.out
    have n1 := (noN_bd d x.wk)
    rw [HNV.out.1] at n1
    have n2 := wkN_bd V x.wk
    rw [HWW.out] at n2
    have r1 : IntKind.i64.wrap (N - W) = N - W := IntWalk.i64_in _ (by omega)
    have r2 : IntKind.i64.wrap (N - W - 1) = N - W - 1 := IntWalk.i64_in _ (by omega)
    have c12 := cell_regrown l12
    have c15 := cell_regrown l15
    have d1 := Lib.hid (fun dd os => Calls.regrown_of ((rhas_v _ x.wn N false (Sort.grow (redrawn w5 dd) os) (LV.out.below (below_regrown w5 dd os)).h12 S.out.wn H1).mono (fun e w' h => ⟨h.1, h.2 ▸ Below.refl _ _⟩)))
    have d2 := Lib.hid (fun dd os => Calls.regrown_of (rweeks_v V x.wk W (Sort.grow (redrawn w5 dd) os) NB.out.1 NB.out.2.1 KW.out.1 KW.out.2 HWW))
    have d3 := Lib.hid (fun dd os => Calls.regrown_of ((rhas_v _ x.wn (N - W - 1) true (Sort.grow (redrawn w5 dd) os) (LV.out.below (below_regrown w5 dd os)).h12 S.out.wn H2).mono (fun e w' h => ⟨h.1, h.2 ▸ Below.refl _ _⟩)))
    clear HWB HNV HWW NB n1 n2 H1 H2 l12 l15 LV
    refine wp_region_quiet_below (by kernel_rfl) (by kernel_rfl) ?_
    repeat (quiet_step (first | with_reducible exact d1.out _ _ | with_reducible exact d2.out _ _ | with_reducible exact d3.out _ _))
    refine wpQuiet_nil ?_
    intro w' hw'
    obtain ⟨⟨dq, osq⟩, rfl⟩ := hw'
    have k := below_regrown w5 dq osq
    have C := Lib.hid (C.out.below (k.mono (Nat.le_refl _)))
    have E := Lib.hid (E.out.below (k.mono (Nat.le_refl _)))
    have RB := Lib.hid (RB.out.below k)
    have B := Lib.hid (bstep B.out k)
    clear k
    go_wp2
    go_meet
    exact ⟨rfl, C, E, RB, B⟩
  case rest =>
  obtain ⟨w6, rfl⟩ : ∃ x : World, x = wc := ⟨_, rfl⟩
  clear C E RB B
  obtain ⟨rfl, C, E, RB, B⟩ := hcut
  go_wp2
  exact hK _ _ _ _ _ _ _ _ _ _ _ _ _ _ _ _ _ _ _ _ _ _ _ _ _ _ _ _ _ _ _ _ _ _ _ _ _ _ _ _ _ _ _ _ _ _ _ _ _ _ _ _ _ _ _ _ _ _ _ _ _ _ _ _ _ _ _ _ _ _ _ _ _ _ _ _ _ _ _ _ _ _ _ _ _ _ _ _ _ _ _ _ _ _ _ _ _ _ _ _ _ _ _ _ _ _ _ _ _ _ _ _ _ _ _ _ _ _ _ _ _ _ _ _ _ _ _ _ _ _ _ _ _ _ _ _ _ _ _ _ _ _ _ _ _ _ _ _ _ _ _ _ _ _ _ _ _ _ _ _ _ _ _ _ _ _ _ _ _ _ _ _ _ _ _ _ _ _ _ _ _ _ _ _ _ _ _ _ _ _ _ _ _ _ _ _ _ _ _ _ _ _ _ _ _ _ _ _ _ _ _ _ _ _ _ _ _ _ _ _ _ _ _ _ _ _ _ _ _ _ _ _ _ _ _ _ _ _ _ _ _ _ _ _ _ _ _ _ C E RB B
end Fil
end Go.Proofs.YtpbdlgmkkbccmaaDoor
