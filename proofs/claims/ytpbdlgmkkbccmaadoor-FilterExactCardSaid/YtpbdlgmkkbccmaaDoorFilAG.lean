/-
  The reference's Day (solsticeref21): from the weekday on.
-/
import Derived.Test.YtpbdlgmkkbccmaaDoorFilAF
namespace Go.Proofs.YtpbdlgmkkbccmaaDoor
open Go.RowKit
namespace Fil
open Rcv (CV LisV IntV DayV)
open Rck (ckE ckB Small)
open Civ (numV numE dY dM dD dnE ydV Ahead)
open Wk (noY noN noE)
open Cel
theorem any_succ {L : List (Int × Int)} {f : Int × Int → Bool} {k : Nat} (hk : k < L.length) : (L.take (k + 1)).any f = ((L.take k).any f || f L[k]) := by
  rw [List.take_succ_eq_append_getElem hk, List.any_append]
  simp
noncomputable def rdUC : Code := (Tryd.f43.body.bind (Tl.find_ 23)).getD .skip
set_option maxHeartbeats 25600000 in
set_option maxRecDepth 100000 in
theorem rdU (x : CV) (s6 s7 s8 s14 : Value) (a10 a11 a12 a13 : Option Addr) (c9 c10 c11 c12 c13 : Nat) (a d Y M D Y0 M0 D0 : Int) (p : Bool) (w w1 : World) (g h : Nat) (wd PF PB yd yl ml : Int) (n b1 o1 : Nat) (K1 : Hid (∀ (j : Nat) (hj : j < x.dy.length), w.cell? ⟨b1, o1 + j * 2, Option.none⟩ = some (.int .i64 x.dy[j].1) ∧ w.cell? ⟨b1, o1 + j * 2 + 1, Option.none⟩ = some (.int .i64 x.dy[j].2))) (HB1 : Hid (b1 < w.heap.size)) (HN : Hid (x.dy.length = n)) (n1M : n ≤ 1000000) (HWD : Hid (Cal.wday d = wd)) (EP : Hid (plF x d = PF ∧ plB x d = PB)) (HB : Hid (x.dy.any (rdayB x d) = p)) (C : Hid (Cs g w1 [.int .i64 Y, .int .i64 M, .int .i64 D])) (E : Hid (Cs h w1 [.int .i64 Y0, .int .i64 M0, .int .i64 D0])) (RB : Hid (Cs w.heap.size w1 [.int .i64 x.fq, .int .i64 x.iv, .int .i64 x.ct, .bool x.un, .int .i64 x.ua, .bool x.ut, s6, s7, s8, .slice (some ⟨b1, o1, none⟩) n c9, .slice a10 x.md.length c10, .slice a11 x.yd.length c11, .slice a12 x.wn.length c12, .slice a13 x.mo.length c13, s14, .int .i64 x.wk])) (B : Hid (Below w.heap.size w w1)) (z0 z1 z4 z5 z6 z9 z11 z12 z19 z20 z21 z22 z23 z24 z25 z26 z27 z28 z29 z30 z31 z32 z33 z34 z35 z36 z37 z38 z39 z40 z41 z42 z43 z44 z45 z46 z47 z48 z49 z50 z51 z52 z53 z54 z55 z56 z57 z58 z59 z60 z61 z62 z63 z64 z65 z66 z67 z68 z69 z70 z71 z72 z73 z74 z75 z76 z77 z78 z79 z80 z81 z82 z83 z84 z85 z86 z87 z88 z89 z90 z91 z92 z93 z94 z95 z96 z97 z98 z99 z100 z101 z102 z103 z104 z105 z106 z107 z108 z109 z110 z111 z112 z113 z114 z115 z116 z117 z118 z119 z120 z121 z122 z123 z124 z125 z126 z127 z128 z129 z130 z131 z132 z133 z134 z135 z136 z137 z138 z139 z140 z141 z142 z143 z144 z145 z146 z147 z148 z149 z150 z151 z152 z153 z154 z155 z156 z157 z158 z159 z160 z161 z162 z163 z164 z165 z166 z167 z168 z169 z170 z171 z172 z173 z174 z175 z176 z177 z178 z179 z180 z181 z182 z183 z184 z185 z186 z187 z188 z189 z190 z191 z192 z193 z194 z195 z196 z197 z198 z199 z200 z201 z202 z203 z204 z205 z206 z207 z208 z209 z210 z211 z212 z213 z214 z215 z216 z217 z218 z219 z220 z221 z222 z223 z224 z225 z226 z227 z228 z229 z230 z231 z232 z233 z234 z235 z236 z237 z238 z239 z240 z241 z242 z243 z244 z245 z246 z247 z248 z249 z250 z251 : Value) (K : Act → World → Prop) : Code.wp Tryd.prog rdUC (Exit.then K (bodyPost Tryd.prog Tryd.f43 (fun e w' => e = .returned (.bool p) ∧ Below w.heap.size w w'))) ⟨List.toArray (z0 :: z1 :: .int .i64 d :: .pointer (some ⟨w.heap.size, 0, none⟩) :: z4 :: z5 :: z6 :: .pointer (some ⟨g, 0, none⟩) :: .int .i64 a :: z9 :: .pointer (some ⟨h, 0, none⟩) :: z11 :: z12 :: .int .i64 yd :: .int .i64 yl :: .int .i64 ml :: .int .i64 wd :: .int .i64 PF :: .int .i64 (-PB) :: z19 :: z20 :: z21 :: z22 :: z23 :: z24 :: z25 :: z26 :: z27 :: z28 :: z29 :: z30 :: z31 :: z32 :: z33 :: z34 :: z35 :: z36 :: z37 :: z38 :: z39 :: z40 :: z41 :: z42 :: z43 :: z44 :: z45 :: z46 :: z47 :: z48 :: z49 :: z50 :: z51 :: z52 :: z53 :: z54 :: z55 :: z56 :: z57 :: z58 :: z59 :: z60 :: z61 :: z62 :: z63 :: z64 :: z65 :: z66 :: z67 :: z68 :: z69 :: z70 :: z71 :: z72 :: z73 :: z74 :: z75 :: z76 :: z77 :: z78 :: z79 :: z80 :: z81 :: z82 :: z83 :: z84 :: z85 :: z86 :: z87 :: z88 :: z89 :: z90 :: z91 :: z92 :: z93 :: z94 :: z95 :: z96 :: z97 :: z98 :: z99 :: z100 :: z101 :: z102 :: z103 :: z104 :: z105 :: z106 :: z107 :: z108 :: z109 :: z110 :: z111 :: z112 :: z113 :: z114 :: z115 :: z116 :: z117 :: z118 :: z119 :: z120 :: z121 :: z122 :: z123 :: z124 :: z125 :: z126 :: z127 :: z128 :: z129 :: z130 :: z131 :: z132 :: z133 :: z134 :: z135 :: z136 :: z137 :: z138 :: z139 :: z140 :: z141 :: z142 :: z143 :: z144 :: z145 :: z146 :: z147 :: z148 :: z149 :: z150 :: z151 :: z152 :: z153 :: z154 :: z155 :: z156 :: z157 :: z158 :: z159 :: z160 :: z161 :: z162 :: z163 :: z164 :: z165 :: z166 :: z167 :: z168 :: z169 :: z170 :: z171 :: z172 :: z173 :: z174 :: z175 :: z176 :: z177 :: z178 :: z179 :: z180 :: z181 :: z182 :: z183 :: z184 :: z185 :: z186 :: z187 :: z188 :: z189 :: z190 :: z191 :: z192 :: z193 :: z194 :: z195 :: z196 :: z197 :: z198 :: z199 :: z200 :: z201 :: z202 :: z203 :: z204 :: z205 :: z206 :: z207 :: z208 :: z209 :: z210 :: z211 :: z212 :: z213 :: z214 :: z215 :: z216 :: z217 :: z218 :: z219 :: z220 :: z221 :: z222 :: z223 :: z224 :: z225 :: z226 :: z227 :: z228 :: z229 :: z230 :: z231 :: z232 :: z233 :: z234 :: z235 :: z236 :: z237 :: z238 :: z239 :: z240 :: z241 :: z242 :: z243 :: z244 :: z245 :: z246 :: z247 :: z248 :: z249 :: z250 :: z251 :: []), []⟩ w1 := by
  conv => arg 2; whnf
  go_wp2_with fail
  go_loopw [19, 20] (fun uv iv wr => ∃ (k : Nat) (bb : Bool), k ≤ n ∧ uv = .bool bb ∧ iv = .int .i64 k ∧ Hid ((x.dy.take k).any (rdayB x d) = bb) ∧ Hid (Cs g wr [.int .i64 Y, .int .i64 M, .int .i64 D]) ∧ Hid (Cs h wr [.int .i64 Y0, .int .i64 M0, .int .i64 D0]) ∧ Hid (Cs w.heap.size wr [.int .i64 x.fq, .int .i64 x.iv, .int .i64 x.ct, .bool x.un, .int .i64 x.ua, .bool x.ut, s6, s7, s8, .slice (some ⟨b1, o1, none⟩) n c9, .slice a10 x.md.length c10, .slice a11 x.yd.length c11, .slice a12 x.wn.length c12, .slice a13 x.mo.length c13, s14, .int .i64 x.wk]) ∧ Hid (Below w.heap.size w wr)) (fun _ iv _ => n - (intOf iv).toNat)
  case atStart => exact ⟨0, false, Nat.zero_le _, rfl, rfl, Lib.hid (by simp), C, E, RB, B⟩
  case round =>
    obtain ⟨k, bb, hk, rfl, rfl, HT, C, E, RB, B⟩ := hrel
    obtain ⟨wo, rfl⟩ : ∃ wo : World, wo = wr := ⟨_, rfl⟩
    have l9 := (RB.out.2 9 _ rfl).1
    by_cases hlt : k < n
    · have h1L : k < x.dy.length := by rw [HN.out]; exact hlt
      have g1 := (B.out.cell (p := ⟨b1, o1 + k * 2, Option.none⟩) HB1.out).trans (K1.out k h1L).1
      have g2 := (B.out.cell (p := ⟨b1, o1 + k * 2 + 1, Option.none⟩) HB1.out).trans (K1.out k h1L).2
      obtain ⟨X, hX⟩ : ∃ X, x.dy[k].1 = X := ⟨_, rfl⟩
      obtain ⟨V, hV⟩ : ∃ Y, x.dy[k].2 = Y := ⟨_, rfl⟩
      have HXV : Hid (x.dy[k]'h1L = (X, V)) := Lib.hid (by rw [← hX, ← hV])
      have HT2 : Hid ((x.dy.take (k + 1)).any (rdayB x d) = (bb || (decide (V = wd) && (decide (X = 0) || (decide (X = PF) || decide (X = -PB)))))) := Lib.hid (by rw [any_succ h1L, HT.out, HXV.out, rdayB, HWD.out, EP.out.1, EP.out.2])
      rw [hX] at g1
      rw [hV] at g2
      have r0 := RB.out.1
      have r2 : w.heap.size ≤ wo.heap.size := B.out.size
      have r3 : b1 < wo.heap.size := Nat.lt_of_lt_of_le HB1.out B.out.size
      clear hX hV HT HXV h1L
      cases bb with
      | true =>
        go_wp2
        go_roundw
        case rel => exact ⟨k + 1, _, by omega, rfl, by go_num, Lib.hid (by rw [HT2.out]; rfl), Lib.hid (C.out.alloc _), Lib.hid (E.out.alloc _), Lib.hid (RB.out.alloc _), Lib.hid (B.out.alloc B.out.size _)⟩
        case measure => simp [intOf]; omega
      | false =>
        by_cases v0 : V = wd
        case neg =>
          have e1 : (V == wd) = false := beq_eq_false_iff_ne.2 v0
          have HT3 : Hid ((x.dy.take (k + 1)).any (rdayB x d) = false) := Lib.hid (by rw [HT2.out, decide_eq_false v0]; rfl)
          clear v0 HT2
          go_wp2
          go_roundw
          case rel => exact ⟨k + 1, _, by omega, rfl, by go_num, HT3, Lib.hid (C.out.alloc _), Lib.hid (E.out.alloc _), Lib.hid (RB.out.alloc _), Lib.hid (B.out.alloc B.out.size _)⟩
          case measure => simp [intOf]; omega
        have e1 : (V == wd) = true := beq_iff_eq.2 v0
        by_cases x0 : X = 0
        · have e2 : (X == 0) = true := beq_iff_eq.2 x0
          have HT3 : Hid ((x.dy.take (k + 1)).any (rdayB x d) = true) := Lib.hid (by rw [HT2.out, decide_eq_true v0, decide_eq_true x0]; rfl)
          clear v0 x0 HT2
          go_wp2
          go_roundw
          case rel => exact ⟨k + 1, _, by omega, rfl, by go_num, HT3, Lib.hid (C.out.alloc _), Lib.hid (E.out.alloc _), Lib.hid (RB.out.alloc _), Lib.hid (B.out.alloc B.out.size _)⟩
          case measure => simp [intOf]; omega
        have e2 : (X == 0) = false := beq_eq_false_iff_ne.2 x0
        by_cases x1 : X = PF
        · have e3 : (X == PF) = true := beq_iff_eq.2 x1
          have HT3 : Hid ((x.dy.take (k + 1)).any (rdayB x d) = true) := Lib.hid (by rw [HT2.out, decide_eq_true v0, decide_eq_true x1, decide_eq_false x0]; rfl)
          clear v0 x0 x1 HT2
          go_wp2
          go_roundw
          case rel => exact ⟨k + 1, _, by omega, rfl, by go_num, HT3, Lib.hid (C.out.alloc _), Lib.hid (E.out.alloc _), Lib.hid (RB.out.alloc _), Lib.hid (B.out.alloc B.out.size _)⟩
          case measure => simp [intOf]; omega
        have e3 : (X == PF) = false := beq_eq_false_iff_ne.2 x1
        by_cases x2 : X = -PB
        · have e4 : (X == -PB) = true := beq_iff_eq.2 x2
          have HT3 : Hid ((x.dy.take (k + 1)).any (rdayB x d) = true) := Lib.hid (by rw [HT2.out, decide_eq_true v0, decide_eq_true x2, decide_eq_false x0, decide_eq_false x1]; rfl)
          clear v0 x0 x1 x2 HT2
          go_wp2
          go_roundw
          case rel => exact ⟨k + 1, _, by omega, rfl, by go_num, HT3, Lib.hid (C.out.alloc _), Lib.hid (E.out.alloc _), Lib.hid (RB.out.alloc _), Lib.hid (B.out.alloc B.out.size _)⟩
          case measure => simp [intOf]; omega
        · have e4 : (X == -PB) = false := beq_eq_false_iff_ne.2 x2
          have HT3 : Hid ((x.dy.take (k + 1)).any (rdayB x d) = false) := Lib.hid (by rw [HT2.out, decide_eq_true v0, decide_eq_false x2, decide_eq_false x0, decide_eq_false x1]; rfl)
          clear v0 x0 x1 x2 HT2
          go_wp2
          go_roundw
          case rel => exact ⟨k + 1, _, by omega, rfl, by go_num, HT3, Lib.hid (C.out.alloc _), Lib.hid (E.out.alloc _), Lib.hid (RB.out.alloc _), Lib.hid (B.out.alloc B.out.size _)⟩
          case measure => simp [intOf]; omega
    · obtain rfl : k = n := by omega
      have hF : p = bb := by
        rw [← HB.out]
        have q := HT.out
        rwa [← HN.out, List.take_length] at q
      subst hF
      go_wp2
      go_ret
      exact ⟨rfl, B.out⟩
noncomputable def rdXC : Code := (Tryd.f43.body.bind (Tl.find_ 21)).getD .skip
set_option maxHeartbeats 25600000 in
set_option maxRecDepth 100000 in
theorem rdX (x : CV) (s6 s7 s8 s14 : Value) (a10 a11 a12 a13 : Option Addr) (c9 c10 c11 c12 c13 : Nat) (a d Y M D Y0 M0 D0 : Int) (p : Bool) (w w1 : World) (g h : Nat) (wd PF PB yd yl ml : Int) (n b1 o1 : Nat) (K1 : Hid (∀ (j : Nat) (hj : j < x.dy.length), w.cell? ⟨b1, o1 + j * 2, Option.none⟩ = some (.int .i64 x.dy[j].1) ∧ w.cell? ⟨b1, o1 + j * 2 + 1, Option.none⟩ = some (.int .i64 x.dy[j].2))) (HB1 : Hid (b1 < w.heap.size)) (HN : Hid (x.dy.length = n)) (n1M : n ≤ 1000000) (HWD : Hid (Cal.wday d = wd)) (EP : Hid (plF x d = PF ∧ plB x d = PB)) (HB : Hid (x.dy.any (rdayB x d) = p)) (C : Hid (Cs g w1 [.int .i64 Y, .int .i64 M, .int .i64 D])) (E : Hid (Cs h w1 [.int .i64 Y0, .int .i64 M0, .int .i64 D0])) (RB : Hid (Cs w.heap.size w1 [.int .i64 x.fq, .int .i64 x.iv, .int .i64 x.ct, .bool x.un, .int .i64 x.ua, .bool x.ut, s6, s7, s8, .slice (some ⟨b1, o1, none⟩) n c9, .slice a10 x.md.length c10, .slice a11 x.yd.length c11, .slice a12 x.wn.length c12, .slice a13 x.mo.length c13, s14, .int .i64 x.wk])) (B : Hid (Below w.heap.size w w1)) (_yb : 1 ≤ yd ∧ yd ≤ yl ∧ yl ≤ 366) (mb1 : 1 ≤ D) (mb2 : D ≤ ml) (BM : Hid (ml ≤ 31)) (HPF : Hid (PF = if mthB x = true then (D - 1) / 7 + 1 else (yd - 1) / 7 + 1)) (HPB : Hid (PB = if mthB x = true then (ml - D) / 7 + 1 else (yl - yd) / 7 + 1)) (z0 z1 z4 z5 z6 z9 z11 z12 z19 z20 z21 z22 z23 z24 z25 z26 z27 z28 z29 z30 z31 z32 z33 z34 z35 z36 z37 z38 z39 z40 z41 z42 z43 z44 z45 z46 z47 z48 z49 z50 z51 z52 z53 z54 z55 z56 z57 z58 z59 z60 z61 z62 z63 z64 z65 z66 z67 z68 z69 z70 z71 z72 z73 z74 z75 z76 z77 z78 z79 z80 z81 z82 z83 z84 z85 z86 z87 z88 z89 z90 z91 z92 z93 z94 z95 z96 z97 z98 z99 z100 z101 z102 z103 z104 z105 z106 z107 z108 z109 z110 z111 z112 z113 z114 z115 z116 z117 z118 z119 z120 z121 z122 z123 z124 z125 z126 z127 z128 z129 z130 z131 z132 z133 z134 z135 z136 z137 z138 z139 z140 z141 z142 z143 z144 z145 z146 z147 z148 z149 z150 z151 z152 z153 z154 z155 z156 z157 z158 z159 z160 z161 z162 z163 z164 z165 z166 z167 z168 z169 z170 z171 z172 z173 z174 z175 z176 z177 z178 z179 z180 z181 z182 z183 z184 z185 z186 z187 z188 z189 z190 z191 z192 z193 z194 z195 z196 z197 z198 z199 z200 z201 z202 z203 z204 z205 z206 z207 z208 z209 z210 z211 z212 z213 z214 z215 z216 z217 z218 z219 z220 z221 z222 z223 z224 z225 z226 z227 z228 z229 z230 z231 z232 z233 z234 z235 z236 z237 z238 z239 z240 z241 z242 z243 z244 z245 z246 z247 z248 z249 z250 z251 : Value) (K : Act → World → Prop) : Code.wp Tryd.prog rdXC (Exit.then K (bodyPost Tryd.prog Tryd.f43 (fun e w' => e = .returned (.bool p) ∧ Below w.heap.size w w'))) ⟨List.toArray (z0 :: z1 :: .int .i64 d :: .pointer (some ⟨w.heap.size, 0, none⟩) :: z4 :: z5 :: z6 :: .pointer (some ⟨g, 0, none⟩) :: .int .i64 a :: z9 :: .pointer (some ⟨h, 0, none⟩) :: z11 :: z12 :: .int .i64 yd :: .int .i64 yl :: .int .i64 ml :: .int .i64 wd :: .int .i64 ((yd - 1) / 7 + 1) :: .int .i64 (-((yl - yd) / 7 + 1)) :: z19 :: z20 :: z21 :: z22 :: z23 :: z24 :: z25 :: z26 :: z27 :: z28 :: z29 :: z30 :: z31 :: z32 :: z33 :: z34 :: z35 :: z36 :: z37 :: z38 :: z39 :: z40 :: z41 :: z42 :: z43 :: z44 :: z45 :: z46 :: z47 :: z48 :: z49 :: z50 :: z51 :: z52 :: z53 :: z54 :: z55 :: z56 :: z57 :: z58 :: z59 :: z60 :: z61 :: z62 :: z63 :: z64 :: z65 :: z66 :: z67 :: z68 :: z69 :: z70 :: z71 :: z72 :: z73 :: z74 :: z75 :: z76 :: z77 :: z78 :: z79 :: z80 :: z81 :: z82 :: z83 :: z84 :: z85 :: z86 :: z87 :: z88 :: z89 :: z90 :: z91 :: z92 :: z93 :: z94 :: z95 :: z96 :: z97 :: z98 :: z99 :: z100 :: z101 :: z102 :: z103 :: z104 :: z105 :: z106 :: z107 :: z108 :: z109 :: z110 :: z111 :: z112 :: z113 :: z114 :: z115 :: z116 :: z117 :: z118 :: z119 :: z120 :: z121 :: z122 :: z123 :: z124 :: z125 :: z126 :: z127 :: z128 :: z129 :: z130 :: z131 :: z132 :: z133 :: z134 :: z135 :: z136 :: z137 :: z138 :: z139 :: z140 :: z141 :: z142 :: z143 :: z144 :: z145 :: z146 :: z147 :: z148 :: z149 :: z150 :: z151 :: z152 :: z153 :: z154 :: z155 :: z156 :: z157 :: z158 :: z159 :: z160 :: z161 :: z162 :: z163 :: z164 :: z165 :: z166 :: z167 :: z168 :: z169 :: z170 :: z171 :: z172 :: z173 :: z174 :: z175 :: z176 :: z177 :: z178 :: z179 :: z180 :: z181 :: z182 :: z183 :: z184 :: z185 :: z186 :: z187 :: z188 :: z189 :: z190 :: z191 :: z192 :: z193 :: z194 :: z195 :: z196 :: z197 :: z198 :: z199 :: z200 :: z201 :: z202 :: z203 :: z204 :: z205 :: z206 :: z207 :: z208 :: z209 :: z210 :: z211 :: z212 :: z213 :: z214 :: z215 :: z216 :: z217 :: z218 :: z219 :: z220 :: z221 :: z222 :: z223 :: z224 :: z225 :: z226 :: z227 :: z228 :: z229 :: z230 :: z231 :: z232 :: z233 :: z234 :: z235 :: z236 :: z237 :: z238 :: z239 :: z240 :: z241 :: z242 :: z243 :: z244 :: z245 :: z246 :: z247 :: z248 :: z249 :: z250 :: z251 :: []), []⟩ w1 := by
  conv => arg 2; whnf
  obtain ⟨m, hm⟩ : ∃ k, mthB x = k := ⟨_, rfl⟩
  rw [hm] at HPF HPB
  have HM := Lib.hid hm
  clear hm
  go_upto_region 21 with fail
  go_cut [150] (fun v wz => v = .bool m ∧ Hid (Cs g wz [.int .i64 Y, .int .i64 M, .int .i64 D]) ∧ Hid (Cs h wz [.int .i64 Y0, .int .i64 M0, .int .i64 D0]) ∧ Hid (Cs w.heap.size wz [.int .i64 x.fq, .int .i64 x.iv, .int .i64 x.ct, .bool x.un, .int .i64 x.ua, .bool x.ut, s6, s7, s8, .slice (some ⟨b1, o1, none⟩) n c9, .slice a10 x.md.length c10, .slice a11 x.yd.length c11, .slice a12 x.wn.length c12, .slice a13 x.mo.length c13, s14, .int .i64 x.wk]) ∧ Hid (Below w.heap.size w wz))
  case first =>
    have l0 := (RB.out.2 0 _ rfl).1
    have l13 := (RB.out.2 13 _ rfl).1
    clear HPF HPB
    by_cases f6 : x.fq = 6
    · have hF : m = true := by rw [← HM.out, mthB, decide_eq_true f6, Bool.true_or]
      subst hF
      have e6 : (x.fq == 6) = true := beq_iff_eq.2 f6
      clear f6
      go_wp2
      go_meet
      exact ⟨rfl, C, E, RB, B⟩
    · have e6 : (x.fq == 6) = false := beq_eq_false_iff_ne.2 f6
      by_cases h13 : x.mo = []
      · have hF : m = false := by rw [← HM.out, mthB, decide_eq_false f6, Bool.false_or, decide_eq_false (not_not_intro h13)]
        subst hF
        have z13 : x.mo.length = 0 := by rw [h13]; rfl
        rw [z13] at l13
        clear f6 h13 z13
        go_wp2
        go_meet
        exact ⟨rfl, C, E, RB, B⟩
      · have hF : m = true := by rw [← HM.out, mthB, decide_eq_false f6, Bool.false_or, decide_eq_true h13]
        subst hF
        have y13 := len_pos' h13
        have y13n := Int.ofNat_lt.1 y13
        have y13d := decide_eq_true y13n
        clear f6 h13
        go_wp2
        go_meet
        exact ⟨rfl, C, E, RB, B⟩
  case rest =>
  obtain ⟨w4, rfl⟩ : ∃ x : World, x = wc := ⟨_, rfl⟩
  clear C E RB B
  obtain ⟨rfl, C, E, RB, B⟩ := hcut
  go_upto_if 150 with fail
  rename_i KU hKU
  go_cut [17, 18] (fun u v wz => u = .int .i64 PF ∧ v = .int .i64 (-PB) ∧ Hid (Cs g wz [.int .i64 Y, .int .i64 M, .int .i64 D]) ∧ Hid (Cs h wz [.int .i64 Y0, .int .i64 M0, .int .i64 D0]) ∧ Hid (Cs w.heap.size wz [.int .i64 x.fq, .int .i64 x.iv, .int .i64 x.ct, .bool x.un, .int .i64 x.ua, .bool x.ut, s6, s7, s8, .slice (some ⟨b1, o1, none⟩) n c9, .slice a10 x.md.length c10, .slice a11 x.yd.length c11, .slice a12 x.wn.length c12, .slice a13 x.mo.length c13, s14, .int .i64 x.wk]) ∧ Hid (Below w.heap.size w wz))
  case first =>
    cases m with
    | true =>
      have q2 := (C.out.2 2 _ rfl).1
      have r1 : (D - 1).tdiv 7 = (D - 1) / 7 := Int.tdiv_eq_ediv_of_nonneg (by omega)
      have r2 : (ml - D).tdiv 7 = (ml - D) / 7 := Int.tdiv_eq_ediv_of_nonneg (by omega)
      have bm := BM.out
      have r3 : IntKind.i64.wrap (D - 1) = D - 1 := IntWalk.i64_in _ (by omega)
      have r4 : IntKind.i64.wrap (ml - D) = ml - D := IntWalk.i64_in _ (by omega)
      have r5 : IntKind.i64.wrap ((D - 1) / 7) = (D - 1) / 7 := IntWalk.i64_in _ (by omega)
      have r6 : IntKind.i64.wrap ((ml - D) / 7) = (ml - D) / 7 := IntWalk.i64_in _ (by omega)
      have r7 : IntKind.i64.wrap ((D - 1) / 7 + 1) = (D - 1) / 7 + 1 := IntWalk.i64_in _ (by omega)
      have r8 : IntKind.i64.wrap ((ml - D) / 7 + 1) = (ml - D) / 7 + 1 := IntWalk.i64_in _ (by omega)
      have r9 : IntKind.i64.wrap (-((ml - D) / 7 + 1)) = -((ml - D) / 7 + 1) := IntWalk.i64_in _ (by omega)
      go_wp2_with fail
      go_quiet (fail)
      go_wp2
      go_meet
      have e1 : (D - 1) / 7 + 1 = PF := by rw [HPF.out]; rfl
      have e2 : -((ml - D) / 7 + 1) = -PB := by rw [HPB.out]; rfl
      exact ⟨by rw [e1], by rw [e2], Lib.hid (C.out.drewN _), Lib.hid (E.out.drewN _), Lib.hid (RB.out.drewN _), Lib.hid (bdrew B.out _)⟩
    | false =>
      have e1 : (yd - 1) / 7 + 1 = PF := by rw [HPF.out]; rfl
      have e2 : -((yl - yd) / 7 + 1) = -PB := by rw [HPB.out]; rfl
      have HE := Lib.hid (And.intro e1 e2)
      clear e1 e2
      go_wp2
      go_meet
      exact ⟨by rw [HE.out.1], by rw [HE.out.2], C, E, RB, B⟩
  case rest =>
  obtain ⟨w5, rfl⟩ : ∃ x : World, x = wc := ⟨_, rfl⟩
  clear C E RB B
  obtain ⟨rfl, rfl, C, E, RB, B⟩ := hcut
  clear HPF HPB HM
  exact hKU _ _ (rdU x s6 s7 s8 s14 a10 a11 a12 a13 c9 c10 c11 c12 c13 a d Y M D Y0 M0 D0 p w _ g h wd PF PB yd yl ml n b1 o1 K1 HB1 HN n1M HWD EP HB C E RB B _ _ _ _ _ _ _ _ _ _ _ _ _ _ _ _ _ _ _ _ _ _ _ _ _ _ _ _ _ _ _ _ _ _ _ _ _ _ _ _ _ _ _ _ _ _ _ _ _ _ _ _ _ _ _ _ _ _ _ _ _ _ _ _ _ _ _ _ _ _ _ _ _ _ _ _ _ _ _ _ _ _ _ _ _ _ _ _ _ _ _ _ _ _ _ _ _ _ _ _ _ _ _ _ _ _ _ _ _ _ _ _ _ _ _ _ _ _ _ _ _ _ _ _ _ _ _ _ _ _ _ _ _ _ _ _ _ _ _ _ _ _ _ _ _ _ _ _ _ _ _ _ _ _ _ _ _ _ _ _ _ _ _ _ _ _ _ _ _ _ _ _ _ _ _ _ _ _ _ _ _ _ _ _ _ _ _ _ _ _ _ _ _ _ _ _ _ _ _ _ _ _ _ _ _ _ _ _ _ _ _ _ _ _ _ _ _ _ _ _ _ _ _ _ _ _ _ _ _ _ _ _ _ _ _ _ _ _ _ _ _ _)
noncomputable def rdVC : Code := (Tryd.f43.body.bind (Tl.find_ 20)).getD .skip
set_option maxHeartbeats 25600000 in
set_option maxRecDepth 100000 in
theorem rdV (x : CV) (s6 s7 s8 s14 : Value) (a10 a11 a12 a13 : Option Addr) (c9 c10 c11 c12 c13 : Nat) (a d Y M D Y0 M0 D0 : Int) (p : Bool) (w w1 : World) (g h : Nat) (wd PF PB yd yl ml : Int) (n b1 o1 : Nat) (K1 : Hid (∀ (j : Nat) (hj : j < x.dy.length), w.cell? ⟨b1, o1 + j * 2, Option.none⟩ = some (.int .i64 x.dy[j].1) ∧ w.cell? ⟨b1, o1 + j * 2 + 1, Option.none⟩ = some (.int .i64 x.dy[j].2))) (HB1 : Hid (b1 < w.heap.size)) (HN : Hid (x.dy.length = n)) (n1M : n ≤ 1000000) (HWD : Hid (Cal.wday d = wd)) (EP : Hid (plF x d = PF ∧ plB x d = PB)) (HB : Hid (x.dy.any (rdayB x d) = p)) (C : Hid (Cs g w1 [.int .i64 Y, .int .i64 M, .int .i64 D])) (E : Hid (Cs h w1 [.int .i64 Y0, .int .i64 M0, .int .i64 D0])) (RB : Hid (Cs w.heap.size w1 [.int .i64 x.fq, .int .i64 x.iv, .int .i64 x.ct, .bool x.un, .int .i64 x.ua, .bool x.ut, s6, s7, s8, .slice (some ⟨b1, o1, none⟩) n c9, .slice a10 x.md.length c10, .slice a11 x.yd.length c11, .slice a12 x.wn.length c12, .slice a13 x.mo.length c13, s14, .int .i64 x.wk])) (B : Hid (Below w.heap.size w w1)) (yb : 1 ≤ yd ∧ yd ≤ yl ∧ yl ≤ 366) (mb1 : 1 ≤ D) (mb2 : D ≤ ml) (BM : Hid (ml ≤ 31)) (HPF : Hid (PF = if mthB x = true then (D - 1) / 7 + 1 else (yd - 1) / 7 + 1)) (HPB : Hid (PB = if mthB x = true then (ml - D) / 7 + 1 else (yl - yd) / 7 + 1)) (z0 z1 z4 z5 z6 z9 z11 z12 z17 z18 z19 z20 z21 z22 z23 z24 z25 z26 z27 z28 z29 z30 z31 z32 z33 z34 z35 z36 z37 z38 z39 z40 z41 z42 z43 z44 z45 z46 z47 z48 z49 z50 z51 z52 z53 z54 z55 z56 z57 z58 z59 z60 z61 z62 z63 z64 z65 z66 z67 z68 z69 z70 z71 z72 z73 z74 z75 z76 z77 z78 z79 z80 z81 z82 z83 z84 z85 z86 z87 z88 z89 z90 z91 z92 z93 z94 z95 z96 z97 z98 z99 z100 z101 z102 z103 z104 z105 z106 z107 z108 z109 z110 z111 z112 z113 z114 z115 z116 z117 z118 z119 z120 z121 z122 z123 z124 z125 z126 z127 z128 z129 z130 z131 z132 z133 z134 z135 z136 z137 z138 z139 z140 z141 z142 z143 z144 z145 z146 z147 z148 z149 z150 z151 z152 z153 z154 z155 z156 z157 z158 z159 z160 z161 z162 z163 z164 z165 z166 z167 z168 z169 z170 z171 z172 z173 z174 z175 z176 z177 z178 z179 z180 z181 z182 z183 z184 z185 z186 z187 z188 z189 z190 z191 z192 z193 z194 z195 z196 z197 z198 z199 z200 z201 z202 z203 z204 z205 z206 z207 z208 z209 z210 z211 z212 z213 z214 z215 z216 z217 z218 z219 z220 z221 z222 z223 z224 z225 z226 z227 z228 z229 z230 z231 z232 z233 z234 z235 z236 z237 z238 z239 z240 z241 z242 z243 z244 z245 z246 z247 z248 z249 z250 z251 : Value) (K : Act → World → Prop) : Code.wp Tryd.prog rdVC (Exit.then K (bodyPost Tryd.prog Tryd.f43 (fun e w' => e = .returned (.bool p) ∧ Below w.heap.size w w'))) ⟨List.toArray (z0 :: z1 :: .int .i64 d :: .pointer (some ⟨w.heap.size, 0, none⟩) :: z4 :: z5 :: z6 :: .pointer (some ⟨g, 0, none⟩) :: .int .i64 a :: z9 :: .pointer (some ⟨h, 0, none⟩) :: z11 :: z12 :: .int .i64 yd :: .int .i64 yl :: .int .i64 ml :: .int .i64 wd :: z17 :: z18 :: z19 :: z20 :: z21 :: z22 :: z23 :: z24 :: z25 :: z26 :: z27 :: z28 :: z29 :: z30 :: z31 :: z32 :: z33 :: z34 :: z35 :: z36 :: z37 :: z38 :: z39 :: z40 :: z41 :: z42 :: z43 :: z44 :: z45 :: z46 :: z47 :: z48 :: z49 :: z50 :: z51 :: z52 :: z53 :: z54 :: z55 :: z56 :: z57 :: z58 :: z59 :: z60 :: z61 :: z62 :: z63 :: z64 :: z65 :: z66 :: z67 :: z68 :: z69 :: z70 :: z71 :: z72 :: z73 :: z74 :: z75 :: z76 :: z77 :: z78 :: z79 :: z80 :: z81 :: z82 :: z83 :: z84 :: z85 :: z86 :: z87 :: z88 :: z89 :: z90 :: z91 :: z92 :: z93 :: z94 :: z95 :: z96 :: z97 :: z98 :: z99 :: z100 :: z101 :: z102 :: z103 :: z104 :: z105 :: z106 :: z107 :: z108 :: z109 :: z110 :: z111 :: z112 :: z113 :: z114 :: z115 :: z116 :: z117 :: z118 :: z119 :: z120 :: z121 :: z122 :: z123 :: z124 :: z125 :: z126 :: z127 :: z128 :: z129 :: z130 :: z131 :: z132 :: z133 :: z134 :: z135 :: z136 :: z137 :: z138 :: z139 :: z140 :: z141 :: z142 :: z143 :: z144 :: z145 :: z146 :: z147 :: z148 :: z149 :: z150 :: z151 :: z152 :: z153 :: z154 :: z155 :: z156 :: z157 :: z158 :: z159 :: z160 :: z161 :: z162 :: z163 :: z164 :: z165 :: z166 :: z167 :: z168 :: z169 :: z170 :: z171 :: z172 :: z173 :: z174 :: z175 :: z176 :: z177 :: z178 :: z179 :: z180 :: z181 :: z182 :: z183 :: z184 :: z185 :: z186 :: z187 :: z188 :: z189 :: z190 :: z191 :: z192 :: z193 :: z194 :: z195 :: z196 :: z197 :: z198 :: z199 :: z200 :: z201 :: z202 :: z203 :: z204 :: z205 :: z206 :: z207 :: z208 :: z209 :: z210 :: z211 :: z212 :: z213 :: z214 :: z215 :: z216 :: z217 :: z218 :: z219 :: z220 :: z221 :: z222 :: z223 :: z224 :: z225 :: z226 :: z227 :: z228 :: z229 :: z230 :: z231 :: z232 :: z233 :: z234 :: z235 :: z236 :: z237 :: z238 :: z239 :: z240 :: z241 :: z242 :: z243 :: z244 :: z245 :: z246 :: z247 :: z248 :: z249 :: z250 :: z251 :: []), []⟩ w1 := by
  conv => arg 2; whnf
  have r1 : (yd - 1).tdiv 7 = (yd - 1) / 7 := Int.tdiv_eq_ediv_of_nonneg (by omega)
  have r2 : (yl - yd).tdiv 7 = (yl - yd) / 7 := Int.tdiv_eq_ediv_of_nonneg (by omega)
  go_upto_region 20 with fail
  rename_i KX hKX
  go_cut [17, 18] (fun u v wz => u = .int .i64 ((yd - 1) / 7 + 1) ∧ v = .int .i64 (-((yl - yd) / 7 + 1)) ∧ Hid (Cs g wz [.int .i64 Y, .int .i64 M, .int .i64 D]) ∧ Hid (Cs h wz [.int .i64 Y0, .int .i64 M0, .int .i64 D0]) ∧ Hid (Cs w.heap.size wz [.int .i64 x.fq, .int .i64 x.iv, .int .i64 x.ct, .bool x.un, .int .i64 x.ua, .bool x.ut, s6, s7, s8, .slice (some ⟨b1, o1, none⟩) n c9, .slice a10 x.md.length c10, .slice a11 x.yd.length c11, .slice a12 x.wn.length c12, .slice a13 x.mo.length c13, s14, .int .i64 x.wk]) ∧ Hid (Below w.heap.size w wz))
  case first =>
    clear HPF HPB
    go_wp2
    go_meet
    exact ⟨rfl, rfl, C, E, RB, B⟩
  case rest =>
  obtain ⟨w3, rfl⟩ : ∃ x : World, x = wc := ⟨_, rfl⟩
  clear C E RB B
  obtain ⟨rfl, rfl, C, E, RB, B⟩ := hcut
  exact hKX _ _ (rdX x s6 s7 s8 s14 a10 a11 a12 a13 c9 c10 c11 c12 c13 a d Y M D Y0 M0 D0 p w _ g h wd PF PB yd yl ml n b1 o1 K1 HB1 HN n1M HWD EP HB C E RB B yb mb1 mb2 BM HPF HPB _ _ _ _ _ _ _ _ _ _ _ _ _ _ _ _ _ _ _ _ _ _ _ _ _ _ _ _ _ _ _ _ _ _ _ _ _ _ _ _ _ _ _ _ _ _ _ _ _ _ _ _ _ _ _ _ _ _ _ _ _ _ _ _ _ _ _ _ _ _ _ _ _ _ _ _ _ _ _ _ _ _ _ _ _ _ _ _ _ _ _ _ _ _ _ _ _ _ _ _ _ _ _ _ _ _ _ _ _ _ _ _ _ _ _ _ _ _ _ _ _ _ _ _ _ _ _ _ _ _ _ _ _ _ _ _ _ _ _ _ _ _ _ _ _ _ _ _ _ _ _ _ _ _ _ _ _ _ _ _ _ _ _ _ _ _ _ _ _ _ _ _ _ _ _ _ _ _ _ _ _ _ _ _ _ _ _ _ _ _ _ _ _ _ _ _ _ _ _ _ _ _ _ _ _ _ _ _ _ _ _ _ _ _ _ _ _ _ _ _ _ _ _ _ _ _ _ _ _ _ _ _ _ _ _ _ _ _ _ _ _ _)
noncomputable def rdSC : Code := (Tryd.f43.body.bind (Tl.from_ 18)).getD .skip
set_option maxHeartbeats 25600000 in
set_option maxRecDepth 100000 in
theorem rdS (x : CV) (s6 s7 s8 s14 : Value) (a9 a10 a11 a12 a13 : Option Addr) (c9 c10 c11 c12 c13 : Nat) (a d Y M D Y0 M0 D0 : Int) (p : Bool) (w w1 : World) (g h : Nat) (L : Hid (LisV w x s6 s7 s8 (.slice a9 x.dy.length c9) (.slice a10 x.md.length c10) (.slice a11 x.yd.length c11) (.slice a12 x.wn.length c12) (.slice a13 x.mo.length c13) s14)) (S : Hid (Small x)) (C : Hid (Cs g w1 [.int .i64 Y, .int .i64 M, .int .i64 D])) (E : Hid (Cs h w1 [.int .i64 Y0, .int .i64 M0, .int .i64 D0])) (RB : Hid (Cs w.heap.size w1 [.int .i64 x.fq, .int .i64 x.iv, .int .i64 x.ct, .bool x.un, .int .i64 x.ua, .bool x.ut, s6, s7, s8, .slice a9 x.dy.length c9, .slice a10 x.md.length c10, .slice a11 x.yd.length c11, .slice a12 x.wn.length c12, .slice a13 x.mo.length c13, s14, .int .i64 x.wk])) (B : Hid (Below w.heap.size w w1)) (DB : Hid ((-719162 ≤ d ∧ d < 2932897) ∧ (-719162 ≤ a ∧ a < 2932897) ∧ (1 ≤ Y ∧ Y ≤ 9999) ∧ (1 ≤ M ∧ M ≤ 12) ∧ (1 ≤ D ∧ D ≤ Cal.mlen Y M))) (yd yl ml : Int) (DY : Hid (dY d = Y)) (DE : Hid (dD d = D ∧ dD a = D0 ∧ dM d = M ∧ dM a = M0)) (YD : Hid (ydV d = yd ∧ ylen (dY d) = yl ∧ Cal.mlen (dY d) M = ml ∧ (1 ≤ yd ∧ yd ≤ yl ∧ yl ≤ 366))) (HP : Hid (rlastB x a d = p)) (z0 z1 z4 z5 z6 z9 z11 z12 z16 z17 z18 z19 z20 z21 z22 z23 z24 z25 z26 z27 z28 z29 z30 z31 z32 z33 z34 z35 z36 z37 z38 z39 z40 z41 z42 z43 z44 z45 z46 z47 z48 z49 z50 z51 z52 z53 z54 z55 z56 z57 z58 z59 z60 z61 z62 z63 z64 z65 z66 z67 z68 z69 z70 z71 z72 z73 z74 z75 z76 z77 z78 z79 z80 z81 z82 z83 z84 z85 z86 z87 z88 z89 z90 z91 z92 z93 z94 z95 z96 z97 z98 z99 z100 z101 z102 z103 z104 z105 z106 z107 z108 z109 z110 z111 z112 z113 z114 z115 z116 z117 z118 z119 z120 z121 z122 z123 z124 z125 z126 z127 z128 z129 z130 z131 z132 z133 z134 z135 z136 z137 z138 z139 z140 z141 z142 z143 z144 z145 z146 z147 z148 z149 z150 z151 z152 z153 z154 z155 z156 z157 z158 z159 z160 z161 z162 z163 z164 z165 z166 z167 z168 z169 z170 z171 z172 z173 z174 z175 z176 z177 z178 z179 z180 z181 z182 z183 z184 z185 z186 z187 z188 z189 z190 z191 z192 z193 z194 z195 z196 z197 z198 z199 z200 z201 z202 z203 z204 z205 z206 z207 z208 z209 z210 z211 z212 z213 z214 z215 z216 z217 z218 z219 z220 z221 z222 z223 z224 z225 z226 z227 z228 z229 z230 z231 z232 z233 z234 z235 z236 z237 z238 z239 z240 z241 z242 z243 z244 z245 z246 z247 z248 z249 z250 z251 : Value) : Code.wp Tryd.prog rdSC (bodyPost Tryd.prog Tryd.f43 (fun e w' => e = .returned (.bool p) ∧ Below w.heap.size w w')) ⟨List.toArray (z0 :: z1 :: .int .i64 d :: .pointer (some ⟨w.heap.size, 0, none⟩) :: z4 :: z5 :: z6 :: .pointer (some ⟨g, 0, none⟩) :: .int .i64 a :: z9 :: .pointer (some ⟨h, 0, none⟩) :: z11 :: z12 :: .int .i64 yd :: .int .i64 yl :: .int .i64 ml :: z16 :: z17 :: z18 :: z19 :: z20 :: z21 :: z22 :: z23 :: z24 :: z25 :: z26 :: z27 :: z28 :: z29 :: z30 :: z31 :: z32 :: z33 :: z34 :: z35 :: z36 :: z37 :: z38 :: z39 :: z40 :: z41 :: z42 :: z43 :: z44 :: z45 :: z46 :: z47 :: z48 :: z49 :: z50 :: z51 :: z52 :: z53 :: z54 :: z55 :: z56 :: z57 :: z58 :: z59 :: z60 :: z61 :: z62 :: z63 :: z64 :: z65 :: z66 :: z67 :: z68 :: z69 :: z70 :: z71 :: z72 :: z73 :: z74 :: z75 :: z76 :: z77 :: z78 :: z79 :: z80 :: z81 :: z82 :: z83 :: z84 :: z85 :: z86 :: z87 :: z88 :: z89 :: z90 :: z91 :: z92 :: z93 :: z94 :: z95 :: z96 :: z97 :: z98 :: z99 :: z100 :: z101 :: z102 :: z103 :: z104 :: z105 :: z106 :: z107 :: z108 :: z109 :: z110 :: z111 :: z112 :: z113 :: z114 :: z115 :: z116 :: z117 :: z118 :: z119 :: z120 :: z121 :: z122 :: z123 :: z124 :: z125 :: z126 :: z127 :: z128 :: z129 :: z130 :: z131 :: z132 :: z133 :: z134 :: z135 :: z136 :: z137 :: z138 :: z139 :: z140 :: z141 :: z142 :: z143 :: z144 :: z145 :: z146 :: z147 :: z148 :: z149 :: z150 :: z151 :: z152 :: z153 :: z154 :: z155 :: z156 :: z157 :: z158 :: z159 :: z160 :: z161 :: z162 :: z163 :: z164 :: z165 :: z166 :: z167 :: z168 :: z169 :: z170 :: z171 :: z172 :: z173 :: z174 :: z175 :: z176 :: z177 :: z178 :: z179 :: z180 :: z181 :: z182 :: z183 :: z184 :: z185 :: z186 :: z187 :: z188 :: z189 :: z190 :: z191 :: z192 :: z193 :: z194 :: z195 :: z196 :: z197 :: z198 :: z199 :: z200 :: z201 :: z202 :: z203 :: z204 :: z205 :: z206 :: z207 :: z208 :: z209 :: z210 :: z211 :: z212 :: z213 :: z214 :: z215 :: z216 :: z217 :: z218 :: z219 :: z220 :: z221 :: z222 :: z223 :: z224 :: z225 :: z226 :: z227 :: z228 :: z229 :: z230 :: z231 :: z232 :: z233 :: z234 :: z235 :: z236 :: z237 :: z238 :: z239 :: z240 :: z241 :: z242 :: z243 :: z244 :: z245 :: z246 :: z247 :: z248 :: z249 :: z250 :: z251 :: []), []⟩ w1 := by
  conv => arg 2; whnf
  have DB1 := DB.out.1.1
  have DB2 := DB.out.1.2
  obtain ⟨wd, hwd⟩ : ∃ k, Cal.wday d = k := ⟨_, rfl⟩
  have HWD := Lib.hid hwd
  clear hwd
  go_upto_region 18 with fail
  go_cut [16] (fun v wz => v = .int .i64 wd ∧ Hid (Cs g wz [.int .i64 Y, .int .i64 M, .int .i64 D]) ∧ Hid (Cs h wz [.int .i64 Y0, .int .i64 M0, .int .i64 D0]) ∧ Hid (Cs w.heap.size wz [.int .i64 x.fq, .int .i64 x.iv, .int .i64 x.ct, .bool x.un, .int .i64 x.ua, .bool x.ut, s6, s7, s8, .slice a9 x.dy.length c9, .slice a10 x.md.length c10, .slice a11 x.yd.length c11, .slice a12 x.wn.length c12, .slice a13 x.mo.length c13, s14, .int .i64 x.wk]) ∧ Hid (Below w.heap.size w wz))
  case first =>
    go_wp2_with fail
    refine (Civ.rweekday_any d _ (by omega) (by omega)).mono ?_
    rintro e w3 ⟨rfl, n, rfl⟩
    rw [HWD.out]
    go_wp2
    go_meet
    exact ⟨rfl, Lib.hid (C.out.drewN n), Lib.hid (E.out.drewN n), Lib.hid (RB.out.drewN n), Lib.hid (bdrew B.out n)⟩
  case rest =>
  obtain ⟨w2, rfl⟩ : ∃ x : World, x = wc := ⟨_, rfl⟩
  clear C E RB B
  obtain ⟨rfl, C, E, RB, B⟩ := hcut
  have l9 := (RB.out.2 9 _ rfl).1
  by_cases h0 : x.dy = []
  · have z9 : x.dy.length = 0 := by rw [h0]; rfl
    rw [z9] at l9
    have HP2 : Hid ((if x.yd ≠ [] ∨ x.md ≠ [] then true else if x.wn ≠ [] ∨ x.fq = 5 then decide (wd = Cal.wday a) else if x.fq = 6 ∨ x.fq = 7 then decide (D = D0) && (decide (x.fq = 6) || (decide (x.mo ≠ []) || decide (M = M0))) else true) = p) := Lib.hid (by
      rw [← HP.out, rlastB, if_neg (not_not_intro h0), HWD.out, DE.out.1, DE.out.2.1, DE.out.2.2.1, DE.out.2.2.2])
    go_upto_region 19 with fail
    rename_i K30 hK30 Kc hKc
    go_cut [131] (fun v wz => v = .bool false ∧ Hid (Cs g wz [.int .i64 Y, .int .i64 M, .int .i64 D]) ∧ Hid (Cs h wz [.int .i64 Y0, .int .i64 M0, .int .i64 D0]) ∧ Hid (Cs w.heap.size wz [.int .i64 x.fq, .int .i64 x.iv, .int .i64 x.ct, .bool x.un, .int .i64 x.ua, .bool x.ut, s6, s7, s8, .slice a9 x.dy.length c9, .slice a10 x.md.length c10, .slice a11 x.yd.length c11, .slice a12 x.wn.length c12, .slice a13 x.mo.length c13, s14, .int .i64 x.wk]) ∧ Hid (Below w.heap.size w wz))
    case first =>
      clear HP HP2 DE
      go_wp2
      go_meet
      exact ⟨rfl, C, E, RB, B⟩
    case rest =>
    obtain ⟨w3, rfl⟩ : ∃ x : World, x = wc := ⟨_, rfl⟩
    clear C E RB B l9
    obtain ⟨rfl, C, E, RB, B⟩ := hcut
    go_step
    go_step
    go_step
    go_step
    exact hK30 _ _ (rdT x s6 s7 s8 s14 a9 a10 a11 a12 a13 c9 c10 c11 c12 c13 a d Y M D Y0 M0 D0 p w _ g h L S C E RB B DB wd HP2 _ _ _ _ _ _ _ _ _ _ _ _ _ _ _ _ _ _ _ _ _ _ _ _ _ _ _ _ _ _ _ _ _ _ _ _ _ _ _ _ _ _ _ _ _ _ _ _ _ _ _ _ _ _ _ _ _ _ _ _ _ _ _ _ _ _ _ _ _ _ _ _ _ _ _ _ _ _ _ _ _ _ _ _ _ _ _ _ _ _ _ _ _ _ _ _ _ _ _ _ _ _ _ _ _ _ _ _ _ _ _ _ _ _ _ _ _ _ _ _ _ _ _ _ _ _ _ _ _ _ _ _ _ _ _ _ _ _ _ _ _ _ _ _ _ _ _ _ _ _ _ _ _ _ _ _ _ _ _ _ _ _ _ _ _ _ _ _ _ _ _ _ _ _ _ _ _ _ _ _ _ _ _ _ _ _ _ _ _ _ _ _ _ _ _ _ _ _ _ _ _ _ _ _ _ _ _ _ _ _ _ _ _ _ _ _ _ _ _ _ _ _ _ _ _ _ _ _ _ _ _ _ _ _ _ _ _ _ _ _ _ _ _ _ _ _)
  · have HA9 := L.out.h9
    obtain ⟨b1, o1, c1, hv, hb1, k1⟩ := HA9.form (Nat.pos_of_ne_zero (mt List.length_eq_zero_iff.1 h0))
    injection hv with hv1 hv2 hv3
    subst hv1
    have K1 : Hid (∀ (j : Nat) (hj : j < x.dy.length), w.cell? ⟨b1, o1 + j * 2, Option.none⟩ = some (.int .i64 x.dy[j].1) ∧ w.cell? ⟨b1, o1 + j * 2 + 1, Option.none⟩ = some (.int .i64 x.dy[j].2)) := Lib.hid k1
    have HB1 := Lib.hid hb1
    have z := len_pos' h0
    obtain ⟨n, hn⟩ : ∃ n, x.dy.length = n := ⟨_, rfl⟩
    have HN := Lib.hid hn
    have n1M : n ≤ 1000000 := by rw [← hn]; exact S.out.dy
    have HB : Hid (x.dy.any (rdayB x d) = p) := Lib.hid (by rw [← HP.out, rlastB, if_pos h0])
    obtain ⟨PF, hPF⟩ : ∃ k, plF x d = k := ⟨_, rfl⟩
    obtain ⟨PB, hPB⟩ : ∃ k, plB x d = k := ⟨_, rfl⟩
    have HPF : Hid (PF = if mthB x = true then (D - 1) / 7 + 1 else (yd - 1) / 7 + 1) := Lib.hid (by rw [← hPF, plF, DE.out.1, YD.out.1])
    have HPB : Hid (PB = if mthB x = true then (ml - D) / 7 + 1 else (yl - yd) / 7 + 1) := Lib.hid (by rw [← hPB, plB, DE.out.2.2.1, YD.out.2.2.1, DE.out.1, YD.out.2.1, YD.out.1])
    have EP := Lib.hid (And.intro hPF hPB)
    have yb := YD.out.2.2.2
    have mb1 := DB.out.2.2.2.2.1
    have mb2 : D ≤ ml := by rw [← YD.out.2.2.1, DY.out]; exact DB.out.2.2.2.2.2
    rw [hn] at l9 z RB
    have zn := Int.ofNat_lt.1 z
    have zd := decide_eq_true zn
    clear h0 HP hn hv2 hv3 hb1 k1 hPF hPB HA9 DE
    go_upto_region 19 with fail
    go_cut [131] (fun v wz => v = .bool true ∧ Hid (Cs g wz [.int .i64 Y, .int .i64 M, .int .i64 D]) ∧ Hid (Cs h wz [.int .i64 Y0, .int .i64 M0, .int .i64 D0]) ∧ Hid (Cs w.heap.size wz [.int .i64 x.fq, .int .i64 x.iv, .int .i64 x.ct, .bool x.un, .int .i64 x.ua, .bool x.ut, s6, s7, s8, .slice (some ⟨b1, o1, none⟩) n c9, .slice a10 x.md.length c10, .slice a11 x.yd.length c11, .slice a12 x.wn.length c12, .slice a13 x.mo.length c13, s14, .int .i64 x.wk]) ∧ Hid (Below w.heap.size w wz))
    case first =>
      clear HPF HPB EP HB DB YD K1 L S zn
      go_wp2
      go_meet
      exact ⟨rfl, C, E, RB, B⟩
    case rest =>
    obtain ⟨w3, rfl⟩ : ∃ x : World, x = wc := ⟨_, rfl⟩
    clear C E RB B l9
    obtain ⟨rfl, C, E, RB, B⟩ := hcut
    go_step
    go_step
    exact rdV x s6 s7 s8 s14 a10 a11 a12 a13 c9 c10 c11 c12 c13 a d Y M D Y0 M0 D0 p w _ g h wd PF PB yd yl ml n b1 o1 K1 HB1 HN n1M HWD EP HB C E RB B yb mb1 mb2 (Lib.hid (by rw [← YD.out.2.2.1]; exact (Cal.mlen_bd _ _).2)) HPF HPB _ _ _ _ _ _ _ _ _ _ _ _ _ _ _ _ _ _ _ _ _ _ _ _ _ _ _ _ _ _ _ _ _ _ _ _ _ _ _ _ _ _ _ _ _ _ _ _ _ _ _ _ _ _ _ _ _ _ _ _ _ _ _ _ _ _ _ _ _ _ _ _ _ _ _ _ _ _ _ _ _ _ _ _ _ _ _ _ _ _ _ _ _ _ _ _ _ _ _ _ _ _ _ _ _ _ _ _ _ _ _ _ _ _ _ _ _ _ _ _ _ _ _ _ _ _ _ _ _ _ _ _ _ _ _ _ _ _ _ _ _ _ _ _ _ _ _ _ _ _ _ _ _ _ _ _ _ _ _ _ _ _ _ _ _ _ _ _ _ _ _ _ _ _ _ _ _ _ _ _ _ _ _ _ _ _ _ _ _ _ _ _ _ _ _ _ _ _ _ _ _ _ _ _ _ _ _ _ _ _ _ _ _ _ _ _ _ _ _ _ _ _ _ _ _ _ _ _ _ _ _ _ _ _ _ _ _ _ _ _ _ _ _ _
end Fil
end Go.Proofs.YtpbdlgmkkbccmaaDoor
