/-
  The reference's Day (solsticeref21): its end, when no weekdays are asked.
-/
import Derived.Test.YtpbdlgmkkbccmaaDoorBdFd
import Derived.Test.YtpbdlgmkkbccmaaDoorBdFe
import Derived.Test.YtpbdlgmkkbccmaaDoorTl
namespace Go.Proofs.YtpbdlgmkkbccmaaDoor
open Go.RowKit
namespace Fil
open Rcv (CV LisV IntV DayV)
open Rck (ckE ckB Small)
open Civ (numV numE dY dM dD dnE ydV Ahead)
open Wk (noY noN noE)
open Cel
theorem rhas_v (v : Value) (L : List Int) (n : Int) (b : Bool) (w : World) (hv : IntV w v L) (hL : L.length ≤ 1000000) (hb : Hid (L.contains n = b)) :
    Calls Tryd.prog 83 #[v, .int .i64 n] w fun e w' => e = .returned (.bool b) ∧ w' = w := by
  rw [← hb.out]
  exact rhas_to v L n w hv hL
noncomputable def rdTC : Code := (Tryd.f43.body.bind (Tl.from_ 30)).getD .skip
set_option maxHeartbeats 25600000 in
set_option maxRecDepth 100000 in
theorem rdT (x : CV) (s6 s7 s8 s14 : Value) (a9 a10 a11 a12 a13 : Option Addr) (c9 c10 c11 c12 c13 : Nat) (a d Y M D Y0 M0 D0 : Int) (p : Bool) (w w1 : World) (g h : Nat) (_L : Hid (LisV w x s6 s7 s8 (.slice a9 x.dy.length c9) (.slice a10 x.md.length c10) (.slice a11 x.yd.length c11) (.slice a12 x.wn.length c12) (.slice a13 x.mo.length c13) s14)) (S : Hid (Small x)) (C : Hid (Cs g w1 [.int .i64 Y, .int .i64 M, .int .i64 D])) (E : Hid (Cs h w1 [.int .i64 Y0, .int .i64 M0, .int .i64 D0])) (RB : Hid (Cs w.heap.size w1 [.int .i64 x.fq, .int .i64 x.iv, .int .i64 x.ct, .bool x.un, .int .i64 x.ua, .bool x.ut, s6, s7, s8, .slice a9 x.dy.length c9, .slice a10 x.md.length c10, .slice a11 x.yd.length c11, .slice a12 x.wn.length c12, .slice a13 x.mo.length c13, s14, .int .i64 x.wk])) (B : Hid (Below w.heap.size w w1)) (DB : Hid ((-719162 ≤ d ∧ d < 2932897) ∧ (-719162 ≤ a ∧ a < 2932897) ∧ (1 ≤ Y ∧ Y ≤ 9999) ∧ (1 ≤ M ∧ M ≤ 12) ∧ (1 ≤ D ∧ D ≤ Cal.mlen Y M))) (wd : Int) (HP : Hid ((if x.yd ≠ [] ∨ x.md ≠ [] then true else if x.wn ≠ [] ∨ x.fq = 5 then decide (wd = Cal.wday a) else if x.fq = 6 ∨ x.fq = 7 then decide (D = D0) && (decide (x.fq = 6) || (decide (x.mo ≠ []) || decide (M = M0))) else true) = p)) (z0 z1 z4 z5 z6 z9 z11 z12 z13 z14 z15 z17 z18 z19 z20 z21 z22 z23 z24 z25 z26 z27 z28 z29 z30 z31 z32 z33 z34 z35 z36 z37 z38 z39 z40 z41 z42 z43 z44 z45 z46 z47 z48 z49 z50 z51 z52 z53 z54 z55 z56 z57 z58 z59 z60 z61 z62 z63 z64 z65 z66 z67 z68 z69 z70 z71 z72 z73 z74 z75 z76 z77 z78 z79 z80 z81 z82 z83 z84 z85 z86 z87 z88 z89 z90 z91 z92 z93 z94 z95 z96 z97 z98 z99 z100 z101 z102 z103 z104 z105 z106 z107 z108 z109 z110 z111 z112 z113 z114 z115 z116 z117 z118 z119 z120 z121 z122 z123 z124 z125 z126 z127 z128 z129 z130 z131 z132 z133 z134 z135 z136 z137 z138 z139 z140 z141 z142 z143 z144 z145 z146 z147 z148 z149 z150 z151 z152 z153 z154 z155 z156 z157 z158 z159 z160 z161 z162 z163 z164 z165 z166 z167 z168 z169 z170 z171 z172 z173 z174 z175 z176 z177 z178 z179 z180 z181 z182 z183 z184 z185 z186 z187 z188 z189 z190 z191 z192 z193 z194 z195 z196 z197 z198 z199 z200 z201 z202 z203 z204 z205 z206 z207 z208 z209 z210 z211 z212 z213 z214 z215 z216 z217 z218 z219 z220 z221 z222 z223 z224 z225 z226 z227 z228 z229 z230 z231 z232 z233 z234 z235 z236 z237 z238 z239 z240 z241 z242 z243 z244 z245 z246 z247 z248 z249 z250 z251 : Value) : Code.wp Tryd.prog rdTC (bodyPost Tryd.prog Tryd.f43 (fun e w' => e = .returned (.bool p) ∧ Below w.heap.size w w')) ⟨List.toArray (z0 :: z1 :: .int .i64 d :: .pointer (some ⟨w.heap.size, 0, none⟩) :: z4 :: z5 :: z6 :: .pointer (some ⟨g, 0, none⟩) :: .int .i64 a :: z9 :: .pointer (some ⟨h, 0, none⟩) :: z11 :: z12 :: z13 :: z14 :: z15 :: .int .i64 wd :: z17 :: z18 :: z19 :: z20 :: z21 :: z22 :: z23 :: z24 :: z25 :: z26 :: z27 :: z28 :: z29 :: z30 :: z31 :: z32 :: z33 :: z34 :: z35 :: z36 :: z37 :: z38 :: z39 :: z40 :: z41 :: z42 :: z43 :: z44 :: z45 :: z46 :: z47 :: z48 :: z49 :: z50 :: z51 :: z52 :: z53 :: z54 :: z55 :: z56 :: z57 :: z58 :: z59 :: z60 :: z61 :: z62 :: z63 :: z64 :: z65 :: z66 :: z67 :: z68 :: z69 :: z70 :: z71 :: z72 :: z73 :: z74 :: z75 :: z76 :: z77 :: z78 :: z79 :: z80 :: z81 :: z82 :: z83 :: z84 :: z85 :: z86 :: z87 :: z88 :: z89 :: z90 :: z91 :: z92 :: z93 :: z94 :: z95 :: z96 :: z97 :: z98 :: z99 :: z100 :: z101 :: z102 :: z103 :: z104 :: z105 :: z106 :: z107 :: z108 :: z109 :: z110 :: z111 :: z112 :: z113 :: z114 :: z115 :: z116 :: z117 :: z118 :: z119 :: z120 :: z121 :: z122 :: z123 :: z124 :: z125 :: z126 :: z127 :: z128 :: z129 :: z130 :: z131 :: z132 :: z133 :: z134 :: z135 :: z136 :: z137 :: z138 :: z139 :: z140 :: z141 :: z142 :: z143 :: z144 :: z145 :: z146 :: z147 :: z148 :: z149 :: z150 :: z151 :: z152 :: z153 :: z154 :: z155 :: z156 :: z157 :: z158 :: z159 :: z160 :: z161 :: z162 :: z163 :: z164 :: z165 :: z166 :: z167 :: z168 :: z169 :: z170 :: z171 :: z172 :: z173 :: z174 :: z175 :: z176 :: z177 :: z178 :: z179 :: z180 :: z181 :: z182 :: z183 :: z184 :: z185 :: z186 :: z187 :: z188 :: z189 :: z190 :: z191 :: z192 :: z193 :: z194 :: z195 :: z196 :: z197 :: z198 :: z199 :: z200 :: z201 :: z202 :: z203 :: z204 :: z205 :: z206 :: z207 :: z208 :: z209 :: z210 :: z211 :: z212 :: z213 :: z214 :: z215 :: z216 :: z217 :: z218 :: z219 :: z220 :: z221 :: z222 :: z223 :: z224 :: z225 :: z226 :: z227 :: z228 :: z229 :: z230 :: z231 :: z232 :: z233 :: z234 :: z235 :: z236 :: z237 :: z238 :: z239 :: z240 :: z241 :: z242 :: z243 :: z244 :: z245 :: z246 :: z247 :: z248 :: z249 :: z250 :: z251 :: []), []⟩ w1 := by
  conv => arg 2; whnf
  have a1 := DB.out.2.1.1
  have a2 := DB.out.2.1.2
  have l0 := (RB.out.2 0 _ rfl).1
  have l10 := (RB.out.2 10 _ rfl).1
  have l11 := (RB.out.2 11 _ rfl).1
  have l12 := (RB.out.2 12 _ rfl).1
  have l13 := (RB.out.2 13 _ rfl).1
  have b10 := S.out.md
  have b11 := S.out.yd
  by_cases h1 : x.yd ≠ [] ∨ x.md ≠ []
  · have hF : p = true := by rw [← HP.out, if_pos h1]
    subst hF
    have z : 0 < x.yd.length + x.md.length := by
      rcases h1 with h | h
      · have := mt List.length_eq_zero_iff.1 h; omega
      · have := mt List.length_eq_zero_iff.1 h; omega
    have z2 : (0 : Int) < (x.yd.length : Int) + (x.md.length : Int) := by omega
    have z3 : decide ((0 : Int) < (x.yd.length : Int) + (x.md.length : Int)) = true := decide_eq_true z2
    have z4 : decide (0 < x.yd.length + x.md.length) = true := decide_eq_true z
    clear h1 HP
    go_wp2
    go_ret
    exact ⟨ret_b (rfl), B.out⟩
  have e11 : x.yd = [] := Classical.not_not.1 fun h => h1 (Or.inl h)
  have e10 : x.md = [] := Classical.not_not.1 fun h => h1 (Or.inr h)
  have z11 : x.yd.length = 0 := by rw [e11]; rfl
  have z10 : x.md.length = 0 := by rw [e10]; rfl
  rw [z11] at l11
  rw [z10] at l10
  have HP : Hid ((if x.wn ≠ [] ∨ x.fq = 5 then decide (wd = Cal.wday a) else if x.fq = 6 ∨ x.fq = 7 then decide (D = D0) && (decide (x.fq = 6) || (decide (x.mo ≠ []) || decide (M = M0))) else true) = p) := Lib.hid (by rw [← HP.out, if_neg h1])
  clear h1 e11 e10 z11 z10 b10 b11
  obtain ⟨wa, hwa⟩ : ∃ k, Cal.wday a = k := ⟨_, rfl⟩
  rw [hwa] at HP
  have HWA := Lib.hid hwa
  clear hwa
  by_cases h12 : x.wn = []
  case neg =>
    have z := len_pos' h12
    have zn := Int.ofNat_lt.1 z
    have zd := decide_eq_true zn
    have hF : decide (wd = wa) = p := by rw [← HP.out, if_pos (Or.inl h12)]
    clear HP h12
    go_wp2_with fail
    refine (Civ.rweekday_any a _ (by omega) (by omega)).mono ?_
    rintro e w3 ⟨rfl, n, rfl⟩
    rw [HWA.out]
    go_wp2
    go_ret
    exact ⟨ret_b hF, bdrew B.out n⟩
  have z12 : x.wn.length = 0 := by rw [h12]; rfl
  rw [z12] at l12
  by_cases f5 : x.fq = 5
  · have hF : decide (wd = wa) = p := by rw [← HP.out, if_pos (Or.inr f5)]
    have e5 : (x.fq == 5) = true := beq_iff_eq.2 f5
    clear HP f5
    go_wp2_with fail
    refine (Civ.rweekday_any a _ (by omega) (by omega)).mono ?_
    rintro e w3 ⟨rfl, n, rfl⟩
    rw [HWA.out]
    go_wp2
    go_ret
    exact ⟨ret_b hF, bdrew B.out n⟩
  have e5 : (x.fq == 5) = false := beq_eq_false_iff_ne.2 f5
  have HP : Hid ((if x.fq = 6 ∨ x.fq = 7 then decide (D = D0) && (decide (x.fq = 6) || (decide (x.mo ≠ []) || decide (M = M0))) else true) = p) := Lib.hid (by rw [← HP.out, if_neg (show ¬ (x.wn ≠ [] ∨ x.fq = 5) by simp [h12, f5])])
  clear h12 z12 f5
  have q1 := (C.out.2 1 _ rfl).1
  have q2 := (C.out.2 2 _ rfl).1
  have r1 := (E.out.2 1 _ rfl).1
  have r2 := (E.out.2 2 _ rfl).1
  by_cases f67 : x.fq = 6 ∨ x.fq = 7
  case neg =>
    have hF : p = true := by rw [← HP.out, if_neg f67]
    subst hF
    have e6 : (x.fq == 6) = false := beq_eq_false_iff_ne.2 (fun q => f67 (Or.inl q))
    have e7 : (x.fq == 7) = false := beq_eq_false_iff_ne.2 (fun q => f67 (Or.inr q))
    clear HP f67
    go_wp2
    go_ret
    exact ⟨ret_b rfl, B.out⟩
  have HP : Hid ((decide (D = D0) && (decide (x.fq = 6) || (decide (x.mo ≠ []) || decide (M = M0)))) = p) := Lib.hid (by rw [← HP.out, if_pos f67])
  by_cases d0 : D = D0
  case neg =>
    have hF : p = false := by rw [← HP.out, decide_eq_false d0, Bool.false_and]
    subst hF
    have e0 : (D == D0) = false := beq_eq_false_iff_ne.2 d0
    clear HP d0
    rcases f67 with f6 | f7
    · have e6 : (x.fq == 6) = true := beq_iff_eq.2 f6
      clear f6
      go_wp2
      go_ret
      exact ⟨ret_b rfl, B.out⟩
    · have e6 : (x.fq == 6) = false := beq_eq_false_iff_ne.2 (by omega)
      have e7 : (x.fq == 7) = true := beq_iff_eq.2 f7
      clear f7
      go_wp2
      go_ret
      exact ⟨ret_b rfl, B.out⟩
  have HP : Hid ((decide (x.fq = 6) || (decide (x.mo ≠ []) || decide (M = M0))) = p) := Lib.hid (by rw [← HP.out, decide_eq_true d0, Bool.true_and])
  have e0 : (D == D0) = true := beq_iff_eq.2 d0
  clear d0
  by_cases f6 : x.fq = 6
  · have hF : p = true := by rw [← HP.out, decide_eq_true f6, Bool.true_or]
    subst hF
    have e6 : (x.fq == 6) = true := beq_iff_eq.2 f6
    clear HP f6 f67
    go_wp2
    go_ret
    exact ⟨ret_b rfl, B.out⟩
  have e6 : (x.fq == 6) = false := beq_eq_false_iff_ne.2 f6
  have e7 : (x.fq == 7) = true := beq_iff_eq.2 (by omega)
  have HP : Hid ((decide (x.mo ≠ []) || decide (M = M0)) = p) := Lib.hid (by rw [← HP.out, decide_eq_false f6, Bool.false_or])
  clear f6 f67
  by_cases h13 : x.mo = []
  · have z13 : x.mo.length = 0 := by rw [h13]; rfl
    rw [z13] at l13
    have hF : decide (M = M0) = p := by rw [← HP.out, decide_eq_false (not_not_intro h13), Bool.false_or]
    clear HP h13 z13
    go_wp2
    go_ret
    exact ⟨ret_b hF, B.out⟩
  · have z := len_pos' h13
    have zn := Int.ofNat_lt.1 z
    have zd := decide_eq_true zn
    have hF : p = true := by rw [← HP.out, decide_eq_true h13, Bool.true_or]
    subst hF
    clear HP h13
    go_wp2
    go_ret
    exact ⟨ret_b rfl, B.out⟩
end Fil
end Go.Proofs.YtpbdlgmkkbccmaaDoor
