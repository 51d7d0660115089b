/-
  The reference's Recur (layer 21): from its days on. (Written by gen/gen_rrl.py.)
-/
import Derived.Test.YtpbdlgmkkbccmaaDoorBdFi
namespace Go.Proofs.YtpbdlgmkkbccmaaDoor
open Go.RowKit
namespace Rrl
open Cel
open Rcv (CV IntV DayV LisV)
open Rck (ckB ckE frB eiB dyB lsB gtB nmB endB frB_iff dyB_iff Small)
noncomputable def code10 : Code := (Tryd.f13.body.bind (fromR 10)).getD .skip
set_option maxHeartbeats 25600000 in
set_option maxRecDepth 100000 in
theorem rr10 (x : CV) (a6 a7 a8 a9 a10 a11 a12 a13 a14 : Option Addr) (c6 c7 c8 c9 c10 c11 c12 c13 c14 : Nat) (r : Bool) (w w1 : World) (C : Hid (Cs w.heap.size w1 [.int .i64 x.fq, .int .i64 x.iv, .int .i64 x.ct, .bool x.un, .int .i64 x.ua, .bool x.ut, .slice a6 x.sc.length c6, .slice a7 x.mi.length c7, .slice a8 x.hr.length c8, .slice a9 x.dy.length c9, .slice a10 x.md.length c10, .slice a11 x.yd.length c11, .slice a12 x.wn.length c12, .slice a13 x.mo.length c13, .slice a14 x.sp.length c14, .int .i64 x.wk])) (L : Hid (LisV w1 x (.slice a6 x.sc.length c6) (.slice a7 x.mi.length c7) (.slice a8 x.hr.length c8) (.slice a9 x.dy.length c9) (.slice a10 x.md.length c10) (.slice a11 x.yd.length c11) (.slice a12 x.wn.length c12) (.slice a13 x.mo.length c13) (.slice a14 x.sp.length c14))) (B : Hid (Below w.heap.size w w1)) (HL : Hid (l1B x = false)) (HQ : Hid (ckB x = (dsB x.fq x.wn.length x.dy && (g1B x && g2B x)))) (HR : Hid (ckB x = r))
    (z0 z2 z3 z4 z5 z6 z7 z8 z9 z10 z11 z12 z13 z14 z15 z16 z17 z18 z19 z20 z21 z22 z23 z24 z25 z26 z27 z28 z29 z30 z31 z32 z33 z34 z35 z36 z37 z38 z39 z40 z41 z42 z43 z44 z45 z46 z47 z48 z49 z50 z51 z52 z53 z54 z55 z56 z57 z58 z59 z60 z61 z62 z63 z64 z65 z66 z67 z68 z69 z70 z71 z72 z73 z74 z75 z76 z77 z78 z79 z80 z81 z82 z83 z84 z85 z86 z87 z88 z89 z90 z91 z92 z93 z94 z95 z96 z97 z98 z99 z100 z101 z102 z103 z104 z105 z106 z107 z108 z109 z110 z111 z112 z113 z114 z115 z116 z117 z118 z119 z120 z121 z122 z123 z124 z125 z126 z127 z128 z129 z130 z131 z132 z133 z134 z135 z136 z137 z138 z139 z140 z141 z142 z143 z144 z145 z146 z147 z148 z149 z150 z151 z152 z153 z154 z155 z156 z157 z158 z159 z160 z161 z162 z163 z164 z165 z166 z167 z168 z169 z170 z171 z172 z173 z174 z175 z176 z177 z178 z179 z180 z181 z182 z183 z184 z185 z186 z187 z188 z189 z190 z191 z192 z193 z194 z195 z196 z197 z198 z199 z200 z201 z202 z203 z204 z205 z206 z207 z208 z209 z210 z211 z212 z213 z214 z215 z216 z217 z218 z219 z220 z221 z222 z223 z224 z225 z226 z227 z228 z229 z230 z231 z232 z233 z234 z235 z236 z237 z238 z239 z240 z241 z242 z243 z244 z245 z246 z247 z248 z249 z250 z251 z252 z253 z254 z255 z256 z257 z258 z259 z260 z261 z262 z263 z264 z265 z266 z267 z268 z269 z270 z271 z272 z273 z274 z275 z276 z277 z278 z279 z280 z281 z282 z283 z284 z285 z286 : Value) : Code.wp Tryd.prog code10 (bodyPost Tryd.prog Tryd.f13 (fun e w' => e = .returned (.bool r) ∧ Below w.heap.size w w')) ⟨List.toArray (z0 :: .pointer (some ⟨w.heap.size, 0, none⟩) :: z2 :: z3 :: z4 :: z5 :: z6 :: z7 :: z8 :: z9 :: z10 :: z11 :: z12 :: z13 :: z14 :: z15 :: z16 :: z17 :: z18 :: z19 :: z20 :: z21 :: z22 :: z23 :: z24 :: z25 :: z26 :: z27 :: z28 :: z29 :: z30 :: z31 :: z32 :: z33 :: z34 :: z35 :: z36 :: z37 :: z38 :: z39 :: z40 :: z41 :: z42 :: z43 :: z44 :: z45 :: z46 :: z47 :: z48 :: z49 :: z50 :: z51 :: z52 :: z53 :: z54 :: z55 :: z56 :: z57 :: z58 :: z59 :: z60 :: z61 :: z62 :: z63 :: z64 :: z65 :: z66 :: z67 :: z68 :: z69 :: z70 :: z71 :: z72 :: z73 :: z74 :: z75 :: z76 :: z77 :: z78 :: z79 :: z80 :: z81 :: z82 :: z83 :: z84 :: z85 :: z86 :: z87 :: z88 :: z89 :: z90 :: z91 :: z92 :: z93 :: z94 :: z95 :: z96 :: z97 :: z98 :: z99 :: z100 :: z101 :: z102 :: z103 :: z104 :: z105 :: z106 :: z107 :: z108 :: z109 :: z110 :: z111 :: z112 :: z113 :: z114 :: z115 :: z116 :: z117 :: z118 :: z119 :: z120 :: z121 :: z122 :: z123 :: z124 :: z125 :: z126 :: z127 :: z128 :: z129 :: z130 :: z131 :: z132 :: z133 :: z134 :: z135 :: z136 :: z137 :: z138 :: z139 :: z140 :: z141 :: z142 :: z143 :: z144 :: z145 :: z146 :: z147 :: z148 :: z149 :: z150 :: z151 :: z152 :: z153 :: z154 :: z155 :: z156 :: z157 :: z158 :: z159 :: z160 :: z161 :: z162 :: z163 :: z164 :: z165 :: z166 :: z167 :: z168 :: z169 :: z170 :: z171 :: z172 :: z173 :: z174 :: z175 :: z176 :: z177 :: z178 :: z179 :: z180 :: z181 :: z182 :: z183 :: z184 :: z185 :: z186 :: z187 :: z188 :: z189 :: z190 :: z191 :: z192 :: z193 :: z194 :: z195 :: z196 :: z197 :: z198 :: z199 :: z200 :: z201 :: z202 :: z203 :: z204 :: z205 :: z206 :: z207 :: z208 :: z209 :: z210 :: z211 :: z212 :: z213 :: z214 :: z215 :: z216 :: z217 :: z218 :: z219 :: z220 :: z221 :: z222 :: z223 :: z224 :: z225 :: z226 :: z227 :: z228 :: z229 :: z230 :: z231 :: z232 :: z233 :: z234 :: z235 :: z236 :: z237 :: z238 :: z239 :: z240 :: z241 :: z242 :: z243 :: z244 :: z245 :: z246 :: z247 :: z248 :: z249 :: z250 :: z251 :: z252 :: z253 :: z254 :: z255 :: z256 :: z257 :: z258 :: z259 :: z260 :: z261 :: z262 :: z263 :: z264 :: z265 :: z266 :: z267 :: z268 :: z269 :: z270 :: z271 :: z272 :: z273 :: z274 :: z275 :: z276 :: z277 :: z278 :: z279 :: z280 :: z281 :: z282 :: z283 :: z284 :: z285 :: z286 :: []), []⟩ w1 := by
  conv => arg 2; whnf
  have hl := of_decide_eq_false HL.out
  have b6 : x.sc.length ≤ 60 := by omega
  have b7 : x.mi.length ≤ 60 := by omega
  have b8 : x.hr.length ≤ 24 := by omega
  have b13 : x.mo.length ≤ 12 := by omega
  have b10 : x.md.length ≤ 62 := by omega
  have b11 : x.yd.length ≤ 732 := by omega
  have b12 : x.wn.length ≤ 106 := by omega
  have b14 : x.sp.length ≤ 732 := by omega
  have b9 : x.dy.length ≤ 749 := by omega
  clear hl
  obtain ⟨bx, ox, ha⟩ := day_at L.out.h9
  have HA := Lib.hid ha
  obtain ⟨n, hn⟩ : ∃ n, x.dy.length = n := ⟨_, rfl⟩
  have HN := Lib.hid hn
  clear ha hn
  go_wp2_with fail
  rename_i K21 hK21
  go_loopw [5] (fun iv wr => ∃ k : Nat, k ≤ n ∧ iv = .int .i64 k ∧ Hid (dsB x.fq x.wn.length (x.dy.take k) = true) ∧ Hid (Below w1.heap.size w1 wr)) (fun iv _ => n - (intOf iv).toNat)
  case atStart => exact ⟨0, Nat.zero_le _, rfl, Lib.hid (by rw [List.take_zero]; simp [dsB]), Lib.hid (Below.refl _ _)⟩
  case round =>
    obtain ⟨k, hk, rfl, HT, B1⟩ := hrel
    obtain ⟨wo, rfl⟩ : ∃ wo : World, wo = wr := ⟨_, rfl⟩
    have C2 := Lib.hid (C.out.below B1.out)
    have BW := Lib.hid (bstep B.out B1.out)
    have m9 := (C2.out.2 9 _ rfl).1
    by_cases hlt : k < n
    case neg =>
      obtain rfl : k = n := by omega
      rw [HN.out] at m9
      have HQ2 : Hid (ckB x = (g1B x && g2B x)) := Lib.hid (by
        have q := HT.out
        rw [← HN.out, List.take_length] at q
        rw [HQ.out, q, Bool.true_and])
      go_upto_region 11 with fail
      go_cut [172] (fun v wz => v = .bool false ∧ wo = wz)
      case first =>
        go_wp2
        go_meet
        exact ⟨rfl, rfl⟩
      case rest =>
      obtain ⟨rfl, hw⟩ := hcut
      subst hw
      go_step
      go_step
      go_step
      go_step
      go_step
      exact hK21 _ _ (rr21 x a6 a7 a8 a9 a10 a11 a12 a13 a14 c6 c7 c8 c9 c10 c11 c12 c13 c14 r w _ C2 BW HL HQ2 HR _ _ _ _ _ _ _ _ _ _ _ _ _ _ _ _ _ _ _ _ _ _ _ _ _ _ _ _ _ _ _ _ _ _ _ _ _ _ _ _ _ _ _ _ _ _ _ _ _ _ _ _ _ _ _ _ _ _ _ _ _ _ _ _ _ _ _ _ _ _ _ _ _ _ _ _ _ _ _ _ _ _ _ _ _ _ _ _ _ _ _ _ _ _ _ _ _ _ _ _ _ _ _ _ _ _ _ _ _ _ _ _ _ _ _ _ _ _ _ _ _ _ _ _ _ _ _ _ _ _ _ _ _ _ _ _ _ _ _ _ _ _ _ _ _ _ _ _ _ _ _ _ _ _ _ _ _ _ _ _ _ _ _ _ _ _ _ _ _ _ _ _ _ _ _ _ _ _ _ _ _ _ _ _ _ _ _ _ _ _ _ _ _ _ _ _ _ _ _ _ _ _ _ _ _ _ _ _ _ _ _ _ _ _ _ _ _ _ _ _ _ _ _ _ _ _ _ _ _ _ _ _ _ _ _ _ _ _ _ _ _ _ _ _ _ _ _ _ _ _ _ _ _ _ _ _ _ _ _ _ _ _ _ _ _ _ _ _ _ _ _ _ _ _ _ _ _ _ _ _ _ _ _ _ _ _)
    have hkL : k < x.dy.length := by rw [HN.out]; exact hlt
    obtain ⟨ha9, hbx, hcx⟩ := HA.out (by omega)
    obtain ⟨X, hX⟩ : ∃ a, (x.dy[k]).1 = a := ⟨_, rfl⟩
    obtain ⟨Y, hY⟩ : ∃ a, (x.dy[k]).2 = a := ⟨_, rfl⟩
    have HX : Hid (x.dy[k] = (X, Y)) := Lib.hid (Prod.ext hX hY)
    have k1 := (B1.out.cell (p := ⟨bx, ox + k * 2, none⟩) hbx).trans (hcx k hkL).1
    have k2 := (B1.out.cell (p := ⟨bx, ox + k * 2 + 1, none⟩) hbx).trans (hcx k hkL).2
    rw [hX] at k1
    rw [hY] at k2
    rw [ha9, HN.out] at m9
    clear hX hY hcx
    go_upto_region 13 with fail
    go_cut [6] (fun p wz => ∃ gd, p = .pointer (some ⟨gd, 0, none⟩) ∧ w1.heap.size ≤ gd ∧ Hid (Cs gd wz [.int .i64 X, .int .i64 Y]) ∧ Hid (Below w1.heap.size w1 wz))
    case first =>
      go_wp2
      go_meet
      exact ⟨_, rfl, B1.out.size, Lib.hid (Cs.new _ _ _), Lib.hid (B1.out.alloc B1.out.size _)⟩
    case rest =>
    obtain ⟨w2, rfl⟩ : ∃ x : World, x = wc := ⟨_, rfl⟩
    obtain ⟨gd, rfl, hgd, D, B2⟩ := hcut
    clear k1 k2 m9 B1 C2 BW
    have C3 := Lib.hid (C.out.below B2.out)
    obtain ⟨okd, hok⟩ : ∃ b, okD x.fq x.wn.length (X, Y) = b := ⟨_, rfl⟩
    have HO := Lib.hid hok
    clear hok
    go_upto_region 14 with fail
    go_cut [205] (fun v wz => v = .bool (!okd) ∧ w2 = wz)
    case first =>
      have d0 := (D.out.2 0 _ rfl).1
      have d1 := (D.out.2 1 _ rfl).1
      have m0 := (C3.out.2 0 _ rfl).1
      have m12 := (C3.out.2 12 _ rfl).1
      obtain ⟨b1, hb1⟩ : ∃ b, decide (0 ≤ Y ∧ Y ≤ 6) = b := ⟨_, rfl⟩
      obtain ⟨b2, hb2⟩ : ∃ b, decide (-53 ≤ X ∧ X ≤ 53) = b := ⟨_, rfl⟩
      have H1 := Lib.hid hb1
      have H2 := Lib.hid hb2
      clear hb1 hb2
      cases b1 with
      | false =>
        obtain rfl : okd = false := by rw [← HO.out, okD]; simp only; rw [H1.out]; rfl
        go_wp2_with (go_at_call 35; first | (with_reducible refine (rin_to Y 0 6 _ _ H1.out).mono ?_; rintro e wq ⟨rfl, rfl⟩) | (with_reducible refine (rin_to X (-53) 53 _ _ H2.out).mono ?_; rintro e wq ⟨rfl, rfl⟩))
        go_meet
        exact ⟨rfl, rfl⟩
      | true =>
      cases b2 with
      | false =>
        obtain rfl : okd = false := by rw [← HO.out, okD]; simp only; rw [H1.out, H2.out]; rfl
        go_wp2_with (go_at_call 35; first | (with_reducible refine (rin_to Y 0 6 _ _ H1.out).mono ?_; rintro e wq ⟨rfl, rfl⟩) | (with_reducible refine (rin_to X (-53) 53 _ _ H2.out).mono ?_; rintro e wq ⟨rfl, rfl⟩))
        go_meet
        exact ⟨rfl, rfl⟩
      | true =>
      by_cases x0 : X = 0
      · have x1 : (X == 0) = true := beq_iff_eq.2 x0
        have x2 : (X != 0) = false := by rw [bne, x1]; rfl
        obtain rfl : okd = true := by rw [← HO.out, okD]; simp only; rw [H1.out, H2.out, decide_eq_false (fun q => q x0)]; rfl
        clear x0
        go_wp2_with (go_at_call 35; first | (with_reducible refine (rin_to Y 0 6 _ _ H1.out).mono ?_; rintro e wq ⟨rfl, rfl⟩) | (with_reducible refine (rin_to X (-53) 53 _ _ H2.out).mono ?_; rintro e wq ⟨rfl, rfl⟩))
        go_meet
        exact ⟨rfl, rfl⟩
      have x1 : (X == 0) = false := beq_eq_false_iff_ne.2 x0
      have x2 : (X != 0) = true := by rw [bne, x1]; rfl
      by_cases x3 : x.fq < 6
      · obtain rfl : okd = false := by rw [← HO.out, okD]; simp only; rw [H1.out, H2.out, decide_eq_true x0, decide_eq_true x3]; rfl
        go_wp2_with (go_at_call 35; first | (with_reducible refine (rin_to Y 0 6 _ _ H1.out).mono ?_; rintro e wq ⟨rfl, rfl⟩) | (with_reducible refine (rin_to X (-53) 53 _ _ H2.out).mono ?_; rintro e wq ⟨rfl, rfl⟩))
        go_meet
        exact ⟨rfl, rfl⟩
      by_cases x4 : 0 < x.wn.length
      · have x5 : (0 : Int) < (x.wn.length : Int) := by omega
        obtain rfl : okd = false := by rw [← HO.out, okD]; simp only; rw [H1.out, H2.out, decide_eq_true x0, decide_eq_true x4, Bool.or_true]; rfl
        go_wp2_with (go_at_call 35; first | (with_reducible refine (rin_to Y 0 6 _ _ H1.out).mono ?_; rintro e wq ⟨rfl, rfl⟩) | (with_reducible refine (rin_to X (-53) 53 _ _ H2.out).mono ?_; rintro e wq ⟨rfl, rfl⟩))
        go_meet
        exact ⟨rfl, rfl⟩
      · have x5 : ¬ (0 : Int) < (x.wn.length : Int) := by omega
        obtain rfl : okd = true := by rw [← HO.out, okD]; simp only; rw [H1.out, H2.out, decide_eq_true x0, decide_eq_false x3, decide_eq_false x4]; rfl
        go_wp2_with (go_at_call 35; first | (with_reducible refine (rin_to Y 0 6 _ _ H1.out).mono ?_; rintro e wq ⟨rfl, rfl⟩) | (with_reducible refine (rin_to X (-53) 53 _ _ H2.out).mono ?_; rintro e wq ⟨rfl, rfl⟩))
        go_meet
        exact ⟨by simp [x3], rfl⟩
    case rest =>
    obtain ⟨rfl, hw⟩ := hcut
    subst hw
    cases okd with
    | false =>
      have hr : ckB x = false := by rw [HQ.out, ds_out hkL (by rw [HX.out]; exact HO.out)]; rfl
      rw [HR.out] at hr
      subst hr
      go_wp2
      go_ret
      exact ⟨rfl, bstep B.out B2.out⟩
    | true =>
    clear C3
    go_wp2_with fail
    go_loopw [7] (fun jv wr => ∃ j : Nat, j ≤ k ∧ jv = .int .i64 j ∧ Hid (∀ (i : Nat) (hi : i < j) (hk : k < x.dy.length) (hj : j ≤ k), x.dy[i] ≠ x.dy[k]) ∧ Hid (Cs gd wr [.int .i64 X, .int .i64 Y]) ∧ Hid (Below w1.heap.size w1 wr)) (fun jv _ => k - (intOf jv).toNat)
    case atStart => exact ⟨0, Nat.zero_le _, rfl, Lib.hid (fun i hi => by omega), D, B2⟩
    case round =>
      obtain ⟨j, hj, rfl, HJ, D3, B3⟩ := hrel
      obtain ⟨w3, rfl⟩ : ∃ wo : World, wo = wr := ⟨_, rfl⟩
      clear B2 D
      by_cases hjk : j < k
      case neg =>
        obtain rfl : j = k := by omega
        have HN2 : Hid (dsB x.fq x.wn.length (x.dy.take (j + 1)) = true) := Lib.hid (ds_next hkL HT.out (by rw [HX.out]; exact HO.out) (fun i hi => HJ.out i hi hkL (Nat.le_refl _)))
        go_wp2
        go_roundw
        case rel => exact ⟨j + 1, by omega, by go_num, HN2, B3⟩
        case measure => simp [intOf]; omega
      have hjL : j < x.dy.length := by omega
      have jn : j < n := by omega
      obtain ⟨_, _, hcx⟩ := HA.out (by omega)
      obtain ⟨X2, hX⟩ : ∃ a, (x.dy[j]).1 = a := ⟨_, rfl⟩
      obtain ⟨Y2, hY⟩ : ∃ a, (x.dy[j]).2 = a := ⟨_, rfl⟩
      have HY : Hid (x.dy[j] = (X2, Y2)) := Lib.hid (Prod.ext hX hY)
      have k1 := (B3.out.cell (p := ⟨bx, ox + j * 2, none⟩) hbx).trans (hcx j hjL).1
      have k2 := (B3.out.cell (p := ⟨bx, ox + j * 2 + 1, none⟩) hbx).trans (hcx j hjL).2
      rw [hX] at k1
      rw [hY] at k2
      have C4 := Lib.hid (C.out.below B3.out)
      have m9 := (C4.out.2 9 _ rfl).1
      rw [ha9, HN.out] at m9
      have d0 := (D3.out.2 0 _ rfl).1
      have d1 := (D3.out.2 1 _ rfl).1
      clear hX hY hcx
      by_cases he : X2 = X ∧ Y2 = Y
      · obtain ⟨rfl, rfl⟩ := he
        have hr : ckB x = false := by rw [HQ.out, ds_dup hkL hjk (by rw [HX.out, HY.out])]; rfl
        rw [HR.out] at hr
        subst hr
        clear HQ HT HA
        go_wp2_with fail
        go_quiet (fail)
        go_wp2
        go_ret
        exact ⟨rfl, bdrn (bstep B.out B3.out) _⟩
      · have HJ2 : Hid (∀ (i : Nat) (hi : i < j + 1) (hk : k < x.dy.length) (hj : j + 1 ≤ k), x.dy[i] ≠ x.dy[k]) := Lib.hid (fun i hi hk hj2 => by
          rcases Nat.lt_or_ge i j with q | q
          · exact HJ.out i q hk (by omega)
          · obtain rfl : i = j := by omega
            rw [HX.out, HY.out]
            exact fun q => he ⟨congrArg Prod.fst q, congrArg Prod.snd q⟩)
        by_cases e1 : X2 = X
        · have e2 : ¬ Y2 = Y := fun q => he ⟨e1, q⟩
          have q1 : (Y2 == Y) = false := beq_eq_false_iff_ne.2 e2
          subst e1
          clear HJ he HQ HT HA
          go_wp2_with fail
          go_quiet (fail)
          go_wp2
          go_roundw
          case rel => exact ⟨j + 1, by omega, by go_num, HJ2, Lib.hid (D3.out.drewN _), Lib.hid (bdrn B3.out _)⟩
          case measure => simp [intOf]; omega
        · have q1 : (X2 == X) = false := beq_eq_false_iff_ne.2 e1
          clear HJ he HQ HT HA
          go_wp2_with fail
          go_quiet (fail)
          go_wp2
          go_roundw
          case rel => exact ⟨j + 1, by omega, by go_num, HJ2, Lib.hid (D3.out.drewN _), Lib.hid (bdrn B3.out _)⟩
          case measure => simp [intOf]; omega
end Rrl
end Go.Proofs.YtpbdlgmkkbccmaaDoor
