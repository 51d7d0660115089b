/-
  FilterExact: its tail, of a right rule.
-/
import Derived.Test.YtpbdlgmkkbccmaaDoorFilAJ
import Derived.Test.YtpbdlgmkkbccmaaDoorBdFg
import Derived.Test.YtpbdlgmkkbccmaaDoorFilQ
namespace Go.Proofs.YtpbdlgmkkbccmaaDoor
open Go.RowKit
namespace Fil
open Rcv (CV LisV IntV DayV)
open Rck (ckE ckB Small)
open Civ (numV numE dY dM dD dnE ydV Ahead)
open Cel
/-- The reference's Lets, whole. -/
theorem rlets_v (x : CV) (s6 s7 s8 s9 s10 s11 s12 s13 s14 : Value) (A T : Int) (b : Bool) (w : World) (hl : LisV w x s6 s7 s8 s9 s10 s11 s12 s13 s14) (hs : Small x) (hc : ckB x = true) (ha : moO A = true) (ht : moO T = true) (i1 : -9223372036854775808 ≤ A) (i2 : A ≤ 9223372036854775807) (j1 : -9223372036854775808 ≤ T) (j2 : T ≤ 9223372036854775807) (hb : Hid (letQ x A T = b)) :
    Calls Tryd.prog 17 #[.agg #[.int .i64 x.fq, .int .i64 x.iv, .int .i64 x.ct, .bool x.un, .int .i64 x.ua, .bool x.ut, s6, s7, s8, s9, s10, s11, s12, s13, s14, .int .i64 x.wk], .int .i64 A, .int .i64 T] w fun e w' => e = .returned (.bool b) ∧ Below w.heap.size w w' := by
  have td := mo_bd ht
  have hd : -719162 ≤ T / 86400 ∧ T / 86400 < 2932897 := ⟨td.1, td.2.1⟩
  have kk := ck_wk hc
  refine (rlets_to x s6 s7 s8 s9 s10 s11 s12 s13 s14 A T _ _ _ _ w hl hs i1 i2 j1 j2 (fun W hW => rday_to x s6 s7 s8 s9 s10 s11 s12 s13 s14 A (T / 86400) _ W (hl.below hW) hs hc ha hd (Lib.hid rfl)) (Lib.hid rfl) (Lib.hid rfl) (Lib.hid rfl)).mono ?_
  rintro e w' ⟨rfl, hB⟩
  refine ⟨?_, hB⟩
  rw [dayR_is hc hd (fun _ => wkN_is kk hd), ← hb.out, letQ, lcB]
  have key : ∀ a b c d e f : Bool, ((a && (b && c)) && (d && (e && f))) = ((f && (e && d)) && (a && (b && c))) := by decide
  rw [key]
noncomputable def fexTC : Code := (Tryd.f3.body.bind (Tl.from_ 11)).getD .skip
set_option maxHeartbeats 25600000 in
set_option maxRecDepth 100000 in
theorem fexT (x : CV) (a6 a7 a8 a9 a10 a11 a12 a13 a14 : Option Addr) (c6 c7 c8 c9 c10 c11 c12 c13 c14 : Nat) (S T P n e a b f : Int) (l : Bool) (w w1 : World) (HA : Hid (Ahead w)) (L : Hid (LisV w x (.slice a6 x.sc.length c6) (.slice a7 x.mi.length c7) (.slice a8 x.hr.length c8) (.slice a9 x.dy.length c9) (.slice a10 x.md.length c10) (.slice a11 x.yd.length c11) (.slice a12 x.wn.length c12) (.slice a13 x.mo.length c13) (.slice a14 x.sp.length c14))) (SM : Hid (Small x)) (HKB : Hid (ckB x = true)) (BS : Hid ((-9223372036854775808 ≤ S ∧ S ≤ 9223372036854775807) ∧ (-9223372036854775808 ≤ T ∧ T ≤ 9223372036854775807))) (PV : Hid (perV x T = n)) (PE : Hid (perE x T = e)) (HL : Hid (letP x S T = l)) (SF : Hid (spF x P = a)) (ST : Hid (spT x P = b)) (SE : Hid (spE x P = f)) (RB : Hid (Cs w.heap.size w1 [.int .i64 x.fq, .int .i64 x.iv, .int .i64 x.ct, .bool x.un, .int .i64 x.ua, .bool x.ut, .slice a6 x.sc.length c6, .slice a7 x.mi.length c7, .slice a8 x.hr.length c8, .slice a9 x.dy.length c9, .slice a10 x.md.length c10, .slice a11 x.yd.length c11, .slice a12 x.wn.length c12, .slice a13 x.mo.length c13, .slice a14 x.sp.length c14, .int .i64 x.wk])) (B : Hid (Below w.heap.size w w1)) (z0 z5 z6 z7 z8 z9 z16 z17 z18 z19 z20 z21 z22 z23 z24 z25 z26 z27 z28 z29 z30 z31 z32 z33 z34 z35 z36 z37 z38 z39 z40 z41 z42 z43 z44 z45 z46 z47 z48 z49 z50 z51 z52 z53 z54 z55 z56 z57 z58 z59 z60 z61 z62 z63 z64 z65 z66 z67 z68 z69 z70 z71 z72 z73 z74 z75 z76 z77 z78 z79 z80 z81 z82 z83 z84 z85 z86 z87 z88 z89 z90 z91 z92 z93 z94 z95 z96 z97 z98 z99 z100 z101 z102 z103 z104 z105 z106 z107 z108 z109 z110 z111 z112 z113 z114 z115 z116 z117 z118 z119 z120 z121 z122 z123 z124 z125 z126 z127 z128 z129 z130 z131 z132 z133 z134 z135 z136 z137 z138 z139 z140 z141 z142 z143 z144 z145 z146 z147 z148 z149 : Value) : Code.wp Tryd.prog fexTC (bodyPost Tryd.prog Tryd.f3 (fun e w' => e = .returned (.bool true) ∧ Below w.heap.size w w')) ⟨List.toArray (z0 :: .int .i64 S :: .int .i64 T :: .int .i64 P :: .pointer (some ⟨w.heap.size, 0, none⟩) :: z5 :: z6 :: z7 :: z8 :: z9 :: .int .i64 n :: .int .i64 e :: .bool l :: .int .i64 a :: .int .i64 b :: .int .i64 f :: z16 :: z17 :: z18 :: z19 :: z20 :: z21 :: z22 :: z23 :: z24 :: z25 :: z26 :: z27 :: z28 :: z29 :: z30 :: z31 :: z32 :: z33 :: z34 :: z35 :: z36 :: z37 :: z38 :: z39 :: z40 :: z41 :: z42 :: z43 :: z44 :: z45 :: z46 :: z47 :: z48 :: z49 :: z50 :: z51 :: z52 :: z53 :: z54 :: z55 :: z56 :: z57 :: z58 :: z59 :: z60 :: z61 :: z62 :: z63 :: z64 :: z65 :: z66 :: z67 :: z68 :: z69 :: z70 :: z71 :: z72 :: z73 :: z74 :: z75 :: z76 :: z77 :: z78 :: z79 :: z80 :: z81 :: z82 :: z83 :: z84 :: z85 :: z86 :: z87 :: z88 :: z89 :: z90 :: z91 :: z92 :: z93 :: z94 :: z95 :: z96 :: z97 :: z98 :: z99 :: z100 :: z101 :: z102 :: z103 :: z104 :: z105 :: z106 :: z107 :: z108 :: z109 :: z110 :: z111 :: z112 :: z113 :: z114 :: z115 :: z116 :: z117 :: z118 :: z119 :: z120 :: z121 :: z122 :: z123 :: z124 :: z125 :: z126 :: z127 :: z128 :: z129 :: z130 :: z131 :: z132 :: z133 :: z134 :: z135 :: z136 :: z137 :: z138 :: z139 :: z140 :: z141 :: z142 :: z143 :: z144 :: z145 :: z146 :: z147 :: z148 :: z149 :: []), []⟩ w1 := by
  conv => arg 2; whnf
  obtain ⟨q, hq⟩ : ∃ q, spQ x P = q := ⟨_, rfl⟩
  have HQ := Lib.hid hq
  have HF : f = if q = true then 0 else 23 := by rw [← SE.out, spE, if_pos HKB.out, hq]
  obtain ⟨o1, h1⟩ : ∃ z, moO S = z := ⟨_, rfl⟩
  obtain ⟨o2, h2⟩ : ∃ z, moO T = z := ⟨_, rfl⟩
  have O1 := Lib.hid h1
  have O2 := Lib.hid h2
  obtain ⟨lq, hlq⟩ : ∃ z, letQ x S T = z := ⟨_, rfl⟩
  have LQ := Lib.hid hlq
  have HL : Hid (l = (o1 && (o2 && lq))) := Lib.hid (by rw [← HL.out, letP, HKB.out, h1, h2, hlq]; rfl)
  have HE : Hid (e = if o2 = true then 0 else 23) := Lib.hid (by rw [← PE.out, perE, if_pos HKB.out, h2])
  have HFF := Lib.hid HF
  clear hq HF h1 h2 hlq PE SE
  go_upto_region 11 with fail
  go_cut [16, 17, 18] (fun u v d wz => u = .int .i64 a ∧ v = .int .i64 b ∧ d = .bool q ∧ Hid (Cs w.heap.size wz [.int .i64 x.fq, .int .i64 x.iv, .int .i64 x.ct, .bool x.un, .int .i64 x.ua, .bool x.ut, .slice a6 x.sc.length c6, .slice a7 x.mi.length c7, .slice a8 x.hr.length c8, .slice a9 x.dy.length c9, .slice a10 x.md.length c10, .slice a11 x.yd.length c11, .slice a12 x.wn.length c12, .slice a13 x.mo.length c13, .slice a14 x.sp.length c14, .int .i64 x.wk]) ∧ Hid (Below w.heap.size w wz))
  case first =>
    clear HFF HL HE
    go_wp2_with (refine ld16 RB.out rfl (by rfl) (by rfl) (by rfl) ?_; intro K hK; go_simp)
    refine (rspan_to x _ _ _ _ _ _ _ _ _ P a b q _ (L.out.below B.out).h12 HKB.out SF ST HQ).mono ?_
    rintro e w2 ⟨rfl, k⟩
    have RB := Lib.hid (RB.out.below k)
    have B := Lib.hid (bstep B.out k)
    clear k
    go_wp2
    go_meet
    exact ⟨rfl, rfl, rfl, RB, B⟩
  case rest =>
  obtain ⟨w2, rfl⟩ : ∃ x : World, x = wc := ⟨_, rfl⟩
  clear RB B
  obtain ⟨rfl, rfl, rfl, RB, B⟩ := hcut
  go_upto_region 12 with fail
  go_cut [104] (fun v wz => v = .bool false ∧ Hid (Cs w.heap.size wz [.int .i64 x.fq, .int .i64 x.iv, .int .i64 x.ct, .bool x.un, .int .i64 x.ua, .bool x.ut, .slice a6 x.sc.length c6, .slice a7 x.mi.length c7, .slice a8 x.hr.length c8, .slice a9 x.dy.length c9, .slice a10 x.md.length c10, .slice a11 x.yd.length c11, .slice a12 x.wn.length c12, .slice a13 x.mo.length c13, .slice a14 x.sp.length c14, .int .i64 x.wk]) ∧ Hid (Below w.heap.size w wz))
  case first =>
    clear HL HE
    cases q with
    | true =>
      obtain rfl : f = 0 := HFF.out
      clear HFF
      go_wp2
      go_meet
      exact ⟨rfl, RB, B⟩
    | false =>
      obtain rfl : f = 23 := HFF.out
      clear HFF
      go_wp2
      go_meet
      exact ⟨rfl, RB, B⟩
  case rest =>
  obtain ⟨w3, rfl⟩ : ∃ x : World, x = wc := ⟨_, rfl⟩
  clear RB B HFF
  obtain ⟨rfl, RB, B⟩ := hcut
  go_upto_region 14 with fail
  go_cut [20] (fun v wz => v = .bool o1 ∧ Hid (Cs w.heap.size wz [.int .i64 x.fq, .int .i64 x.iv, .int .i64 x.ct, .bool x.un, .int .i64 x.ua, .bool x.ut, .slice a6 x.sc.length c6, .slice a7 x.mi.length c7, .slice a8 x.hr.length c8, .slice a9 x.dy.length c9, .slice a10 x.md.length c10, .slice a11 x.yd.length c11, .slice a12 x.wn.length c12, .slice a13 x.mo.length c13, .slice a14 x.sp.length c14, .int .i64 x.wk]) ∧ Hid (Below w.heap.size w wz))
  case first =>
    clear HL HE
    go_wp2_with fail
    refine (years_b S o1 _ BS.out.1.1 BS.out.1.2 O1.out).mono ?_
    rintro e w4 ⟨Y, M, D, rfl, k⟩
    have RB := Lib.hid (RB.out.below k)
    have B := Lib.hid (bstep B.out k)
    clear k
    go_wp2
    go_meet
    exact ⟨rfl, Lib.hid (RB.out.alloc _), Lib.hid (B.out.alloc B.out.size _)⟩
  case rest =>
  obtain ⟨w5, rfl⟩ : ∃ x : World, x = wc := ⟨_, rfl⟩
  clear RB B
  obtain ⟨rfl, RB, B⟩ := hcut
  go_upto_region 15 with fail
  go_cut [22] (fun v wz => v = .bool o2 ∧ Hid (Cs w.heap.size wz [.int .i64 x.fq, .int .i64 x.iv, .int .i64 x.ct, .bool x.un, .int .i64 x.ua, .bool x.ut, .slice a6 x.sc.length c6, .slice a7 x.mi.length c7, .slice a8 x.hr.length c8, .slice a9 x.dy.length c9, .slice a10 x.md.length c10, .slice a11 x.yd.length c11, .slice a12 x.wn.length c12, .slice a13 x.mo.length c13, .slice a14 x.sp.length c14, .int .i64 x.wk]) ∧ Hid (Below w.heap.size w wz))
  case first =>
    clear HL HE
    go_wp2_with fail
    refine (years_b T o2 _ BS.out.2.1 BS.out.2.2 O2.out).mono ?_
    rintro e w4 ⟨Y, M, D, rfl, k⟩
    have RB := Lib.hid (RB.out.below k)
    have B := Lib.hid (bstep B.out k)
    clear k
    go_wp2
    go_meet
    exact ⟨rfl, Lib.hid (RB.out.alloc _), Lib.hid (B.out.alloc B.out.size _)⟩
  case rest =>
  obtain ⟨w6, rfl⟩ : ∃ x : World, x = wc := ⟨_, rfl⟩
  clear RB B
  obtain ⟨rfl, RB, B⟩ := hcut
  go_upto_region 16 with fail
  go_cut [126] (fun v wz => v = .bool false ∧ Hid (Cs w.heap.size wz [.int .i64 x.fq, .int .i64 x.iv, .int .i64 x.ct, .bool x.un, .int .i64 x.ua, .bool x.ut, .slice a6 x.sc.length c6, .slice a7 x.mi.length c7, .slice a8 x.hr.length c8, .slice a9 x.dy.length c9, .slice a10 x.md.length c10, .slice a11 x.yd.length c11, .slice a12 x.wn.length c12, .slice a13 x.mo.length c13, .slice a14 x.sp.length c14, .int .i64 x.wk]) ∧ Hid (Below w.heap.size w wz))
  case first =>
    clear HE
    cases o1 with
    | false =>
      obtain rfl : l = false := HL.out
      clear HL
      go_wp2
      go_meet
      exact ⟨rfl, RB, B⟩
    | true =>
    cases o2 with
    | false =>
      obtain rfl : l = false := HL.out
      clear HL
      go_wp2
      go_meet
      exact ⟨rfl, RB, B⟩
    | true =>
    obtain rfl : l = lq := HL.out
    clear HL
    go_wp2_with (refine ld16 RB.out rfl (by rfl) (by rfl) (by rfl) ?_; intro K hK; go_simp)
    refine (rlets_v x _ _ _ _ _ _ _ _ _ S T l _ (L.out.below B.out) SM.out HKB.out O1.out O2.out BS.out.1.1 BS.out.1.2 BS.out.2.1 BS.out.2.2 LQ).mono ?_
    rintro e w4 ⟨rfl, k⟩
    have RB := Lib.hid (RB.out.below k)
    have B := Lib.hid (bstep B.out k)
    clear k
    cases l with
    | true =>
      go_wp2
      go_meet
      exact ⟨rfl, RB, B⟩
    | false =>
      go_wp2
      go_meet
      exact ⟨rfl, RB, B⟩
  case rest =>
  obtain ⟨w7, rfl⟩ : ∃ x : World, x = wc := ⟨_, rfl⟩
  clear RB B HL
  obtain ⟨rfl, RB, B⟩ := hcut
  cases o2 with
  | false =>
    obtain rfl : e = 23 := HE.out
    have hn : n = 0 := by rw [← PV.out, perV, if_neg (show ¬ (ckB x = true ∧ moO T = true) from fun h => by rw [O2.out] at h; exact absurd h.2 (by decide))]
    subst hn
    clear HE
    go_wp2_with fail
    refine (wakes22_any _ (HA.out.stays B.out)).mono ?_
    rintro e w13 ⟨rfl, k⟩
    go_wp2
    go_ret
    exact ⟨ret_b rfl, bstep B.out k⟩
  | true =>
    obtain rfl : e = 0 := HE.out
    have HP : Hid (perQ x T = n) := Lib.hid (by rw [← PV.out, perV, if_pos ⟨HKB.out, O2.out⟩])
    clear HE
    go_wp2_with (refine ld16 RB.out rfl (by rfl) (by rfl) (by rfl) ?_; intro K hK; go_simp)
    refine (rper_to x _ _ _ _ _ _ _ _ _ T n _ (L.out.below B.out).h12 HKB.out O2.out HP).mono ?_
    rintro e w4 ⟨rfl, k⟩
    have RB := Lib.hid (RB.out.below k)
    have B := Lib.hid (bstep B.out k)
    clear k
    go_wp2_with fail
    refine (wakes22_any _ (HA.out.stays B.out)).mono ?_
    rintro e w13 ⟨rfl, k⟩
    go_wp2
    go_ret
    exact ⟨ret_b rfl, bstep B.out k⟩
end Fil
end Go.Proofs.YtpbdlgmkkbccmaaDoor
