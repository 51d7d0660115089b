/-
  RecurBent: what is bent is none; the law from its call of Text on. (Written by gen/gen_rbt.py.)
-/
import Derived.Test.YtbeefhmnoihmcaaGreatDoorTwnB
import Derived.Test.YtbeefhmnoihmcaaGreatDoorRrlF
import Derived.Test.YtbeefhmnoihmcaaGreatDoorRcwB
import Derived.Test.YtbeefhmnoihmcaaGreatDoorRcbH
namespace Go.Proofs.YtbeefhmnoihmcaaGreatDoor
open Go.RowKit
namespace Rbt
open Cel
open Ap (RowI Grew)
open Rcp (RowD dvL)
open Rct
open Twn (TwR)
open Rcv (CV IntV DayV LisV aggR)
open Rck (ckE ckB frB eiB dyB lsB gtB endB frB_iff dyB_iff Small)
theorem bad_of {y : CV} (h : ckB y = true → False) : ckE y = 21 := by
  cases hb : ckB y with
  | true => exact (h hb).elim
  | false => rw [ckE, hb]; rfl
theorem parts {y : CV} (h : ckB y = true) : y.fq ≤ 7 ∧ 1 ≤ y.iv ∧ 0 ≤ y.wk ∧ endB y.un y.ua y.ut y.ct = true ∧ frB 0 23 y.hr = true ∧ frB 1 12 y.mo = true ∧ eiB 31 y.md = true ∧ dyB y.dy = true ∧ gtB y = true := by
  unfold ckB at h
  simp only [Bool.and_eq_true, decide_eq_true_eq] at h
  obtain ⟨f1, f2, i1, i2, c1, c2, k1, k2, en, hls, hdy, hg⟩ := h
  unfold lsB at hls
  simp only [Bool.and_eq_true] at hls
  obtain ⟨⟨⟨⟨⟨⟨⟨hsc, hmi⟩, hhr⟩, hmo⟩, hmd⟩, hyd⟩, hwn⟩, hsp⟩ := hls
  exact ⟨f2, i1, k1, en, hhr, hmo, hmd, hdy, hg⟩
theorem bent0 (u : CV) : ckE { u with fq := 8 } = 21 := bad_of (fun h => absurd (show (8 : Int) ≤ 7 from (parts h).1) (by decide))
theorem bent1 (u : CV) : ckE { u with iv := 0 } = 21 := bad_of (fun h => absurd (show (1 : Int) ≤ 0 from (parts h).2.1) (by decide))
theorem bent2 (u : CV) : ckE { u with mo := u.mo ++ [13] } = 21 := bad_of (fun h => by
  have q := (frB_iff.1 (parts h).2.2.2.2.2.1).1 13 (by simp)
  omega)
theorem bent3 (u : CV) : ckE { u with hr := u.hr ++ [5, 5] } = 21 := bad_of (fun h => by
  have q := (frB_iff.1 (parts h).2.2.2.2.1).2
  simp only [List.nodup_append] at q
  exact absurd q.2.1 (by decide))
theorem bent4 (u : CV) : ckE { u with ct := 1, un := true, ua := 0 } = 21 := bad_of (fun h => by
  have q := (parts h).2.2.2.1
  simp [endB] at q)
theorem bent5 (u : CV) : ckE ⟨u.fq, u.iv, 0, false, 0, false, [], [], [], [], [], [], [], [], [1], 0⟩ = 21 := bad_of (fun h => by
  have q := (parts h).2.2.2.2.2.2.2.2
  simp [gtB] at q)
theorem bent6 (u : CV) : ckE { u with md := u.md ++ [0] } = 21 := bad_of (fun h => by
  have q := (parts h).2.2.2.2.2.2.1
  simp [eiB] at q
  exact absurd rfl (q.1 0 (Or.inr rfl)))
theorem bent7 (u : CV) : ckE { u with dy := u.dy ++ [(0, 7)] } = 21 := bad_of (fun h => by
  have q := (dyB_iff.1 (parts h).2.2.2.2.2.2.2.1).1 (0, 7) (by simp)
  simp at q)
theorem bent8 (u : CV) : ckE { u with wk := -1 } = 21 := bad_of (fun h => absurd (show (0 : Int) ≤ -1 from (parts h).2.2.1) (by decide))
theorem bent9 (u : CV) : ckE { u with un := false, ut := true, ua := 0 } = 21 := bad_of (fun h => by
  have q := (parts h).2.2.2.1
  simp [endB] at q)
theorem cs_grew {g B : Nat} {v : Value} {w w' : World} {vs : List Value} (h : Cs g w vs) (hg : Grew B v w w') (hne : some g ≠ v.ownBlock) : Cs g w' vs :=
  ⟨Nat.lt_of_lt_of_le h.1 hg.size, fun i x hi => ⟨(hg.cell (p := ⟨g, i, none⟩) h.1 hne).trans (h.2 i x hi).1, (hg.frozen (p := ⟨g, i, none⟩) h.1 hne).trans (h.2 i x hi).2⟩⟩
theorem sm3 {y : CV} (h : Len3 y) : Small y := by
  obtain ⟨h1, h2, h3, h4, h5, h6, h7, h8, h9⟩ := h
  exact ⟨by omega, by omega, by omega, by omega, by omega, by omega, by omega, by omega, by omega⟩
noncomputable def code24 : Code := (Tryz.f3.body.bind (Rct.fromK 24)).getD .skip
set_option maxHeartbeats 25600000 in
set_option maxRecDepth 100000 in
theorem bt24 (r : CV) (p6 p7 p8 p9 p10 p11 p12 p13 p14 : Value) (g1 gx : Nat) (w w1 : World) (TT : Hid (Tabs w)) (UR : Hid (-9223372036854775808 ≤ r.ua ∧ r.ua ≤ 9223372036854775807)) (KR : Hid (ckE r = 0)) (AR : Hid (Len3 r)) (L0 : Hid (LisV w r p6 p7 p8 p9 p10 p11 p12 p13 p14)) (CR : Hid (Cs g1 w1 [.int .i64 r.fq, .int .i64 r.iv, .int .i64 r.ct, .bool r.un, .int .i64 r.ua, .bool r.ut, p6, p7, p8, p9, p10, p11, p12, p13, p14, .int .i64 r.wk])) (BB : Hid (Below w.heap.size w w1)) (y : CV) (y6 y7 y8 y9 y10 y11 y12 y13 y14 : Value) (KY : Hid (ckE y = 21)) (UY : Hid (-9223372036854775808 ≤ y.ua ∧ y.ua ≤ 9223372036854775807)) (AY : Hid (Len3 y)) (LY : Hid (LisV w1 y y6 y7 y8 y9 y10 y11 y12 y13 y14)) (CY : Hid (Cs gx w1 [.int .i64 y.fq, .int .i64 y.iv, .int .i64 y.ct, .bool y.un, .int .i64 y.ua, .bool y.ut, y6, y7, y8, y9, y10, y11, y12, y13, y14, .int .i64 y.wk]))
    (z0 z1 z3 z4 z6 z7 z8 z9 z10 z11 z12 z13 z14 z15 z16 z17 z18 z19 z20 z21 z22 z23 z24 z25 z26 z27 z28 z29 z30 z31 z32 z33 z34 z35 z36 z37 z38 z39 z40 z41 z42 z43 z44 z45 z46 z47 z48 z49 z50 z51 z52 z53 z54 z55 z56 z57 z58 z59 z60 z61 z62 z63 z64 z65 z66 z67 z68 z69 z70 z71 z72 z73 z74 z75 z76 z77 z78 z79 z80 z81 z82 z83 z84 z85 z86 z87 z88 z89 z90 z91 z92 z93 z94 z95 z96 z97 : Value) : Code.wp Tryz.prog code24 (bodyPost Tryz.prog Tryz.f3 (fun e w' => e = .returned (.bool true) ∧ Below w.heap.size w w')) ⟨List.toArray (z0 :: z1 :: .pointer (some ⟨g1, 0, none⟩) :: z3 :: z4 :: .pointer (some ⟨gx, 0, none⟩) :: z6 :: z7 :: z8 :: z9 :: z10 :: z11 :: z12 :: z13 :: z14 :: z15 :: z16 :: z17 :: z18 :: z19 :: z20 :: z21 :: z22 :: z23 :: z24 :: z25 :: z26 :: z27 :: z28 :: z29 :: z30 :: z31 :: z32 :: z33 :: z34 :: z35 :: z36 :: z37 :: z38 :: z39 :: z40 :: z41 :: z42 :: z43 :: z44 :: z45 :: z46 :: z47 :: z48 :: z49 :: z50 :: z51 :: z52 :: z53 :: z54 :: z55 :: z56 :: z57 :: z58 :: z59 :: z60 :: z61 :: z62 :: z63 :: z64 :: z65 :: z66 :: z67 :: z68 :: z69 :: z70 :: z71 :: z72 :: z73 :: z74 :: z75 :: z76 :: z77 :: z78 :: z79 :: z80 :: z81 :: z82 :: z83 :: z84 :: z85 :: z86 :: z87 :: z88 :: z89 :: z90 :: z91 :: z92 :: z93 :: z94 :: z95 :: z96 :: z97 :: []), []⟩ w1 := by
  conv => arg 2; whnf
  have TXH : Hid (txP y = ([], 21)) := Lib.hid (by rw [txP, KY.out, if_pos (by decide)])
  obtain ⟨Z, hZ⟩ : ∃ Z : ByteArray, ⟨([] : List UInt8).toArray⟩ = Z := ⟨_, rfl⟩
  have ez : (Z.toList == []) = true := by rw [← hZ, Lib.toList_data]; rfl
  have ez2 : Z.toList.isEmpty = true := by rw [← hZ, Lib.toList_data]; rfl
  have HZ := Lib.hid hZ
  clear hZ
  go_upto_region 24 with fail
  go_cut [6, 7] (fun v e wz => v = .string Z ∧ e = .int .i64 21 ∧ Hid (Cs gx wz [.int .i64 y.fq, .int .i64 y.iv, .int .i64 y.ct, .bool y.un, .int .i64 y.ua, .bool y.ut, y6, y7, y8, y9, y10, y11, y12, y13, y14, .int .i64 y.wk]) ∧ Hid (LisV wz y y6 y7 y8 y9 y10 y11 y12 y13 y14) ∧ Hid (Cs g1 wz [.int .i64 r.fq, .int .i64 r.iv, .int .i64 r.ct, .bool r.un, .int .i64 r.ua, .bool r.ut, p6, p7, p8, p9, p10, p11, p12, p13, p14, .int .i64 r.wk]) ∧ Hid (Below w.heap.size w wz))
  case first =>
    go_wp2_with (refine kn_load CY.out rfl (by rfl) (by rfl) (by rfl) ?_; intro K hK; go_simp)
    refine (tx_to y6 y7 y8 y9 y10 y11 y12 y13 y14 y [] 21 _ (TT.out.stays BB.out).2.2.2.2 (TT.out.stays BB.out).2.1 (TT.out.stays BB.out).2.2.1 (TT.out.stays BB.out).2.2.2.1 UY.out.1 UY.out.2 LY AY TXH).mono ?_
    rintro e v ⟨rfl, k⟩
    rw [HZ.out]
    go_wp2
    go_meet
    exact ⟨rfl, rfl, Lib.hid (CY.out.below k), Lib.hid (LY.out.below k), Lib.hid (CR.out.below k), Lib.hid (bstep BB.out k)⟩
  case rest =>
  obtain ⟨w2, rfl⟩ : ∃ x : World, x = wc := ⟨_, rfl⟩
  clear CY LY CR BB
  obtain ⟨rfl, rfl, CY, LY, CR, BB⟩ := hcut
  go_wp2_with (refine kn_load CR.out rfl (by rfl) (by rfl) (by rfl) ?_; intro K hK; go_simp)
  refine (Rck.ck_to p6 p7 p8 p9 p10 p11 p12 p13 p14 r 0 _ (TT.out.stays BB.out).2.2.2.1 UR.out.1 UR.out.2 (Lib.hid (L0.out.below BB.out)) (Lib.hid (sm3 AR.out)) KR).mono ?_
  rintro e v3 ⟨rfl, k⟩
  have CY := Lib.hid (CY.out.below k)
  have LY := Lib.hid (LY.out.below k)
  have BB := Lib.hid (bstep BB.out k)
  clear k CR
  go_wp2_with (refine kn_load CY.out rfl (by rfl) (by rfl) (by rfl) ?_; intro K hK; go_simp)
  refine (Rck.ck_to y6 y7 y8 y9 y10 y11 y12 y13 y14 y 21 _ (TT.out.stays BB.out).2.2.2.1 UY.out.1 UY.out.2 LY (Lib.hid (sm3 AY.out)) KY).mono ?_
  rintro e v4 ⟨rfl, k⟩
  have BB := Lib.hid (bstep BB.out k)
  clear k CY LY
  go_wp2_with fail
  refine (wakes21_any _ (TT.out.stays BB.out)).mono ?_
  rintro e v5 ⟨rfl, k⟩
  go_wp2
  go_ret
  exact ⟨rfl, bstep BB.out k⟩
end Rbt
end Go.Proofs.YtbeefhmnoihmcaaGreatDoor
