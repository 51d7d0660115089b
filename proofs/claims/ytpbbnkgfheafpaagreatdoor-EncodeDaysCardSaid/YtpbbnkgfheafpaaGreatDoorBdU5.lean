/-
  Several texts in one (RruQB, RruQ, RruS).
-/
import Derived.Test.YtpbbnkgfheafpaaGreatDoorBdU4
import Derived.Test.YtpbbnkgfheafpaaGreatDoorBdCl
/-
  Package rrule: Times, up to its loop.
-/
namespace Go.Proofs.YtpbbnkgfheafpaaGreatDoor
open Go.RowKit
namespace Rru
open Rcv (CV IntV DayV LisV)
open Ap (RowI Grew)
open Rck (Small ckB)
open Civ (Ahead)
open Fil (spE spT spF spQ perV perE perQ per_to span_to moO mo_bd)
open Cel
def wiB (n : Int) : Bool := decide (-4611686018427387904 ≤ n ∧ n ≤ 4611686018427387904)
def arB (fr tt fuel : Int) : Bool := decide (tt < fr) || (!wiB fr || (!wiB tt || (decide (fuel < 0) || decide (200000 < fuel))))
/-- What is gone through: the cost and the times; none, if there is not fuel enough. -/
def tmR (x : CV) (st fr tt fuel : Int) : Option (Int × List Int) :=
  if (fsF x (perV x st) fr).2 = true then goT x st fr tt fuel (fuel.toNat + 2) (fsF x (perV x st) fr).1 0 (1, tkL fr tt st []) else some (0, tkL fr tt st [])
/-- An error number, the cost, the times. -/
def outX : Option (Int × List Int) → Int × Int × List Int
  | none => (22, 0, [])
  | some q => (0, q.1, q.2)
def erX (n : Int) : Int × Int × List Int := (n, 0, [])
def tmX (x : CV) (st fr tt fuel : Int) : Int × Int × List Int :=
  if perE x st ≠ 0 then erX (perE x st) else if arB fr tt fuel = true then erX 1 else outX (tmR x st fr tt fuel)
theorem pre18g {g : Nat} {w : World} {v0 v1 v2 v3 v4 v5 v6 v7 v8 v9 v10 v11 v12 v13 v14 v15 v16 v17 : Value} {fr tt told : Int} {lv : Value} (C : Cs g w (gat [v0, v1, v2, v3, v4, v5, v6, v7, v8, v9, v10, v11, v12, v13, v14, v15, v16, v17] fr tt lv told)) : w.rangeAt g 0 [v0, v1, v2, v3, v4, v5, v6, v7, v8, v9, v10, v11, v12, v13, v14, v15, v16, v17] := fun j v hj => by
  rw [Nat.zero_add]
  exact (C.2 j v (gat_lo hj)).1
theorem load_b (g : Nat) (n : Int) (w : World) (hc : w.cell? ⟨g, 0, none⟩ = some (.int .i64 n)) :
    Calls Tryz.prog 34 #[.pointer (some ⟨g, 0, none⟩)] w fun e w' => e = .returned (.int .i64 n) ∧ Below w.heap.size w w' :=
  (load_to g n w hc).mono fun _ _ ⟨h, k⟩ => ⟨h, by rw [k]; exact Below.refl _ _⟩
theorem go_stop {x : CV} {st fr tt fuel p c told : Int} {m : Nat} {O : List Int} {sm fb : Bool} {X : Int × Int × List Int} (h : X = outX (if sm = true then goT x st fr tt fuel m p c (told, O) else some (c, O))) (hb : (sm && !fb) = false) (hf : fuB x told = fb) (hc : c ≤ fuel ∧ fuel + 2 ≤ m + c) : X = (0, c, O) := by
  rw [h]
  cases sm with
  | false => rfl
  | true =>
    obtain ⟨m', rfl⟩ : ∃ m', m = m' + 1 := ⟨m - 1, by omega⟩
    have : fb = true := by simpa using hb
    rw [if_pos rfl, goT, if_pos (by rw [hf, this])]
    rfl
theorem go_next {x : CV} {st fr tt fuel p c told : Int} {m : Nat} {O : List Int} {sm fb : Bool} {X : Int × Int × List Int} (h : X = outX (if sm = true then goT x st fr tt fuel m p c (told, O) else some (c, O))) (hb : (sm && !fb) = true) (hf : fuB x told = fb) (hc : c ≤ fuel ∧ fuel + 2 ≤ m + c) : sm = true ∧ ∃ m', m = m' + 1 ∧ X = outX (if beB x tt p = true then some (c, O) else
      if fuel < c + (1 + ((bsL x st (s0F x st) (spF x p) (spT x p)).length : Int) * ((scL x st).length : Int)) then none else
        goT x st fr tt fuel m' (p + x.iv) (c + (1 + ((bsL x st (s0F x st) (spF x p) (spT x p)).length : Int) * ((scL x st).length : Int))) (perS x st fr tt (gaL x st (spF x p) (spT x p)) (told, O))) := by
  rw [Bool.and_eq_true, Bool.not_eq_true'] at hb
  refine ⟨hb.1, m - 1, by omega, ?_⟩
  obtain ⟨m', rfl⟩ : ∃ m', m = m' + 1 := ⟨m - 1, by omega⟩
  rw [h, if_pos hb.1, goT, if_neg (by rw [hf, hb.2]; decide)]
  rfl
theorem spe_p {x : CV} {p : Int} (h : spE x p = 0) : -1099511627776 ≤ p ∧ p ≤ 1099511627776 := by
  rw [spE] at h
  split at h
  · split at h
    · rename_i hq
      have := (Fil.spQ_iff.1 hq).1
      rw [Fil.farB] at this
      have := of_decide_eq_false this
      omega
    · exact absurd h (by decide)
  · exact absurd h (by decide)
theorem iv_bd {x : CV} (h : ckB x = true) : 1 ≤ x.iv ∧ x.iv ≤ 1000 := by
  unfold ckB at h
  simp only [Bool.and_eq_true, decide_eq_true_eq] at h
  omega
theorem fu_bd {fr tt fuel : Int} (h : arB fr tt fuel = false) : 0 ≤ fuel ∧ fuel ≤ 200000 := by
  rw [arB] at h
  simp only [Bool.or_eq_false_iff, decide_eq_false_iff_not] at h
  omega
noncomputable def tmBC : Code := (Tryz.f10.body.bind (Tl.from_ 9)).getD .skip
set_option maxHeartbeats 25600000 in
set_option maxRecDepth 100000 in
theorem tmB (x : CV) (a6 a7 a8 a9 a10 a11 a12 a13 a14 : Option Addr) (c6 c7 c8 c9 c10 c11 c12 c13 c14 : Nat) (st fr tt fuel n : Int) (sb sc gg gm : Nat) (lv : Value) (O0 : List Int) (SL : List Int) (X : Int × Int × List Int) (w w4 : World) (HA : Hid (Ahead w)) (HU : Hid (-9223372036854775808 ≤ x.ua ∧ x.ua ≤ 9223372036854775807)) (L : Hid (LisV w x (.slice a6 x.sc.length c6) (.slice a7 x.mi.length c7) (.slice a8 x.hr.length c8) (.slice a9 x.dy.length c9) (.slice a10 x.md.length c10) (.slice a11 x.yd.length c11) (.slice a12 x.wn.length c12) (.slice a13 x.mo.length c13) (.slice a14 x.sp.length c14))) (S : Hid (Small x)) (I : Hid ((-9223372036854775808 ≤ st ∧ st ≤ 9223372036854775807) ∧ (-9223372036854775808 ≤ fr ∧ fr ≤ 9223372036854775807) ∧ (-9223372036854775808 ≤ tt ∧ tt ≤ 9223372036854775807) ∧ (-9223372036854775808 ≤ fuel ∧ fuel ≤ 9223372036854775807))) (CK : Hid (ckB x = true)) (MS : Hid (-1000000000000 ≤ st ∧ st ≤ 1000000000000)) (SLH : Hid (scL x st = SL)) (PV : Hid (perV x st = n)) (HX2 : Hid (X = outX (tmR x st fr tt fuel))) (FU : Hid (0 ≤ fuel ∧ fuel ≤ 200000)) (HO0 : Hid (tkL fr tt st [] = O0)) (G : Hid (Gt w [.int .i64 x.fq, .int .i64 x.iv, .int .i64 x.ct, .bool x.un, .int .i64 x.ua, .bool x.ut, .slice a6 x.sc.length c6, .slice a7 x.mi.length c7, .slice a8 x.hr.length c8, .slice a9 x.dy.length c9, .slice a10 x.md.length c10, .slice a11 x.yd.length c11, .slice a12 x.wn.length c12, .slice a13 x.mo.length c13, .slice a14 x.sp.length c14, .int .i64 x.wk] [.int .i64 x.fq, .int .i64 x.iv, .int .i64 x.ct, .bool x.un, .int .i64 x.ua, .bool x.ut, .slice a6 x.sc.length c6, .slice a7 x.mi.length c7, .slice a8 x.hr.length c8, .slice a9 x.dy.length c9, .slice a10 x.md.length c10, .slice a11 x.yd.length c11, .slice a12 x.wn.length c12, .slice a13 x.mo.length c13, .slice a14 x.sp.length c14, .int .i64 x.wk, .int .i64 st, .slice (some ⟨sb, 0, none⟩) SL.length sc] fr tt fuel SL sb gg gm lv 1 O0 0 w4)) (z0 z6 z7 z8 z9 z10 z11 z12 z16 z17 z18 z19 z20 z21 z22 z23 z24 z25 z26 z27 z28 z29 z30 z31 z32 z33 z34 z35 z36 z37 z38 z39 z40 z41 z42 z43 z44 z45 z46 z47 z48 z49 z50 z51 z52 z53 z54 z55 z56 z57 z58 z59 z60 z61 z62 z63 z64 z65 z66 z67 z68 z69 z70 z71 z72 z73 z74 z75 z76 z77 z78 z79 z80 z81 z82 z83 z84 z85 z86 z87 z88 z89 z90 z91 z92 z93 z94 z95 z96 z97 z98 z99 z100 z101 z102 z103 z104 z105 z106 z107 z108 z109 z110 z111 z112 z113 z114 z115 z116 z117 z118 z119 z120 z121 z122 z123 z124 : Value) : Code.wp Tryz.prog tmBC (bodyPost Tryz.prog Tryz.f10 (fun e w' => ∃ lv, e = .returned (.tuple #[lv, .int .i64 X.2.1, .int .i64 X.1]) ∧ RowI w.heap.size w' lv X.2.2 ∧ Below w.heap.size w w')) ⟨List.toArray (z0 :: .int .i64 st :: .int .i64 fr :: .int .i64 tt :: .int .i64 fuel :: .pointer (some ⟨w.heap.size, 0, none⟩) :: z6 :: z7 :: z8 :: z9 :: z10 :: z11 :: z12 :: .int .i64 n :: .pointer (some ⟨gg, 0, none⟩) :: .pointer (some ⟨gm, 0, none⟩) :: z16 :: z17 :: z18 :: z19 :: z20 :: z21 :: z22 :: z23 :: z24 :: z25 :: z26 :: z27 :: z28 :: z29 :: z30 :: z31 :: z32 :: z33 :: z34 :: z35 :: z36 :: z37 :: z38 :: z39 :: z40 :: z41 :: z42 :: z43 :: z44 :: z45 :: z46 :: z47 :: z48 :: z49 :: z50 :: z51 :: z52 :: z53 :: z54 :: z55 :: z56 :: z57 :: z58 :: z59 :: z60 :: z61 :: z62 :: z63 :: z64 :: z65 :: z66 :: z67 :: z68 :: z69 :: z70 :: z71 :: z72 :: z73 :: z74 :: z75 :: z76 :: z77 :: z78 :: z79 :: z80 :: z81 :: z82 :: z83 :: z84 :: z85 :: z86 :: z87 :: z88 :: z89 :: z90 :: z91 :: z92 :: z93 :: z94 :: z95 :: z96 :: z97 :: z98 :: z99 :: z100 :: z101 :: z102 :: z103 :: z104 :: z105 :: z106 :: z107 :: z108 :: z109 :: z110 :: z111 :: z112 :: z113 :: z114 :: z115 :: z116 :: z117 :: z118 :: z119 :: z120 :: z121 :: z122 :: z123 :: z124 :: []), []⟩ w4 := by
  conv => arg 2; whnf
  obtain ⟨⟨p0, sm⟩, hfs⟩ : ∃ z, fsF x n fr = z := ⟨_, rfl⟩
  have FS := Lib.hid hfs
  have HX : Hid (X = outX (if sm = true then goT x st fr tt fuel (fuel.toNat + 2) p0 0 (1, O0) else some (0, O0))) := Lib.hid (by rw [HX2.out, tmR, PV.out, hfs, HO0.out])
  clear HX2 hfs
  go_upto_region 9 with fail
  go_cut [13, 16] (fun u v wz => u = .int .i64 p0 ∧ v = .bool sm ∧ Hid (Gt w [.int .i64 x.fq, .int .i64 x.iv, .int .i64 x.ct, .bool x.un, .int .i64 x.ua, .bool x.ut, .slice a6 x.sc.length c6, .slice a7 x.mi.length c7, .slice a8 x.hr.length c8, .slice a9 x.dy.length c9, .slice a10 x.md.length c10, .slice a11 x.yd.length c11, .slice a12 x.wn.length c12, .slice a13 x.mo.length c13, .slice a14 x.sp.length c14, .int .i64 x.wk] [.int .i64 x.fq, .int .i64 x.iv, .int .i64 x.ct, .bool x.un, .int .i64 x.ua, .bool x.ut, .slice a6 x.sc.length c6, .slice a7 x.mi.length c7, .slice a8 x.hr.length c8, .slice a9 x.dy.length c9, .slice a10 x.md.length c10, .slice a11 x.yd.length c11, .slice a12 x.wn.length c12, .slice a13 x.mo.length c13, .slice a14 x.sp.length c14, .int .i64 x.wk, .int .i64 st, .slice (some ⟨sb, 0, none⟩) SL.length sc] fr tt fuel SL sb gg gm lv 1 O0 0 wz))
  case first =>
    clear HX
    have pb := per_bd (x := x) st
    rw [PV.out] at pb
    have ck := CK.out
    go_wp2_with (refine ldS G.out.rb.range rfl Tryz.underlying29 rfl (by kernel_rfl) (by rfl) (by rfl) ?_; intro K hK; go_simp)
    refine (first_to x _ _ _ _ _ _ _ _ _ n fr (p0, sm) _ (HA.out.stays G.out.bw |> Lib.hid) HU (Lib.hid (L.out.below G.out.bw)) S I.out.2.1.1 I.out.2.1.2 (iv_bd ck).1 (iv_bd ck).2 pb (per_bd fr) FS).mono ?_
    rintro e w7 ⟨rfl, k⟩
    have G := Lib.hid (G.out.below k)
    clear k pb ck
    go_wp2
    go_meet
    exact ⟨rfl, rfl, G⟩
  case rest =>
  obtain ⟨w7, rfl⟩ : ∃ x : World, x = wc := ⟨_, rfl⟩
  clear G
  obtain ⟨rfl, rfl, G⟩ := hcut
  go_wp2_with fail
  go_loopw [13] (fun pv wr => ∃ (m : Nat) (c p : Int) (lv : Value) (told : Int) (O : List Int), pv = .int .i64 p ∧ Hid (X = outX (if sm = true then goT x st fr tt fuel m p c (told, O) else some (c, O))) ∧ Hid (0 ≤ c ∧ c ≤ fuel ∧ fuel + 2 ≤ m + c) ∧ Hid (0 ≤ told ∧ told ≤ 1 + c) ∧ Hid ((O.length : Int) ≤ 1 + c) ∧ Hid (Gt w [.int .i64 x.fq, .int .i64 x.iv, .int .i64 x.ct, .bool x.un, .int .i64 x.ua, .bool x.ut, .slice a6 x.sc.length c6, .slice a7 x.mi.length c7, .slice a8 x.hr.length c8, .slice a9 x.dy.length c9, .slice a10 x.md.length c10, .slice a11 x.yd.length c11, .slice a12 x.wn.length c12, .slice a13 x.mo.length c13, .slice a14 x.sp.length c14, .int .i64 x.wk] [.int .i64 x.fq, .int .i64 x.iv, .int .i64 x.ct, .bool x.un, .int .i64 x.ua, .bool x.ut, .slice a6 x.sc.length c6, .slice a7 x.mi.length c7, .slice a8 x.hr.length c8, .slice a9 x.dy.length c9, .slice a10 x.md.length c10, .slice a11 x.yd.length c11, .slice a12 x.wn.length c12, .slice a13 x.mo.length c13, .slice a14 x.sp.length c14, .int .i64 x.wk, .int .i64 st, .slice (some ⟨sb, 0, none⟩) SL.length sc] fr tt fuel SL sb gg gm lv told O c wr)) (fun pv _ => (1099511650000 - intOf pv).toNat)
  case atStart => exact ⟨fuel.toNat + 2, 0, p0, lv, 1, O0, rfl, HX, Lib.hid (by have := FU.out; omega), Lib.hid (by omega), Lib.hid (by rw [← HO0.out]; have := tk_len fr tt st []; simp at this; omega), G⟩
  case round =>
    clear G HX
    obtain ⟨m, c, p, lv, told, O, rfl, HX, HC, HT, HL, G⟩ := hrel
    obtain ⟨wo, rfl⟩ : ∃ wo : World, wo = wr := ⟨_, rfl⟩
    obtain ⟨fb, hfb⟩ : ∃ z, fuB x told = z := ⟨_, rfl⟩
    have FB := Lib.hid hfb
    clear hfb
    go_upto_region 10 with fail
    go_cut [72] (fun v wz => v = .bool (sm && !fb) ∧ Hid (Gt w [.int .i64 x.fq, .int .i64 x.iv, .int .i64 x.ct, .bool x.un, .int .i64 x.ua, .bool x.ut, .slice a6 x.sc.length c6, .slice a7 x.mi.length c7, .slice a8 x.hr.length c8, .slice a9 x.dy.length c9, .slice a10 x.md.length c10, .slice a11 x.yd.length c11, .slice a12 x.wn.length c12, .slice a13 x.mo.length c13, .slice a14 x.sp.length c14, .int .i64 x.wk] [.int .i64 x.fq, .int .i64 x.iv, .int .i64 x.ct, .bool x.un, .int .i64 x.ua, .bool x.ut, .slice a6 x.sc.length c6, .slice a7 x.mi.length c7, .slice a8 x.hr.length c8, .slice a9 x.dy.length c9, .slice a10 x.md.length c10, .slice a11 x.yd.length c11, .slice a12 x.wn.length c12, .slice a13 x.mo.length c13, .slice a14 x.sp.length c14, .int .i64 x.wk, .int .i64 st, .slice (some ⟨sb, 0, none⟩) SL.length sc] fr tt fuel SL sb gg gm lv told O c wz))
    case first =>
      clear HX
      cases sm with
      | false =>
        go_wp2
        go_meet
        exact ⟨rfl, G⟩
      | true =>
        have c2 := (G.out.gc.2 2 _ (gat_lo rfl)).1
        have c21 := (G.out.gc.2 21 _ (gat_at rfl 3)).1
        have FB2 := Lib.hid (show (decide (0 < x.ct) && decide (x.ct ≤ told)) = fb from FB.out)
        go_wp2_with fail
        refine (full_to gg x.ct told fb _ c2 c21 FB2).mono ?_
        rintro e w2 ⟨rfl, k⟩
        have G2 := Lib.hid (G.out.below k)
        clear k c2 c21 FB2
        go_wp2
        go_meet
        exact ⟨rfl, G2⟩
    case rest =>
    obtain ⟨w8, rfl⟩ : ∃ x : World, x = wc := ⟨_, rfl⟩
    clear G
    obtain ⟨rfl, G⟩ := hcut
    obtain ⟨go, hgo⟩ : ∃ z, (sm && !fb) = z := ⟨_, rfl⟩
    have HGO := Lib.hid hgo
    rw [hgo]
    clear hgo
    cases go with
    | false =>
      have hXe := go_stop HX.out HGO.out FB.out ⟨HC.out.2.1, HC.out.2.2⟩
      clear HX HGO FB FS
      subst hXe
      obtain ⟨LA, LC, rfl⟩ := G.out.hr.forms
      have k20 := cell_regrown (G.out.gc.2 20 _ (gat_at rfl 2)).1
      have LB := Lib.hid (fun dd os => Calls.regrown_of (load_b gm c (Sort.grow (redrawn w8 dd) os) (cell_regrown (G.out.mc.2 0 _ rfl).1 dd os)))
      clear HC HT HL
      go_upto_region 18 with fail
      refine wp_region_quiet_below (by kernel_rfl) (by kernel_rfl) ?_
      repeat (quiet_step (with_reducible exact LB.out _ _))
      refine wpQuiet_nil ?_
      intro w' hw'
      obtain ⟨⟨dq, osq⟩, rfl⟩ := hw'
      go_wp2
      go_ret3
      exact ⟨_, rfl, own_less2 (G.out.hr.below (below_regrown w8 dq osq)) (by have := G.out.o1; have := G.out.o2; omega), bstep G.out.bw (below_regrown w8 dq osq)⟩
    | true =>
      obtain ⟨hsm, m2, hm2, hX⟩ := go_next HX.out HGO.out FB.out ⟨HC.out.2.1, HC.out.2.2⟩
      subst hm2
      obtain ⟨a, ha⟩ : ∃ z, spF x p = z := ⟨_, rfl⟩
      obtain ⟨b, hb⟩ : ∃ z, spT x p = z := ⟨_, rfl⟩
      obtain ⟨f, hf⟩ : ∃ z, spE x p = z := ⟨_, rfl⟩
      obtain ⟨be, hbe⟩ : ∃ z, (decide (f ≠ 0) || (decide (tt < a) || (x.un && decide (x.ua < a)))) = z := ⟨_, rfl⟩
      have BE := Lib.hid hbe
      have HSM := Lib.hid hsm
      have HX2 : Hid (X = outX (if be = true then some (c, O) else if fuel < c + (1 + ((bsL x st (s0F x st) a b).length : Int) * (SL.length : Int)) then none else goT x st fr tt fuel m2 (p + x.iv) (c + (1 + ((bsL x st (s0F x st) a b).length : Int) * (SL.length : Int))) (perS x st fr tt (tiL x (bsL x st (s0F x st) a b) SL) (told, O)))) := Lib.hid (by rw [hX, beB, gaL, ha, hb, hf, hbe, SLH.out])
      have SF := Lib.hid ha
      have ST := Lib.hid hb
      have SE := Lib.hid hf
      clear HX HGO FB FS hX ha hb hf hbe hsm
      go_upto_region 11 with fail
      go_cut [17, 18, 19] (fun u v s wz => u = .int .i64 a ∧ v = .int .i64 b ∧ s = .int .i64 f ∧ Hid (Gt w [.int .i64 x.fq, .int .i64 x.iv, .int .i64 x.ct, .bool x.un, .int .i64 x.ua, .bool x.ut, .slice a6 x.sc.length c6, .slice a7 x.mi.length c7, .slice a8 x.hr.length c8, .slice a9 x.dy.length c9, .slice a10 x.md.length c10, .slice a11 x.yd.length c11, .slice a12 x.wn.length c12, .slice a13 x.mo.length c13, .slice a14 x.sp.length c14, .int .i64 x.wk] [.int .i64 x.fq, .int .i64 x.iv, .int .i64 x.ct, .bool x.un, .int .i64 x.ua, .bool x.ut, .slice a6 x.sc.length c6, .slice a7 x.mi.length c7, .slice a8 x.hr.length c8, .slice a9 x.dy.length c9, .slice a10 x.md.length c10, .slice a11 x.yd.length c11, .slice a12 x.wn.length c12, .slice a13 x.mo.length c13, .slice a14 x.sp.length c14, .int .i64 x.wk, .int .i64 st, .slice (some ⟨sb, 0, none⟩) SL.length sc] fr tt fuel SL sb gg gm lv told O c wz))
      case first =>
        clear HX2
        go_wp2_with (refine ldS G.out.rb.range rfl Tryz.underlying29 rfl (by kernel_rfl) (by rfl) (by rfl) ?_; intro K hK; go_simp)
        refine (span_to x _ _ _ _ _ _ _ _ _ p a b f _ (HA.out.stays G.out.bw) HU.out.1 HU.out.2 (L.out.below G.out.bw) S.out SF ST SE).mono ?_
        rintro e w9 ⟨rfl, k⟩
        have G2 := Lib.hid (G.out.below k)
        clear k
        go_wp2
        go_meet
        exact ⟨rfl, rfl, rfl, G2⟩
      case rest =>
      obtain ⟨w9, rfl⟩ : ∃ x : World, x = wc := ⟨_, rfl⟩
      clear G
      obtain ⟨rfl, rfl, rfl, G⟩ := hcut
      go_upto_region 12 with fail
      go_cut [96] (fun v wz => v = .bool be ∧ w9 = wz)
      case first =>
        clear HX2 HT HL HC
        have l3 := (G.out.rb.2 3 _ rfl).1
        have l4 := (G.out.rb.2 4 _ rfl).1
        by_cases f0 : f = 0
        · subst f0
          by_cases h1 : tt < a
          · have d1 := decide_eq_true h1
            obtain rfl : be = true := by rw [← BE.out, d1]; rfl
            clear BE
            go_wp2
            go_meet
            exact ⟨rfl, rfl⟩
          · have d1 := decide_eq_false h1
            obtain ⟨un, hun⟩ : ∃ z, x.un = z := ⟨_, rfl⟩
            rw [hun] at l3
            have BE2 : Hid ((un && decide (x.ua < a)) = be) := Lib.hid (by rw [← BE.out, d1, hun]; rfl)
            clear BE hun
            cases un with
            | false =>
              obtain rfl : be = false := by rw [← BE2.out]; rfl
              clear BE2
              go_wp2
              go_meet
              exact ⟨rfl, rfl⟩
            | true =>
              obtain rfl : be = decide (x.ua < a) := by rw [← BE2.out]; rfl
              clear BE2
              go_wp2
              go_meet
              exact ⟨rfl, rfl⟩
        · have f1 : (f == 0) = false := beq_eq_false_iff_ne.2 f0
          have f2 : (f != 0) = true := by rw [bne, f1]; rfl
          obtain rfl : be = true := by rw [← BE.out, decide_eq_true f0]; rfl
          clear BE
          go_wp2
          go_meet
          exact ⟨rfl, rfl⟩
      case rest =>
      obtain ⟨rfl, hw⟩ := hcut
      subst hw
      cases be with
      | true =>
        have hXe : X = (0, c, O) := by rw [HX2.out, if_pos rfl]; rfl
        clear HX2 SF ST SE BE
        subst hXe
        obtain ⟨LA, LC, rfl⟩ := G.out.hr.forms
        have k20 := cell_regrown (G.out.gc.2 20 _ (gat_at rfl 2)).1
        have LB := Lib.hid (fun dd os => Calls.regrown_of (load_b gm c (Sort.grow (redrawn w9 dd) os) (cell_regrown (G.out.mc.2 0 _ rfl).1 dd os)))
        clear HC HT HL
        go_upto_region 18 with fail
        refine wp_region_quiet_below (by kernel_rfl) (by kernel_rfl) ?_
        repeat (quiet_step (with_reducible exact LB.out _ _))
        refine wpQuiet_nil ?_
        intro w' hw'
        obtain ⟨⟨dq, osq⟩, rfl⟩ := hw'
        go_wp2
        go_ret3
        exact ⟨_, rfl, own_less2 (G.out.hr.below (below_regrown w9 dq osq)) (by have := G.out.o1; have := G.out.o2; omega), bstep G.out.bw (below_regrown w9 dq osq)⟩
      | false =>
        have HX : Hid (X = outX (if fuel < c + (1 + ((bsL x st (s0F x st) a b).length : Int) * (SL.length : Int)) then none else goT x st fr tt fuel m2 (p + x.iv) (c + (1 + ((bsL x st (s0F x st) a b).length : Int) * (SL.length : Int))) (perS x st fr tt (tiL x (bsL x st (s0F x st) a b) SL) (told, O)))) := Lib.hid (by rw [HX2.out, if_neg (by decide)])
        clear HX2
        have hf0 : f = 0 := by
          have := BE.out
          simp only [Bool.or_eq_false_iff, decide_eq_false_iff_not, Decidable.not_not] at this
          exact this.1
        subst hf0
        obtain ⟨-, ma, mb, hab⟩ := sp_ok SE.out
        rw [SF.out] at ma hab
        rw [ST.out] at mb hab
        have MA := Lib.hid (show moO a = true ∧ moO b = true ∧ b / 86400 ≤ a / 86400 + 372 from ⟨ma, mb, hab⟩)
        have PB := Lib.hid (spe_p SE.out)
        clear ma mb hab BE SF ST SE
        obtain ⟨n0, h0⟩ := s0_at SLH.out
        obtain ⟨q0, hq0⟩ : ∃ z, s0F x st = z := ⟨_, rfl⟩
        have H0 : Hid (w9.cell? ⟨sb, 0, none⟩ = some (.int .i64 q0)) := Lib.hid (by rw [← hq0, h0]; exact G.out.sc 0 n0)
        have QB : Hid (0 ≤ q0 ∧ q0 < 86400) := Lib.hid (by rw [← hq0, h0]; exact sc_mem CK.out st _ (by rw [SLH.out]; exact List.getElem_mem n0))
        have N0 := Lib.hid n0
        have SLN := Lib.hid (show SL.length ≤ 86400 by rw [← SLH.out]; exact sc_len CK.out st)
        obtain ⟨BS, hBS⟩ : ∃ z, bsL x st q0 a b = z := ⟨_, rfl⟩
        obtain ⟨q, hq⟩ : ∃ z, BS.length * SL.length = z := ⟨_, rfl⟩
        obtain ⟨⟨t2, O2⟩, hP⟩ : ∃ z, perS x st fr tt (tiL x BS SL) (told, O) = z := ⟨_, rfl⟩
        have HX2 : Hid (X = outX (if fuel < c + (1 + (q : Int)) then none else goT x st fr tt fuel m2 (p + x.iv) (c + (1 + (q : Int))) (t2, O2))) := Lib.hid (by rw [HX.out, hq0, hBS, hP, ← hq, Int.natCast_mul])
        have BN := Lib.hid (show BS.length ≤ 373 by rw [← hBS]; exact bs_len MA.out.2.2)
        have BM := Lib.hid (show ∀ n ∈ BS, -1000000000000 ≤ n ∧ n ≤ 1000000000000 from fun n hn => bs_mem MA.out.1 MA.out.2.1 (by rw [hBS]; exact hn))
        have SM := Lib.hid (show ∀ n ∈ SL, 0 ≤ n ∧ n < 86400 from fun n hn => sc_mem CK.out st n (by rw [SLH.out]; exact hn))
        have q32 : q ≤ 373 * 86400 := by rw [← hq]; exact Nat.mul_le_mul BN.out SLN.out
        have HP := Lib.hid hP
        have HBS := Lib.hid hBS
        have HQ := Lib.hid hq
        have hT := ti_len x BS SL
        rw [hq] at hT
        have TL := Lib.hid hT
        have pl := per_len x st fr tt (tiL x BS SL) (told, O)
        rw [hP] at pl
        have PL := Lib.hid pl
        clear HX h0 n0 hq0 hBS hP hT pl
        go_upto_region 13 with fail
        go_cut [20] (fun v wz => ∃ bA bc, v = .slice bA BS.length bc ∧ Hid (RowI w9.heap.size wz (.slice bA BS.length bc) BS) ∧ Hid (w9.heap.size ≤ wz.heap.size) ∧ Hid (Gt w [.int .i64 x.fq, .int .i64 x.iv, .int .i64 x.ct, .bool x.un, .int .i64 x.ua, .bool x.ut, .slice a6 x.sc.length c6, .slice a7 x.mi.length c7, .slice a8 x.hr.length c8, .slice a9 x.dy.length c9, .slice a10 x.md.length c10, .slice a11 x.yd.length c11, .slice a12 x.wn.length c12, .slice a13 x.mo.length c13, .slice a14 x.sp.length c14, .int .i64 x.wk] [.int .i64 x.fq, .int .i64 x.iv, .int .i64 x.ct, .bool x.un, .int .i64 x.ua, .bool x.ut, .slice a6 x.sc.length c6, .slice a7 x.mi.length c7, .slice a8 x.hr.length c8, .slice a9 x.dy.length c9, .slice a10 x.md.length c10, .slice a11 x.yd.length c11, .slice a12 x.wn.length c12, .slice a13 x.mo.length c13, .slice a14 x.sp.length c14, .int .i64 x.wk, .int .i64 st, .slice (some ⟨sb, 0, none⟩) SL.length sc] fr tt fuel SL sb gg gm lv told O c wz))
        case first =>
          clear HX2 HC HT HL PL HP TL
          go_wp2_with (refine ldS (pre18g G.out.gc) rfl Tryz.underlying60 rfl (by kernel_rfl) (by rfl) (by rfl) ?_; intro K hK; go_simp)
          refine (bases_to x _ _ _ _ _ _ _ _ _ st q0 a b sb 0 SL.length sc _ (Lib.hid (HA.out.stays G.out.bw)) HU (Lib.hid (L.out.below G.out.bw)) S MS H0.out (by have := G.out.at; have := G.out.o2; have := G.out.o3; omega) N0.out QB.out MA.out.1 MA.out.2.1 (by have := MA.out.2.2; omega)).mono ?_
          rintro e w10 ⟨bv, rfl, hr, k⟩
          rw [HBS.out] at hr
          obtain ⟨bA, bc, rfl⟩ := hr.forms
          have HR := Lib.hid hr
          have HZ := Lib.hid k.size
          have G2 := Lib.hid (G.out.below k)
          clear k hr
          go_wp2
          go_meet
          exact ⟨bA, bc, rfl, HR, HZ, G2⟩
        case rest =>
        obtain ⟨w10, rfl⟩ : ∃ x : World, x = wc := ⟨_, rfl⟩
        have GM9 := Lib.hid G.out.at
        clear G H0
        obtain ⟨bA, bc, rfl, HR, HZ, G⟩ := hcut
        have NEB : Hid (some gm ≠ (Value.slice bA BS.length bc).ownBlock) := Lib.hid (fun e => by have := (World.ownsRow.lt HR.out gm e.symm).1; have := GM9.out; omega)
        go_upto_region 14 with fail
        go_cut [111] (fun v wz => v = .bool (!decide (c + (1 + (q : Int)) ≤ fuel)) ∧ Hid (RowI w9.heap.size wz (.slice bA BS.length bc) BS) ∧ Hid (Gt w [.int .i64 x.fq, .int .i64 x.iv, .int .i64 x.ct, .bool x.un, .int .i64 x.ua, .bool x.ut, .slice a6 x.sc.length c6, .slice a7 x.mi.length c7, .slice a8 x.hr.length c8, .slice a9 x.dy.length c9, .slice a10 x.md.length c10, .slice a11 x.yd.length c11, .slice a12 x.wn.length c12, .slice a13 x.mo.length c13, .slice a14 x.sp.length c14, .int .i64 x.wk] [.int .i64 x.fq, .int .i64 x.iv, .int .i64 x.ct, .bool x.un, .int .i64 x.ua, .bool x.ut, .slice a6 x.sc.length c6, .slice a7 x.mi.length c7, .slice a8 x.hr.length c8, .slice a9 x.dy.length c9, .slice a10 x.md.length c10, .slice a11 x.yd.length c11, .slice a12 x.wn.length c12, .slice a13 x.mo.length c13, .slice a14 x.sp.length c14, .int .i64 x.wk, .int .i64 st, .slice (some ⟨sb, 0, none⟩) SL.length sc] fr tt fuel SL sb gg gm lv told O (c + (1 + (q : Int))) wz))
        case first =>
          have r1 : IntKind.i64.wrap ((BS.length : Int) * (SL.length : Int)) = (q : Int) := count_w HQ.out (by omega)
          have r2 : IntKind.i64.wrap (1 + (q : Int)) = 1 + (q : Int) := IntWalk.i64_in _ (by omega)
          have c17 := (G.out.gc.2 17 _ (gat_lo rfl)).1
          have hb := HC.out
          have fu := FU.out
          have SP := Lib.hid (fun mm => spend_to gm c (1 + (q : Int)) fuel (c + (1 + (q : Int))) (w10.drewN mm) (G.out.mc.2 0 _ rfl).1 (G.out.mc.2 0 _ rfl).2 (G.out.mc.2 1 _ rfl).1 rfl (by omega) (by omega))
          clear HX2 HT HL PL HP TL hb fu HC
          go_wp2_with fail
          refine (SP.out 0).mono ?_
          rintro e w11 ⟨rfl, mm, rfl⟩
          have G2 := Lib.hid (Gt.spend (G.out.below (w2 := (w10.drewN 0).drewN mm) ⟨rfl, rfl, rfl, Nat.le_refl _, fun _ _ => rfl⟩) (c + (1 + (q : Int))))
          have HR2 : Hid (RowI w9.heap.size (((w10.drewN 0).drewN mm).setCell ⟨gm, 0, none⟩ (.int .i64 (c + (1 + (q : Int))))) (.slice bA BS.length bc) BS) := Lib.hid (row_put (HR.out.below ⟨rfl, rfl, rfl, Nat.le_refl _, fun _ _ => rfl⟩) NEB.out)
          clear SP
          go_wp2
          go_meet
          exact ⟨rfl, HR2, G2⟩
        case rest =>
        obtain ⟨w11, rfl⟩ : ∃ x : World, x = wc := ⟨_, rfl⟩
        clear G HR HZ GM9
        obtain ⟨rfl, HR, G⟩ := hcut
        by_cases hs : c + (1 + (q : Int)) ≤ fuel
        case neg =>
          have hXe : X = outX none := by rw [HX2.out, if_pos (by omega)]
          rw [decide_eq_false hs]
          clear HX2 hs HC HT HL PL HP TL
          subst hXe
          go_wp2
          go_ret3
          exact ⟨_, rfl, RowI.nil _ _, G.out.bw⟩
        have HX : Hid (X = outX (goT x st fr tt fuel m2 (p + x.iv) (c + (1 + (q : Int))) (t2, O2))) := Lib.hid (by rw [HX2.out, if_neg (by omega)])
        have HS := Lib.hid hs
        rw [decide_eq_true hs]
        clear HX2 hs
        go_upto_region 16 with fail
        go_cut [116] (fun _ wz => ∃ lv2, Hid (Gt w [.int .i64 x.fq, .int .i64 x.iv, .int .i64 x.ct, .bool x.un, .int .i64 x.ua, .bool x.ut, .slice a6 x.sc.length c6, .slice a7 x.mi.length c7, .slice a8 x.hr.length c8, .slice a9 x.dy.length c9, .slice a10 x.md.length c10, .slice a11 x.yd.length c11, .slice a12 x.wn.length c12, .slice a13 x.mo.length c13, .slice a14 x.sp.length c14, .int .i64 x.wk] [.int .i64 x.fq, .int .i64 x.iv, .int .i64 x.ct, .bool x.un, .int .i64 x.ua, .bool x.ut, .slice a6 x.sc.length c6, .slice a7 x.mi.length c7, .slice a8 x.hr.length c8, .slice a9 x.dy.length c9, .slice a10 x.md.length c10, .slice a11 x.yd.length c11, .slice a12 x.wn.length c12, .slice a13 x.mo.length c13, .slice a14 x.sp.length c14, .int .i64 x.wk, .int .i64 st, .slice (some ⟨sb, 0, none⟩) SL.length sc] fr tt fuel SL sb gg gm lv2 t2 O2 (c + (1 + (q : Int))) wz))
        case first =>
          have at_ := G.out.at
          have o2 := G.out.o2
          have o3 := G.out.o3
          have hc := HC.out
          have ht := HT.out
          have hl := HL.out
          have fu := FU.out
          have hs := HS.out
          have TT := Lib.hid (fun (tv : Value) (w12 : World) (hT : RowI w11.heap.size w12 tv (tiL x BS SL)) (k : Below w11.heap.size w11 w12) => period_any x _ _ _ _ _ _ _ _ _ _ _ _ _ _ _ _ _ _ _ _ _ _ _ _ _ _ _ st fr tt told sb 0 SL.length sc gg (gg + 1) w11.heap.size lv O (tiL x BS SL) w12 (Nat.lt_succ_self _) (Nat.le_trans (show gg + 1 ≤ w11.heap.size by omega) k.size) (Lib.hid (G.out.below k).gc) (Lib.hid (G.out.below k).hr) (by omega) (by omega) (by omega) tv (by omega) hT (fun j hj => (G.out.own j hj).2) (by have := TL.out; omega) (t2, O2) HP)
          have TS := Lib.hid (times_to x _ _ _ _ _ _ _ _ _ st sb sc SL.length (.slice bA BS.length bc) BS SL w11 CK.out (Lib.hid (L.out.below G.out.bw)) S (IntV.of_row HR.out) rfl G.out.sc (by omega) N0.out BN.out SLN.out BM.out SM.out)
          clear at_ o2 o3 hc ht hl fu hs HX HC HT HL PL
          go_wp2_with (refine ldS (pre18g G.out.gc) rfl Tryz.underlying60 rfl (by kernel_rfl) (by rfl) (by rfl) ?_; intro K hK; go_simp)
          refine TS.out.mono ?_
          rintro e w12 ⟨tv, rfl, ht, k⟩
          have T2 := Lib.hid (TT.out tv w12 ht k)
          have G2 := Lib.hid (G.out.below k)
          obtain ⟨tA, tc, rfl⟩ := ht.forms
          clear ht k TT TS
          go_wp2_with fail
          refine T2.out.mono ?_
          rintro e w13 ⟨rfl, kt⟩
          obtain ⟨lv2, g⟩ := G2.out.take kt
          have G3 := Lib.hid g
          clear kt g T2
          go_wp2
          go_meet
          exact ⟨lv2, G3⟩
        case rest =>
        obtain ⟨w12, rfl⟩ : ∃ x : World, x = wc := ⟨_, rfl⟩
        clear G HR NEB
        obtain ⟨lv2, G⟩ := hcut
        have l1 := (G.out.rb.2 1 _ rfl).1
        have ivb := iv_bd CK.out
        have pb := PB.out
        obtain ⟨iv, hiv⟩ : ∃ z, x.iv = z := ⟨_, rfl⟩
        rw [hiv] at l1 ivb
        have r3 : IntKind.i64.wrap (p + iv) = p + iv := IntWalk.i64_in _ (by omega)
        have HX3 : Hid (X = outX (if sm = true then goT x st fr tt fuel m2 (p + iv) (c + (1 + (q : Int))) (t2, O2) else some (c + (1 + (q : Int)), O2))) := Lib.hid (by rw [HX.out, HSM.out, if_pos rfl, hiv])
        have HC2 : Hid (0 ≤ c + (1 + (q : Int)) ∧ c + (1 + (q : Int)) ≤ fuel ∧ fuel + 2 ≤ (m2 : Int) + (c + (1 + (q : Int)))) := Lib.hid (by have := HC.out; have := HS.out; omega)
        have HT2 : Hid (0 ≤ t2 ∧ t2 ≤ 1 + (c + (1 + (q : Int)))) := Lib.hid (by have := HT.out; have := PL.out; have := TL.out; simp only at *; omega)
        have HL2 : Hid ((O2.length : Int) ≤ 1 + (c + (1 + (q : Int)))) := Lib.hid (by have := HL.out; have := PL.out; have := TL.out; simp only at *; omega)
        have MS2 := Lib.hid (show (1099511650000 - (p + iv)).toNat < (1099511650000 - p).toNat by omega)
        clear HX HC HT HL PL TL HP hiv HS
        go_wp2
        go_roundw
        case rel => exact ⟨m2, _, p + iv, lv2, t2, O2, rfl, HX3, HC2, HT2, HL2, G⟩
        case measure => exact MS2.out
end Rru
end Go.Proofs.YtpbbnkgfheafpaaGreatDoor
/-
  Package rrule: Times, up to its loop.
-/
namespace Go.Proofs.YtpbbnkgfheafpaaGreatDoor
open Go.RowKit
namespace Rru
open Rcv (CV IntV DayV LisV)
open Ap (RowI Grew)
open Rck (Small ckB)
open Civ (Ahead)
open Fil (spE spT spF spQ perV perE perQ per_to span_to moO mo_bd)
open Cel
noncomputable def tmAC : Code := (Tryz.f10.body.bind (Tl.from_ 7)).getD .skip
set_option maxHeartbeats 25600000 in
set_option maxRecDepth 100000 in
theorem tmA (x : CV) (a6 a7 a8 a9 a10 a11 a12 a13 a14 : Option Addr) (c6 c7 c8 c9 c10 c11 c12 c13 c14 : Nat) (st fr tt fuel n : Int) (sb sc gg : Nat) (SL : List Int) (X : Int × Int × List Int) (w w4 : World) (HA : Hid (Ahead w)) (HU : Hid (-9223372036854775808 ≤ x.ua ∧ x.ua ≤ 9223372036854775807)) (L : Hid (LisV w x (.slice a6 x.sc.length c6) (.slice a7 x.mi.length c7) (.slice a8 x.hr.length c8) (.slice a9 x.dy.length c9) (.slice a10 x.md.length c10) (.slice a11 x.yd.length c11) (.slice a12 x.wn.length c12) (.slice a13 x.mo.length c13) (.slice a14 x.sp.length c14))) (S : Hid (Small x)) (I : Hid ((-9223372036854775808 ≤ st ∧ st ≤ 9223372036854775807) ∧ (-9223372036854775808 ≤ fr ∧ fr ≤ 9223372036854775807) ∧ (-9223372036854775808 ≤ tt ∧ tt ≤ 9223372036854775807) ∧ (-9223372036854775808 ≤ fuel ∧ fuel ≤ 9223372036854775807))) (CK : Hid (ckB x = true)) (MS : Hid (-1000000000000 ≤ st ∧ st ≤ 1000000000000)) (SLH : Hid (scL x st = SL)) (PV : Hid (perV x st = n)) (HX2 : Hid (X = outX (tmR x st fr tt fuel))) (FU : Hid (0 ≤ fuel ∧ fuel ≤ 200000)) (RB : Hid (Cs w.heap.size w4 [.int .i64 x.fq, .int .i64 x.iv, .int .i64 x.ct, .bool x.un, .int .i64 x.ua, .bool x.ut, .slice a6 x.sc.length c6, .slice a7 x.mi.length c7, .slice a8 x.hr.length c8, .slice a9 x.dy.length c9, .slice a10 x.md.length c10, .slice a11 x.yd.length c11, .slice a12 x.wn.length c12, .slice a13 x.mo.length c13, .slice a14 x.sp.length c14, .int .i64 x.wk])) (GC : Hid (Cs gg w4 (gat [.int .i64 x.fq, .int .i64 x.iv, .int .i64 x.ct, .bool x.un, .int .i64 x.ua, .bool x.ut, .slice a6 x.sc.length c6, .slice a7 x.mi.length c7, .slice a8 x.hr.length c8, .slice a9 x.dy.length c9, .slice a10 x.md.length c10, .slice a11 x.yd.length c11, .slice a12 x.wn.length c12, .slice a13 x.mo.length c13, .slice a14 x.sp.length c14, .int .i64 x.wk, .int .i64 st, .slice (some ⟨sb, 0, none⟩) SL.length sc] fr tt (.slice none 0 0) 0))) (HCL : Hid (∀ (j : Nat) (hj : j < SL.length), w4.cell? ⟨sb, j, none⟩ = some (.int .i64 SL[j]))) (HSB : Hid (w.heap.size < sb ∧ sb < gg ∧ gg < w4.heap.size)) (B : Hid (Below w.heap.size w w4)) (z0 z6 z7 z8 z9 z10 z11 z12 z15 z16 z17 z18 z19 z20 z21 z22 z23 z24 z25 z26 z27 z28 z29 z30 z31 z32 z33 z34 z35 z36 z37 z38 z39 z40 z41 z42 z43 z44 z45 z46 z47 z48 z49 z50 z51 z52 z53 z54 z55 z56 z57 z58 z59 z60 z61 z62 z63 z64 z65 z66 z67 z68 z69 z70 z71 z72 z73 z74 z75 z76 z77 z78 z79 z80 z81 z82 z83 z84 z85 z86 z87 z88 z89 z90 z91 z92 z93 z94 z95 z96 z97 z98 z99 z100 z101 z102 z103 z104 z105 z106 z107 z108 z109 z110 z111 z112 z113 z114 z115 z116 z117 z118 z119 z120 z121 z122 z123 z124 : Value) : Code.wp Tryz.prog tmAC (bodyPost Tryz.prog Tryz.f10 (fun e w' => ∃ lv, e = .returned (.tuple #[lv, .int .i64 X.2.1, .int .i64 X.1]) ∧ RowI w.heap.size w' lv X.2.2 ∧ Below w.heap.size w w')) ⟨List.toArray (z0 :: .int .i64 st :: .int .i64 fr :: .int .i64 tt :: .int .i64 fuel :: .pointer (some ⟨w.heap.size, 0, none⟩) :: z6 :: z7 :: z8 :: z9 :: z10 :: z11 :: z12 :: .int .i64 n :: .pointer (some ⟨gg, 0, none⟩) :: z15 :: z16 :: z17 :: z18 :: z19 :: z20 :: z21 :: z22 :: z23 :: z24 :: z25 :: z26 :: z27 :: z28 :: z29 :: z30 :: z31 :: z32 :: z33 :: z34 :: z35 :: z36 :: z37 :: z38 :: z39 :: z40 :: z41 :: z42 :: z43 :: z44 :: z45 :: z46 :: z47 :: z48 :: z49 :: z50 :: z51 :: z52 :: z53 :: z54 :: z55 :: z56 :: z57 :: z58 :: z59 :: z60 :: z61 :: z62 :: z63 :: z64 :: z65 :: z66 :: z67 :: z68 :: z69 :: z70 :: z71 :: z72 :: z73 :: z74 :: z75 :: z76 :: z77 :: z78 :: z79 :: z80 :: z81 :: z82 :: z83 :: z84 :: z85 :: z86 :: z87 :: z88 :: z89 :: z90 :: z91 :: z92 :: z93 :: z94 :: z95 :: z96 :: z97 :: z98 :: z99 :: z100 :: z101 :: z102 :: z103 :: z104 :: z105 :: z106 :: z107 :: z108 :: z109 :: z110 :: z111 :: z112 :: z113 :: z114 :: z115 :: z116 :: z117 :: z118 :: z119 :: z120 :: z121 :: z122 :: z123 :: z124 :: []), []⟩ w4 := by
  conv => arg 2; whnf
  obtain ⟨O0, hO0⟩ : ∃ z, tkL fr tt st [] = z := ⟨_, rfl⟩
  have HO0 := Lib.hid hO0
  clear hO0
  go_upto_region 7 with fail
  go_cut [58] (fun _ wz => Hid (TakeQ gg (gg + 1) [.int .i64 x.fq, .int .i64 x.iv, .int .i64 x.ct, .bool x.un, .int .i64 x.ua, .bool x.ut, .slice a6 x.sc.length c6, .slice a7 x.mi.length c7, .slice a8 x.hr.length c8, .slice a9 x.dy.length c9, .slice a10 x.md.length c10, .slice a11 x.yd.length c11, .slice a12 x.wn.length c12, .slice a13 x.mo.length c13, .slice a14 x.sp.length c14, .int .i64 x.wk, .int .i64 st, .slice (some ⟨sb, 0, none⟩) SL.length sc] fr tt 1 (.slice none 0 0) O0 w4 wz))
  case first =>
    go_wp2_with fail
    refine (take_to gg (gg + 1) [.int .i64 x.fq, .int .i64 x.iv, .int .i64 x.ct, .bool x.un, .int .i64 x.ua, .bool x.ut, .slice a6 x.sc.length c6, .slice a7 x.mi.length c7, .slice a8 x.hr.length c8, .slice a9 x.dy.length c9, .slice a10 x.md.length c10, .slice a11 x.yd.length c11, .slice a12 x.wn.length c12, .slice a13 x.mo.length c13, .slice a14 x.sp.length c14, .int .i64 x.wk, .int .i64 st, .slice (some ⟨sb, 0, none⟩) SL.length sc] rfl fr tt 0 st (.slice none 0 0) [] _ (Nat.lt_succ_self _) HSB.out.2.2 GC.out (RowI.nil _ _) (by decide) (by decide) (by decide)).mono ?_
    rintro e w5 ⟨rfl, k⟩
    rw [HO0.out] at k
    have K5 := Lib.hid k
    clear k
    go_wp2
    go_meet
    exact K5
  case rest =>
  obtain ⟨w5, rfl⟩ : ∃ x : World, x = wc := ⟨_, rfl⟩
  have K5 : Hid (TakeQ gg (gg + 1) [.int .i64 x.fq, .int .i64 x.iv, .int .i64 x.ct, .bool x.un, .int .i64 x.ua, .bool x.ut, .slice a6 x.sc.length c6, .slice a7 x.mi.length c7, .slice a8 x.hr.length c8, .slice a9 x.dy.length c9, .slice a10 x.md.length c10, .slice a11 x.yd.length c11, .slice a12 x.wn.length c12, .slice a13 x.mo.length c13, .slice a14 x.sp.length c14, .int .i64 x.wk, .int .i64 st, .slice (some ⟨sb, 0, none⟩) SL.length sc] fr tt 1 (.slice none 0 0) O0 w4 w5) := hcut
  clear hcut
  go_upto_region 8 with fail
  rename_i K8 hK8
  go_cut [15] (fun q wz => ∃ lv gm, q = .pointer (some ⟨gm, 0, none⟩) ∧ Hid (Gt w [.int .i64 x.fq, .int .i64 x.iv, .int .i64 x.ct, .bool x.un, .int .i64 x.ua, .bool x.ut, .slice a6 x.sc.length c6, .slice a7 x.mi.length c7, .slice a8 x.hr.length c8, .slice a9 x.dy.length c9, .slice a10 x.md.length c10, .slice a11 x.yd.length c11, .slice a12 x.wn.length c12, .slice a13 x.mo.length c13, .slice a14 x.sp.length c14, .int .i64 x.wk] [.int .i64 x.fq, .int .i64 x.iv, .int .i64 x.ct, .bool x.un, .int .i64 x.ua, .bool x.ut, .slice a6 x.sc.length c6, .slice a7 x.mi.length c7, .slice a8 x.hr.length c8, .slice a9 x.dy.length c9, .slice a10 x.md.length c10, .slice a11 x.yd.length c11, .slice a12 x.wn.length c12, .slice a13 x.mo.length c13, .slice a14 x.sp.length c14, .int .i64 x.wk, .int .i64 st, .slice (some ⟨sb, 0, none⟩) SL.length sc] fr tt fuel SL sb gg gm lv 1 O0 0 wz))
  case first =>
    obtain ⟨lv, g⟩ := Gt.start (fuel := fuel) (ty := 71) RB.out HCL.out B.out HSB.out.1 HSB.out.2.1 HSB.out.2.2 K5.out
    have G := Lib.hid g
    clear g K5 GC RB HCL
    go_wp2
    go_meet
    exact ⟨lv, _, rfl, G⟩
  case rest =>
  obtain ⟨w6, rfl⟩ : ∃ x : World, x = wc := ⟨_, rfl⟩
  clear RB B K5 GC HCL
  obtain ⟨lv, gm, rfl, G⟩ := hcut
  exact hK8 _ _ (tmB x a6 a7 a8 a9 a10 a11 a12 a13 a14 c6 c7 c8 c9 c10 c11 c12 c13 c14 st fr tt fuel n sb sc gg gm lv O0 SL X w w6 HA HU L S I CK MS SLH PV HX2 FU HO0 G _ _ _ _ _ _ _ _ _ _ _ _ _ _ _ _ _ _ _ _ _ _ _ _ _ _ _ _ _ _ _ _ _ _ _ _ _ _ _ _ _ _ _ _ _ _ _ _ _ _ _ _ _ _ _ _ _ _ _ _ _ _ _ _ _ _ _ _ _ _ _ _ _ _ _ _ _ _ _ _ _ _ _ _ _ _ _ _ _ _ _ _ _ _ _ _ _ _ _ _ _ _ _ _ _ _ _ _ _ _ _ _ _ _ _ _ _)
noncomputable def tmSC : Code := (Tryz.f10.body.bind (Tl.from_ 6)).getD .skip
set_option maxHeartbeats 25600000 in
set_option maxRecDepth 100000 in
theorem tmS (x : CV) (a6 a7 a8 a9 a10 a11 a12 a13 a14 : Option Addr) (c6 c7 c8 c9 c10 c11 c12 c13 c14 : Nat) (st fr tt fuel n : Int) (X : Int × Int × List Int) (w w2 : World) (HA : Hid (Ahead w)) (HU : Hid (-9223372036854775808 ≤ x.ua ∧ x.ua ≤ 9223372036854775807)) (L : Hid (LisV w x (.slice a6 x.sc.length c6) (.slice a7 x.mi.length c7) (.slice a8 x.hr.length c8) (.slice a9 x.dy.length c9) (.slice a10 x.md.length c10) (.slice a11 x.yd.length c11) (.slice a12 x.wn.length c12) (.slice a13 x.mo.length c13) (.slice a14 x.sp.length c14))) (S : Hid (Small x)) (I : Hid ((-9223372036854775808 ≤ st ∧ st ≤ 9223372036854775807) ∧ (-9223372036854775808 ≤ fr ∧ fr ≤ 9223372036854775807) ∧ (-9223372036854775808 ≤ tt ∧ tt ≤ 9223372036854775807) ∧ (-9223372036854775808 ≤ fuel ∧ fuel ≤ 9223372036854775807))) (PV : Hid (perV x st = n)) (PE : Hid (perE x st = 0)) (HX2 : Hid (X = outX (tmR x st fr tt fuel))) (FU : Hid (0 ≤ fuel ∧ fuel ≤ 200000)) (RB : Hid (Cs w.heap.size w2 [.int .i64 x.fq, .int .i64 x.iv, .int .i64 x.ct, .bool x.un, .int .i64 x.ua, .bool x.ut, .slice a6 x.sc.length c6, .slice a7 x.mi.length c7, .slice a8 x.hr.length c8, .slice a9 x.dy.length c9, .slice a10 x.md.length c10, .slice a11 x.yd.length c11, .slice a12 x.wn.length c12, .slice a13 x.mo.length c13, .slice a14 x.sp.length c14, .int .i64 x.wk])) (B : Hid (Below w.heap.size w w2)) (z0 z6 z7 z8 z9 z10 z11 z12 z14 z15 z16 z17 z18 z19 z20 z21 z22 z23 z24 z25 z26 z27 z28 z29 z30 z31 z32 z33 z34 z35 z36 z37 z38 z39 z40 z41 z42 z43 z44 z45 z46 z47 z48 z49 z50 z51 z52 z53 z54 z55 z56 z57 z58 z59 z60 z61 z62 z63 z64 z65 z66 z67 z68 z69 z70 z71 z72 z73 z74 z75 z76 z77 z78 z79 z80 z81 z82 z83 z84 z85 z86 z87 z88 z89 z90 z91 z92 z93 z94 z95 z96 z97 z98 z99 z100 z101 z102 z103 z104 z105 z106 z107 z108 z109 z110 z111 z112 z113 z114 z115 z116 z117 z118 z119 z120 z121 z122 z123 z124 : Value) : Code.wp Tryz.prog tmSC (bodyPost Tryz.prog Tryz.f10 (fun e w' => ∃ lv, e = .returned (.tuple #[lv, .int .i64 X.2.1, .int .i64 X.1]) ∧ RowI w.heap.size w' lv X.2.2 ∧ Below w.heap.size w w')) ⟨List.toArray (z0 :: .int .i64 st :: .int .i64 fr :: .int .i64 tt :: .int .i64 fuel :: .pointer (some ⟨w.heap.size, 0, none⟩) :: z6 :: z7 :: z8 :: z9 :: z10 :: z11 :: z12 :: .int .i64 n :: z14 :: z15 :: z16 :: z17 :: z18 :: z19 :: z20 :: z21 :: z22 :: z23 :: z24 :: z25 :: z26 :: z27 :: z28 :: z29 :: z30 :: z31 :: z32 :: z33 :: z34 :: z35 :: z36 :: z37 :: z38 :: z39 :: z40 :: z41 :: z42 :: z43 :: z44 :: z45 :: z46 :: z47 :: z48 :: z49 :: z50 :: z51 :: z52 :: z53 :: z54 :: z55 :: z56 :: z57 :: z58 :: z59 :: z60 :: z61 :: z62 :: z63 :: z64 :: z65 :: z66 :: z67 :: z68 :: z69 :: z70 :: z71 :: z72 :: z73 :: z74 :: z75 :: z76 :: z77 :: z78 :: z79 :: z80 :: z81 :: z82 :: z83 :: z84 :: z85 :: z86 :: z87 :: z88 :: z89 :: z90 :: z91 :: z92 :: z93 :: z94 :: z95 :: z96 :: z97 :: z98 :: z99 :: z100 :: z101 :: z102 :: z103 :: z104 :: z105 :: z106 :: z107 :: z108 :: z109 :: z110 :: z111 :: z112 :: z113 :: z114 :: z115 :: z116 :: z117 :: z118 :: z119 :: z120 :: z121 :: z122 :: z123 :: z124 :: []), []⟩ w2 := by
  conv => arg 2; whnf
  have hck : ckB x = true := by
    have q := PE.out
    rw [perE] at q
    by_cases m : ckB x = true
    · exact m
    · rw [if_neg m] at q; exact absurd q (by decide)
  have mst : moO st = true := by
    have q := PE.out
    rw [perE, if_pos hck] at q
    by_cases m : moO st = true
    · exact m
    · rw [if_neg m] at q; exact absurd q (by decide)
  have sq := mo_bd mst
  have MS := Lib.hid (show -1000000000000 ≤ st ∧ st ≤ 1000000000000 by omega)
  have CK := Lib.hid hck
  clear mst sq hck
  obtain ⟨SL, hSL⟩ : ∃ z, scL x st = z := ⟨_, rfl⟩
  have SLH := Lib.hid hSL
  clear hSL
  go_upto_region 6 with fail
  rename_i K6 hK6
  go_cut [14] (fun q wz => ∃ sb sc gg, q = .pointer (some ⟨gg, 0, none⟩) ∧ Hid (Cs w.heap.size wz [.int .i64 x.fq, .int .i64 x.iv, .int .i64 x.ct, .bool x.un, .int .i64 x.ua, .bool x.ut, .slice a6 x.sc.length c6, .slice a7 x.mi.length c7, .slice a8 x.hr.length c8, .slice a9 x.dy.length c9, .slice a10 x.md.length c10, .slice a11 x.yd.length c11, .slice a12 x.wn.length c12, .slice a13 x.mo.length c13, .slice a14 x.sp.length c14, .int .i64 x.wk]) ∧ Hid (Cs gg wz (gat [.int .i64 x.fq, .int .i64 x.iv, .int .i64 x.ct, .bool x.un, .int .i64 x.ua, .bool x.ut, .slice a6 x.sc.length c6, .slice a7 x.mi.length c7, .slice a8 x.hr.length c8, .slice a9 x.dy.length c9, .slice a10 x.md.length c10, .slice a11 x.yd.length c11, .slice a12 x.wn.length c12, .slice a13 x.mo.length c13, .slice a14 x.sp.length c14, .int .i64 x.wk, .int .i64 st, .slice (some ⟨sb, 0, none⟩) SL.length sc] fr tt (.slice none 0 0) 0)) ∧ Hid (∀ (j : Nat) (hj : j < SL.length), wz.cell? ⟨sb, j, none⟩ = some (.int .i64 SL[j])) ∧ Hid (w.heap.size < sb ∧ sb < gg ∧ gg < wz.heap.size) ∧ Hid (Below w.heap.size w wz))
  case first =>
    go_wp2_with (refine ldS RB.out.range rfl Tryz.underlying29 rfl (by kernel_rfl) (by rfl) (by rfl) ?_; intro K hK; go_simp)
    refine (plan_to x _ _ _ _ _ _ _ _ _ st _ (L.out.below B.out) S.out (by have := (hr_bd CK.out st).2; omega) (mi_bd CK.out st).2 (se_bd CK.out st).2 (fun n hn => by have := (hr_bd CK.out st).1 n hn; omega) (fun n hn => by have := (mi_bd CK.out st).1 n hn; omega) (fun n hn => by have := (se_bd CK.out st).1 n hn; omega) I.out.1.1 I.out.1.2).mono ?_
    rintro e w4 ⟨lv, rfl, hr, k⟩
    rw [SLH.out] at hr
    obtain ⟨sb, sc, rfl, hs1, hsb, hcl, -⟩ := hr.form (by have := sc_ne (x := x) st; rw [SLH.out] at this; exact List.length_pos_iff.2 this)
    have HCL := Lib.hid hcl
    have HSB := Lib.hid (show w.heap.size < sb ∧ sb < w4.heap.size from ⟨Nat.lt_of_lt_of_le RB.out.1 hs1, hsb⟩)
    have B := Lib.hid (bstep B.out k)
    have ZB : Hid (Cs w4.heap.size (w4.alloc (.cells #[.int .i64 0, .int .i64 0, .int .i64 0, .bool false, .int .i64 0, .bool false, .slice none 0 0, .slice none 0 0, .slice none 0 0, .slice none 0 0, .slice none 0 0, .slice none 0 0, .slice none 0 0, .slice none 0 0, .slice none 0 0, .int .i64 0, .int .i64 0, .slice none 0 0, .int .i64 0, .int .i64 0, .slice none 0 0, .int .i64 0] 63)) [.int .i64 0, .int .i64 0, .int .i64 0, .bool false, .int .i64 0, .bool false, .slice none 0 0, .slice none 0 0, .slice none 0 0, .slice none 0 0, .slice none 0 0, .slice none 0 0, .slice none 0 0, .slice none 0 0, .slice none 0 0, .int .i64 0, .int .i64 0, .slice none 0 0, .int .i64 0, .int .i64 0, .slice none 0 0, .int .i64 0]) := Lib.hid (Cs.new w4 _ _)
    have bel : Below w4.heap.size w4 ((w4.alloc (.cells #[.int .i64 0, .int .i64 0, .int .i64 0, .bool false, .int .i64 0, .bool false, .slice none 0 0, .slice none 0 0, .slice none 0 0, .slice none 0 0, .slice none 0 0, .slice none 0 0, .slice none 0 0, .slice none 0 0, .slice none 0 0, .int .i64 0, .int .i64 0, .slice none 0 0, .int .i64 0, .int .i64 0, .slice none 0 0, .int .i64 0] 63)).setCells w4.heap.size 0 [.int .i64 x.fq, .int .i64 x.iv, .int .i64 x.ct, .bool x.un, .int .i64 x.ua, .bool x.ut, .slice a6 x.sc.length c6, .slice a7 x.mi.length c7, .slice a8 x.hr.length c8, .slice a9 x.dy.length c9, .slice a10 x.md.length c10, .slice a11 x.yd.length c11, .slice a12 x.wn.length c12, .slice a13 x.mo.length c13, .slice a14 x.sp.length c14, .int .i64 x.wk, .int .i64 st, .slice (some ⟨sb, 0, none⟩) SL.length sc, .int .i64 fr, .int .i64 tt, .slice none 0 0, .int .i64 0]) := below_setCells (Nat.le_refl _) _ 0 _ ((Below.refl _ _).alloc (Nat.le_refl _) _)
    have RB := Lib.hid ((RB.out.below k).below bel)
    have GC : Hid (Cs w4.heap.size ((w4.alloc (.cells #[.int .i64 0, .int .i64 0, .int .i64 0, .bool false, .int .i64 0, .bool false, .slice none 0 0, .slice none 0 0, .slice none 0 0, .slice none 0 0, .slice none 0 0, .slice none 0 0, .slice none 0 0, .slice none 0 0, .slice none 0 0, .int .i64 0, .int .i64 0, .slice none 0 0, .int .i64 0, .int .i64 0, .slice none 0 0, .int .i64 0] 63)).setCells w4.heap.size 0 [.int .i64 x.fq, .int .i64 x.iv, .int .i64 x.ct, .bool x.un, .int .i64 x.ua, .bool x.ut, .slice a6 x.sc.length c6, .slice a7 x.mi.length c7, .slice a8 x.hr.length c8, .slice a9 x.dy.length c9, .slice a10 x.md.length c10, .slice a11 x.yd.length c11, .slice a12 x.wn.length c12, .slice a13 x.mo.length c13, .slice a14 x.sp.length c14, .int .i64 x.wk, .int .i64 st, .slice (some ⟨sb, 0, none⟩) SL.length sc, .int .i64 fr, .int .i64 tt, .slice none 0 0, .int .i64 0]) (gat [.int .i64 x.fq, .int .i64 x.iv, .int .i64 x.ct, .bool x.un, .int .i64 x.ua, .bool x.ut, .slice a6 x.sc.length c6, .slice a7 x.mi.length c7, .slice a8 x.hr.length c8, .slice a9 x.dy.length c9, .slice a10 x.md.length c10, .slice a11 x.yd.length c11, .slice a12 x.wn.length c12, .slice a13 x.mo.length c13, .slice a14 x.sp.length c14, .int .i64 x.wk, .int .i64 st, .slice (some ⟨sb, 0, none⟩) SL.length sc] fr tt (.slice none 0 0) 0)) := Lib.hid (Cs.row ZB.out [.int .i64 x.fq, .int .i64 x.iv, .int .i64 x.ct, .bool x.un, .int .i64 x.ua, .bool x.ut, .slice a6 x.sc.length c6, .slice a7 x.mi.length c7, .slice a8 x.hr.length c8, .slice a9 x.dy.length c9, .slice a10 x.md.length c10, .slice a11 x.yd.length c11, .slice a12 x.wn.length c12, .slice a13 x.mo.length c13, .slice a14 x.sp.length c14, .int .i64 x.wk, .int .i64 st, .slice (some ⟨sb, 0, none⟩) SL.length sc, .int .i64 fr, .int .i64 tt, .slice none 0 0, .int .i64 0] rfl)
    have HCL2 := Lib.hid (fun (j : Nat) (hj : j < SL.length) => (bel.cell (p := ⟨sb, j, none⟩) HSB.out.2).trans (HCL.out j hj))
    have HSB2 := Lib.hid (And.intro HSB.out.1 (And.intro HSB.out.2 GC.out.1))
    have B2 := Lib.hid (bstep B.out bel)
    clear k hr hcl hsb hs1 bel
    go_wp2_with (refine stS ZB.out (us := [.int .i64 x.fq, .int .i64 x.iv, .int .i64 x.ct, .bool x.un, .int .i64 x.ua, .bool x.ut, .slice a6 x.sc.length c6, .slice a7 x.mi.length c7, .slice a8 x.hr.length c8, .slice a9 x.dy.length c9, .slice a10 x.md.length c10, .slice a11 x.yd.length c11, .slice a12 x.wn.length c12, .slice a13 x.mo.length c13, .slice a14 x.sp.length c14, .int .i64 x.wk, .int .i64 st, .slice (some ⟨sb, 0, none⟩) SL.length sc, .int .i64 fr, .int .i64 tt, .slice none 0 0, .int .i64 0]) rfl (by simp [Value.oneCell']) rfl (by kernel_rfl) (by rfl) (by rfl) (by rfl) ?_; intro K hK; refine hK _ _ ?_)
    go_meet
    exact ⟨sb, sc, _, rfl, RB, GC, HCL2, HSB2, B2⟩
  case rest =>
  obtain ⟨w4, rfl⟩ : ∃ x : World, x = wc := ⟨_, rfl⟩
  clear RB B
  obtain ⟨sb, sc, gg, rfl, RB, GC, HCL, HSB, B⟩ := hcut
  exact hK6 _ _ (tmA x a6 a7 a8 a9 a10 a11 a12 a13 a14 c6 c7 c8 c9 c10 c11 c12 c13 c14 st fr tt fuel n sb sc gg SL X w w4 HA HU L S I CK MS SLH PV HX2 FU RB GC HCL HSB B _ _ _ _ _ _ _ _ _ _ _ _ _ _ _ _ _ _ _ _ _ _ _ _ _ _ _ _ _ _ _ _ _ _ _ _ _ _ _ _ _ _ _ _ _ _ _ _ _ _ _ _ _ _ _ _ _ _ _ _ _ _ _ _ _ _ _ _ _ _ _ _ _ _ _ _ _ _ _ _ _ _ _ _ _ _ _ _ _ _ _ _ _ _ _ _ _ _ _ _ _ _ _ _ _ _ _ _ _ _ _ _ _ _ _ _ _ _)
noncomputable def tmDC : Code := (Tryz.f10.body.bind (Tl.from_ 4)).getD .skip
set_option maxHeartbeats 25600000 in
set_option maxRecDepth 100000 in
theorem tmD (x : CV) (a6 a7 a8 a9 a10 a11 a12 a13 a14 : Option Addr) (c6 c7 c8 c9 c10 c11 c12 c13 c14 : Nat) (st fr tt fuel n : Int) (X : Int × Int × List Int) (w w2 : World) (HA : Hid (Ahead w)) (HU : Hid (-9223372036854775808 ≤ x.ua ∧ x.ua ≤ 9223372036854775807)) (L : Hid (LisV w x (.slice a6 x.sc.length c6) (.slice a7 x.mi.length c7) (.slice a8 x.hr.length c8) (.slice a9 x.dy.length c9) (.slice a10 x.md.length c10) (.slice a11 x.yd.length c11) (.slice a12 x.wn.length c12) (.slice a13 x.mo.length c13) (.slice a14 x.sp.length c14))) (S : Hid (Small x)) (I : Hid ((-9223372036854775808 ≤ st ∧ st ≤ 9223372036854775807) ∧ (-9223372036854775808 ≤ fr ∧ fr ≤ 9223372036854775807) ∧ (-9223372036854775808 ≤ tt ∧ tt ≤ 9223372036854775807) ∧ (-9223372036854775808 ≤ fuel ∧ fuel ≤ 9223372036854775807))) (PV : Hid (perV x st = n)) (PE : Hid (perE x st = 0)) (HX2 : Hid (X = if arB fr tt fuel = true then erX 1 else outX (tmR x st fr tt fuel))) (RB : Hid (Cs w.heap.size w2 [.int .i64 x.fq, .int .i64 x.iv, .int .i64 x.ct, .bool x.un, .int .i64 x.ua, .bool x.ut, .slice a6 x.sc.length c6, .slice a7 x.mi.length c7, .slice a8 x.hr.length c8, .slice a9 x.dy.length c9, .slice a10 x.md.length c10, .slice a11 x.yd.length c11, .slice a12 x.wn.length c12, .slice a13 x.mo.length c13, .slice a14 x.sp.length c14, .int .i64 x.wk])) (B : Hid (Below w.heap.size w w2)) (z0 z6 z7 z8 z9 z10 z11 z12 z14 z15 z16 z17 z18 z19 z20 z21 z22 z23 z24 z25 z26 z27 z28 z29 z30 z31 z32 z33 z34 z35 z36 z37 z38 z39 z40 z41 z42 z43 z44 z45 z46 z47 z48 z49 z50 z51 z52 z53 z54 z55 z56 z57 z58 z59 z60 z61 z62 z63 z64 z65 z66 z67 z68 z69 z70 z71 z72 z73 z74 z75 z76 z77 z78 z79 z80 z81 z82 z83 z84 z85 z86 z87 z88 z89 z90 z91 z92 z93 z94 z95 z96 z97 z98 z99 z100 z101 z102 z103 z104 z105 z106 z107 z108 z109 z110 z111 z112 z113 z114 z115 z116 z117 z118 z119 z120 z121 z122 z123 z124 : Value) : Code.wp Tryz.prog tmDC (bodyPost Tryz.prog Tryz.f10 (fun e w' => ∃ lv, e = .returned (.tuple #[lv, .int .i64 X.2.1, .int .i64 X.1]) ∧ RowI w.heap.size w' lv X.2.2 ∧ Below w.heap.size w w')) ⟨List.toArray (z0 :: .int .i64 st :: .int .i64 fr :: .int .i64 tt :: .int .i64 fuel :: .pointer (some ⟨w.heap.size, 0, none⟩) :: z6 :: z7 :: z8 :: z9 :: z10 :: z11 :: z12 :: .int .i64 n :: z14 :: z15 :: z16 :: z17 :: z18 :: z19 :: z20 :: z21 :: z22 :: z23 :: z24 :: z25 :: z26 :: z27 :: z28 :: z29 :: z30 :: z31 :: z32 :: z33 :: z34 :: z35 :: z36 :: z37 :: z38 :: z39 :: z40 :: z41 :: z42 :: z43 :: z44 :: z45 :: z46 :: z47 :: z48 :: z49 :: z50 :: z51 :: z52 :: z53 :: z54 :: z55 :: z56 :: z57 :: z58 :: z59 :: z60 :: z61 :: z62 :: z63 :: z64 :: z65 :: z66 :: z67 :: z68 :: z69 :: z70 :: z71 :: z72 :: z73 :: z74 :: z75 :: z76 :: z77 :: z78 :: z79 :: z80 :: z81 :: z82 :: z83 :: z84 :: z85 :: z86 :: z87 :: z88 :: z89 :: z90 :: z91 :: z92 :: z93 :: z94 :: z95 :: z96 :: z97 :: z98 :: z99 :: z100 :: z101 :: z102 :: z103 :: z104 :: z105 :: z106 :: z107 :: z108 :: z109 :: z110 :: z111 :: z112 :: z113 :: z114 :: z115 :: z116 :: z117 :: z118 :: z119 :: z120 :: z121 :: z122 :: z123 :: z124 :: []), []⟩ w2 := by
  conv => arg 2; whnf
  obtain ⟨ab, hab⟩ : ∃ z, arB fr tt fuel = z := ⟨_, rfl⟩
  have AB := Lib.hid hab
  have HX : Hid (X = if ab = true then erX 1 else outX (tmR x st fr tt fuel)) := Lib.hid (by rw [HX2.out, hab])
  clear HX2 hab
  go_upto_region 4 with fail
  rename_i K6 hK6 Kc hKc
  go_cut [50] (fun v wz => v = .bool ab ∧ w2 = wz)
  case first =>
    clear HX RB B
    obtain ⟨bf, hbf⟩ : ∃ z, wiB fr = z := ⟨_, rfl⟩
    obtain ⟨bt, hbt⟩ : ∃ z, wiB tt = z := ⟨_, rfl⟩
    have WF := Lib.hid hbf
    have WT := Lib.hid hbt
    have AB2 : Hid ((decide (tt < fr) || (!bf || (!bt || (decide (fuel < 0) || decide (200000 < fuel))))) = ab) := Lib.hid (by rw [← AB.out, arB, hbf, hbt])
    clear AB hbf hbt
    by_cases h1 : tt < fr
    · have d1 := decide_eq_true h1
      obtain rfl : ab = true := by rw [← AB2.out, d1]; rfl
      clear AB2
      go_wp2
      go_meet
      exact ⟨rfl, rfl⟩
    · have d1 := decide_eq_false h1
      go_wp2_with fail
      refine (within_to fr bf _ WF).mono ?_
      rintro e wx ⟨rfl, rfl⟩
      cases bf with
      | false =>
        obtain rfl : ab = true := by rw [← AB2.out, d1]; rfl
        clear AB2
        go_wp2
        go_meet
        exact ⟨rfl, rfl⟩
      | true =>
        go_wp2_with fail
        refine (within_to tt bt _ WT).mono ?_
        rintro e wx ⟨rfl, rfl⟩
        cases bt with
        | false =>
          obtain rfl : ab = true := by rw [← AB2.out, d1]; rfl
          clear AB2
          go_wp2
          go_meet
          exact ⟨rfl, rfl⟩
        | true =>
          by_cases h4 : fuel < 0
          · have d4 := decide_eq_true h4
            obtain rfl : ab = true := by rw [← AB2.out, d1, d4]; rfl
            clear AB2
            go_wp2
            go_meet
            exact ⟨rfl, rfl⟩
          · have d4 := decide_eq_false h4
            obtain rfl : ab = decide (200000 < fuel) := by rw [← AB2.out, d1, d4]; rfl
            clear AB2
            go_wp2
            go_meet
            exact ⟨rfl, rfl⟩
  case rest =>
  obtain ⟨rfl, hw⟩ := hcut
  subst hw
  cases ab with
  | true =>
    obtain rfl : X = erX 1 := by rw [HX.out, if_pos rfl]
    clear HX
    go_wp2
    go_ret3
    exact ⟨_, rfl, RowI.nil _ _, B.out⟩
  | false =>
  have HX2 : Hid (X = outX (tmR x st fr tt fuel)) := Lib.hid (by rw [HX.out, if_neg (by simp)])
  clear HX
  go_step
  go_step
  go_step
  go_step
  have FU := Lib.hid (fu_bd AB.out)
  exact hK6 _ _ (tmS x a6 a7 a8 a9 a10 a11 a12 a13 a14 c6 c7 c8 c9 c10 c11 c12 c13 c14 st fr tt fuel n X w w2 HA HU L S I PV PE HX2 FU RB B _ _ _ _ _ _ _ _ _ _ _ _ _ _ _ _ _ _ _ _ _ _ _ _ _ _ _ _ _ _ _ _ _ _ _ _ _ _ _ _ _ _ _ _ _ _ _ _ _ _ _ _ _ _ _ _ _ _ _ _ _ _ _ _ _ _ _ _ _ _ _ _ _ _ _ _ _ _ _ _ _ _ _ _ _ _ _ _ _ _ _ _ _ _ _ _ _ _ _ _ _ _ _ _ _ _ _ _ _ _ _ _ _ _ _ _ _ _ _)
set_option maxHeartbeats 12800000 in
set_option maxRecDepth 100000 in
theorem tms_to (x : CV) (s6 s7 s8 s9 s10 s11 s12 s13 s14 : Value) (st fr tt fuel : Int) (X : Int × Int × List Int) (w : World) (HA : Hid (Ahead w)) (HU : Hid (-9223372036854775808 ≤ x.ua ∧ x.ua ≤ 9223372036854775807)) (L : Hid (LisV w x s6 s7 s8 s9 s10 s11 s12 s13 s14)) (S : Hid (Small x)) (I : Hid ((-9223372036854775808 ≤ st ∧ st ≤ 9223372036854775807) ∧ (-9223372036854775808 ≤ fr ∧ fr ≤ 9223372036854775807) ∧ (-9223372036854775808 ≤ tt ∧ tt ≤ 9223372036854775807) ∧ (-9223372036854775808 ≤ fuel ∧ fuel ≤ 9223372036854775807))) (hX : Hid (tmX x st fr tt fuel = X)) :
    Calls Tryz.prog 10 #[.agg #[.int .i64 x.fq, .int .i64 x.iv, .int .i64 x.ct, .bool x.un, .int .i64 x.ua, .bool x.ut, s6, s7, s8, s9, s10, s11, s12, s13, s14, .int .i64 x.wk], .int .i64 st, .int .i64 fr, .int .i64 tt, .int .i64 fuel] w fun e w' => ∃ lv, e = .returned (.tuple #[lv, .int .i64 X.2.1, .int .i64 X.1]) ∧ RowI w.heap.size w' lv X.2.2 ∧ Below w.heap.size w w' := by
  obtain ⟨a6, c6, rfl⟩ := L.out.h6.slice
  obtain ⟨a7, c7, rfl⟩ := L.out.h7.slice
  obtain ⟨a8, c8, rfl⟩ := L.out.h8.slice
  obtain ⟨a9, c9, rfl⟩ := L.out.h9.slice
  obtain ⟨a10, c10, rfl⟩ := L.out.h10.slice
  obtain ⟨a11, c11, rfl⟩ := L.out.h11.slice
  obtain ⟨a12, c12, rfl⟩ := L.out.h12.slice
  obtain ⟨a13, c13, rfl⟩ := L.out.h13.slice
  obtain ⟨a14, c14, rfl⟩ := L.out.h14.slice
  obtain ⟨n, hn⟩ : ∃ z, perV x st = z := ⟨_, rfl⟩
  obtain ⟨e, he⟩ : ∃ z, perE x st = z := ⟨_, rfl⟩
  have HX : Hid (X = if e ≠ 0 then erX e else if arB fr tt fuel = true then erX 1 else outX (tmR x st fr tt fuel)) := Lib.hid (by rw [← hX.out, tmX, he])
  have PV := Lib.hid hn
  have PE := Lib.hid he
  clear hX hn he
  go_enter Tryz.func10, Tryz.ntmps10
  go_upto_region 0 with fail
  go_cut [5] (fun q wz => q = .pointer (some ⟨w.heap.size, 0, none⟩) ∧ Hid (Cs w.heap.size wz [.int .i64 x.fq, .int .i64 x.iv, .int .i64 x.ct, .bool x.un, .int .i64 x.ua, .bool x.ut, .slice a6 x.sc.length c6, .slice a7 x.mi.length c7, .slice a8 x.hr.length c8, .slice a9 x.dy.length c9, .slice a10 x.md.length c10, .slice a11 x.yd.length c11, .slice a12 x.wn.length c12, .slice a13 x.mo.length c13, .slice a14 x.sp.length c14, .int .i64 x.wk]) ∧ Hid (Below w.heap.size w wz))
  case first =>
    go_wp2
    go_meet
    exact ⟨rfl, Lib.hid (Cs.new w _ _), Lib.hid ((Below.refl _ _).alloc (Nat.le_refl _) _)⟩
  case rest =>
  obtain ⟨w1, rfl⟩ : ∃ x : World, x = wc := ⟨_, rfl⟩
  obtain ⟨rfl, RB, B⟩ := hcut
  go_upto_region 1 with fail
  go_cut [12, 13] (fun v u wz => v = .int .i64 e ∧ u = .int .i64 n ∧ Hid (Cs w.heap.size wz [.int .i64 x.fq, .int .i64 x.iv, .int .i64 x.ct, .bool x.un, .int .i64 x.ua, .bool x.ut, .slice a6 x.sc.length c6, .slice a7 x.mi.length c7, .slice a8 x.hr.length c8, .slice a9 x.dy.length c9, .slice a10 x.md.length c10, .slice a11 x.yd.length c11, .slice a12 x.wn.length c12, .slice a13 x.mo.length c13, .slice a14 x.sp.length c14, .int .i64 x.wk]) ∧ Hid (Below w.heap.size w wz))
  case first =>
    clear HX
    go_wp2_with (refine ldS RB.out.range rfl Tryz.underlying29 rfl (by kernel_rfl) (by rfl) (by rfl) ?_; intro K hK; go_simp)
    refine (per_to x _ _ _ _ _ _ _ _ _ st n e _ (HA.out.stays B.out) HU.out.1 HU.out.2 (L.out.below B.out) S.out I.out.1.1 I.out.1.2 PV PE).mono ?_
    rintro e w2 ⟨rfl, k⟩
    have RB := Lib.hid (RB.out.below k)
    have B := Lib.hid (bstep B.out k)
    clear k
    go_wp2
    go_meet
    exact ⟨rfl, rfl, RB, B⟩
  case rest =>
  obtain ⟨w2, rfl⟩ : ∃ x : World, x = wc := ⟨_, rfl⟩
  clear RB B
  obtain ⟨rfl, rfl, RB, B⟩ := hcut
  by_cases e0 : e = 0
  case neg =>
    have f1 : (e == 0) = false := beq_eq_false_iff_ne.2 e0
    have f2 : (e != 0) = true := by rw [bne, f1]; rfl
    obtain rfl : X = erX e := by rw [HX.out, if_pos e0]
    clear HX e0
    go_wp2
    go_ret3
    exact ⟨_, rfl, RowI.nil _ _, B.out⟩
  subst e0
  have HX2 : Hid (X = if arB fr tt fuel = true then erX 1 else outX (tmR x st fr tt fuel)) := Lib.hid (by rw [HX.out, if_neg (by simp)])
  clear HX
  go_upto_region 2 with fail
  rename_i K4 hK4 Kc hKc
  go_cut [28] (fun v wz => v = .bool false ∧ w2 = wz)
  case first =>
    clear HX2 RB B
    go_wp2
    go_meet
    exact ⟨rfl, rfl⟩
  case rest =>
  obtain ⟨rfl, hw⟩ := hcut
  subst hw
  go_step
  go_step
  go_step
  go_step
  exact hK4 _ _ (tmD x a6 a7 a8 a9 a10 a11 a12 a13 a14 c6 c7 c8 c9 c10 c11 c12 c13 c14 st fr tt fuel n X w w2 HA HU L S I PV PE HX2 RB B _ _ _ _ _ _ _ _ _ _ _ _ _ _ _ _ _ _ _ _ _ _ _ _ _ _ _ _ _ _ _ _ _ _ _ _ _ _ _ _ _ _ _ _ _ _ _ _ _ _ _ _ _ _ _ _ _ _ _ _ _ _ _ _ _ _ _ _ _ _ _ _ _ _ _ _ _ _ _ _ _ _ _ _ _ _ _ _ _ _ _ _ _ _ _ _ _ _ _ _ _ _ _ _ _ _ _ _ _ _ _ _ _ _ _ _ _ _ _)
end Rru
end Go.Proofs.YtpbbnkgfheafpaaGreatDoor
/-
  Package rrule: Last.
-/
namespace Go.Proofs.YtpbbnkgfheafpaaGreatDoor
open Go.RowKit
namespace Rru
open Rcv (CV IntV DayV LisV)
open Ap (RowI Grew)
open Rck (Small ckB)
open Civ (Ahead)
open Fil (spE spT spF moO mo_bd)
open Cel
theorem results_t4 {fn : Func} {t u v x : Tmp} (h : fn.results = #[.tmp t, .tmp u, .tmp v, .tmp x]) (tmps : Array Value) (P : Program) (w : World) :
    (results fn tmps).run P w = .ok (.tuple #[tmps.getD t undef, tmps.getD u undef, tmps.getD v undef, tmps.getD x undef]) w := by
  simp [results, h]
/-- The last of the times: it, whether there is one, the cost, the error number. -/
def lsO (X : Int × Int × List Int) : Int × Bool × Int × Int := if X.1 ≠ 0 ∨ X.2.2 = [] then (0, false, X.2.1, X.1) else (X.2.2.getD (X.2.2.length - 1) 0, true, X.2.1, 0)
/-- How many times are told at most. -/
theorem go_len (x : CV) (st fr tt fuel : Int) : ∀ (m : Nat) (p c : Int) (s : Int × List Int) (r : Int × List Int), c ≤ fuel → goT x st fr tt fuel m p c s = some r → c ≤ r.1 ∧ r.1 ≤ fuel ∧ (r.2.length : Int) ≤ s.2.length + (r.1 - c)
  | 0, _, _, _, _, _, h => by rw [goT] at h; exact absurd h (by simp)
  | m + 1, p, c, s, r, hc, h => by
    rw [goT] at h
    split at h
    · injection h with h; subst h; simp; omega
    · split at h
      · injection h with h; subst h; simp; omega
      · split at h
        · exact absurd h (by simp)
        · rename_i hf
          have q := go_len x st fr tt fuel m _ _ _ r (by omega) h
          have l := per_len x st fr tt (gaL x st (spF x p) (spT x p)) s
          have t := ti_len x (bsL x st (s0F x st) (spF x p) (spT x p)) (scL x st)
          have t2 : ((gaL x st (spF x p) (spT x p)).length : Int) ≤ ((bsL x st (s0F x st) (spF x p) (spT x p)).length : Int) * ((scL x st).length : Int) := by rw [gaL, ← Int.natCast_mul]; omega
          omega
theorem tm_len (x : CV) (st fr tt fuel : Int) : (tmX x st fr tt fuel).2.2.length ≤ 1000000 := by
  rw [tmX]
  split
  · simp [erX]
  · split
    · simp [erX]
    · rename_i hab
      have fu := fu_bd (Bool.not_eq_true _ ▸ hab)
      rw [tmR]
      split
      · cases h : goT x st fr tt fuel (fuel.toNat + 2) (fsF x (Fil.perV x st) fr).1 0 (1, tkL fr tt st []) with
        | none => simp [outX]
        | some r =>
          have q := go_len x st fr tt fuel _ _ _ _ r fu.1 h
          have t := tk_len fr tt st []
          simp at t
          show r.2.length ≤ 1000000
          simp only at q
          omega
      · have t := tk_len fr tt st []
        simp at t
        show (tkL fr tt st []).length ≤ 1000000
        omega
/-- The span that Last asks for. -/
def lsF (tz bk : Int) : Int × Int := if wiB tz = true ∧ 0 ≤ bk ∧ bk ≤ 4611686018427387904 then (tz - bk, tz) else (1, 0)
def lsX (x : CV) (st tz bk fuel : Int) : Int × Bool × Int × Int := lsO (tmX x st (lsF tz bk).1 (lsF tz bk).2 fuel)
end Rru
end Go.Proofs.YtpbbnkgfheafpaaGreatDoor
