/-
  FilterSpans: the law answers true at every rule, time and number, in whatever world that holds the table of the months.
-/
import Derived.Test.YtpcmfgfhdnfmcaaDoorBdFn
import Derived.Test.YtpcmfgfhdnfmcaaDoorRcbH
import Derived.Test.YtpcmfgfhdnfmcaaDoorRrlF
import Derived.Test.YtpcmfgfhdnfmcaaDoorVxR
import Derived.Test.YtpcmfgfhdnfmcaaDoorRcbO
namespace Go.Proofs.YtpcmfgfhdnfmcaaDoor
open Go.RowKit
namespace Fil
open Rcv (CV LisV IntV DayV)
open Rck (ckE ckB Small)
open Civ (numV numE dY dM dD dnE ydV Ahead)
open Cel
theorem small_of {x : CV} (h : Rct.Len3 x) : Small x := by
  obtain ⟨a, b, c, d, e, f, g, i, j⟩ := h
  exact ⟨by omega, by omega, by omega, by omega, by omega, by omega, by omega, by omega, by omega⟩
set_option maxHeartbeats 25600000 in
set_option maxRecDepth 100000 in
theorem spans_any (t at_ : Int) (x : CV) (s6 s7 s8 s9 s10 s11 s12 s13 s14 : Value) (w : World) (hA : Ahead w) (hl : LisV w x s6 s7 s8 s9 s10 s11 s12 s13 s14) (hu1 : -9223372036854775808 ≤ x.ua) (hu2 : x.ua ≤ 9223372036854775807) :
    Calls Tryd.prog 4 #[.agg #[.int .i64 x.fq, .int .i64 x.iv, .int .i64 x.ct, .bool x.un, .int .i64 x.ua, .bool x.ut, s6, s7, s8, s9, s10, s11, s12, s13, s14, .int .i64 x.wk], .int .i64 t, .int .i64 at_] w fun e w' => e = .returned (.bool true) ∧ Below w.heap.size w w' := by
  have HA := Lib.hid hA
  have L := Lib.hid hl
  have HU := Lib.hid (And.intro hu1 hu2)
  clear hA hl hu1 hu2
  obtain ⟨T, hT⟩ : ∃ a, vsm t = a := ⟨_, rfl⟩
  have mT : moO T = true := by rw [← hT]; exact vsm_mo t
  have tb := vsm_bd t
  rw [hT] at tb
  have V1 := Lib.hid hT
  have MT := Lib.hid mT
  have TB := Lib.hid tb
  clear hT mT tb
  go_enter Tryd.func4, Tryd.ntmps4
  go_upto_region 0 with fail
  go_cut [3] (fun p wz => p = .pointer (some ⟨w.heap.size, 0, none⟩) ∧ Hid (Cs w.heap.size wz [.int .i64 x.fq, .int .i64 x.iv, .int .i64 x.ct, .bool x.un, .int .i64 x.ua, .bool x.ut, s6, s7, s8, s9, s10, s11, s12, s13, s14, .int .i64 x.wk]) ∧ Hid (Below w.heap.size w wz))
  case first =>
    go_wp2
    go_meet
    exact ⟨rfl, Lib.hid (Cs.new w _ _), Lib.hid ((Below.refl _ _).alloc (Nat.le_refl _) _)⟩
  case rest =>
  obtain ⟨w1, rfl⟩ : ∃ x : World, x = wc := ⟨_, rfl⟩
  obtain ⟨rfl, RB, B⟩ := hcut
  obtain ⟨kb, hkb⟩ : ∃ c, ckB x = c := ⟨_, rfl⟩
  have HKB := Lib.hid hkb
  clear hkb
  go_wp2_with (refine ld16 RB.out rfl (by rfl) (by rfl) (by rfl) ?_; intro K hK; go_simp)
  refine (Rct.hv_to _ _ _ _ _ _ _ _ _ x _ (L.out.below B.out)).mono ?_
  rintro e w2 ⟨hb, rfl, HH, k⟩
  have RB := Lib.hid (RB.out.below k)
  have B := Lib.hid (bstep B.out k)
  clear k
  cases hb with
  | true =>
    go_wp2
    go_ret
    exact ⟨ret_b rfl, B.out⟩
  | false =>
  have S := Lib.hid (small_of (HH.out rfl))
  go_wp2_with (refine ld16 RB.out rfl (by rfl) (by rfl) (by rfl) ?_; intro K hK; go_simp)
  refine (Rrl.rrec_to _ _ _ _ _ _ _ _ _ x kb _ HU.out.1 HU.out.2 (L.out.below B.out) HKB).mono ?_
  rintro e w3 ⟨rfl, k⟩
  have RB := Lib.hid (RB.out.below k)
  have B := Lib.hid (bstep B.out k)
  clear k
  cases kb with
  | false =>
    go_wp2
    go_ret
    exact ⟨ret_b rfl, B.out⟩
  | true =>
  have KF := Lib.hid (ck_fq HKB.out)
  obtain ⟨p, hp⟩ : ∃ p, perQ x T = p := ⟨_, rfl⟩
  have PV : Hid (perV x T = p) := Lib.hid (by rw [perV, if_pos ⟨HKB.out, MT.out⟩, hp])
  have PE : Hid (perE x T = 0) := Lib.hid (by rw [perE, if_pos HKB.out, if_pos MT.out])
  have HP := Lib.hid hp
  clear hp
  go_upto_region 3 with fail
  go_cut [1] (fun a wz => a = .int .i64 T ∧ Hid (Cs w.heap.size wz [.int .i64 x.fq, .int .i64 x.iv, .int .i64 x.ct, .bool x.un, .int .i64 x.ua, .bool x.ut, s6, s7, s8, s9, s10, s11, s12, s13, s14, .int .i64 x.wk]) ∧ Hid (Below w.heap.size w wz))
  case first =>
    go_wp2_with fail
    refine (vsome_to t T _ V1).mono ?_
    rintro e w4 ⟨rfl, k⟩
    have RB := Lib.hid (RB.out.below k)
    have B := Lib.hid (bstep B.out k)
    clear k
    go_wp2
    go_meet
    exact ⟨rfl, RB, B⟩
  case rest =>
  obtain ⟨w4, rfl⟩ : ∃ x : World, x = wc := ⟨_, rfl⟩
  clear RB B
  obtain ⟨rfl, RB, B⟩ := hcut
  go_upto_region 4 with fail
  go_cut [7, 8] (fun a b wz => a = .int .i64 p ∧ b = .int .i64 0 ∧ Hid (Cs w.heap.size wz [.int .i64 x.fq, .int .i64 x.iv, .int .i64 x.ct, .bool x.un, .int .i64 x.ua, .bool x.ut, s6, s7, s8, s9, s10, s11, s12, s13, s14, .int .i64 x.wk]) ∧ Hid (Below w.heap.size w wz))
  case first =>
    go_wp2_with (refine ld16 RB.out rfl (by rfl) (by rfl) (by rfl) ?_; intro K hK; go_simp)
    refine (per_to x _ _ _ _ _ _ _ _ _ T p 0 _ (HA.out.stays B.out) HU.out.1 HU.out.2 (L.out.below B.out) S.out (by have := TB.out; omega) (by have := TB.out; omega) PV PE).mono ?_
    rintro e w5 ⟨rfl, k⟩
    have RB := Lib.hid (RB.out.below k)
    have B := Lib.hid (bstep B.out k)
    clear k
    go_wp2
    go_meet
    exact ⟨rfl, rfl, RB, B⟩
  case rest =>
  obtain ⟨w5, rfl⟩ : ∃ x : World, x = wc := ⟨_, rfl⟩
  clear RB B
  obtain ⟨rfl, rfl, RB, B⟩ := hcut
  obtain ⟨f, hf⟩ : ∃ z, spF x p = z := ⟨_, rfl⟩
  obtain ⟨g, hg⟩ : ∃ z, spT x p = z := ⟨_, rfl⟩
  obtain ⟨c, hc⟩ : ∃ z, spE x p = z := ⟨_, rfl⟩
  have SF := Lib.hid hf
  have ST := Lib.hid hg
  have SE := Lib.hid hc
  clear hf hg hc
  go_upto_region 5 with fail
  go_cut [9, 10, 11] (fun a b d wz => a = .int .i64 f ∧ b = .int .i64 g ∧ d = .int .i64 c ∧ Hid (Cs w.heap.size wz [.int .i64 x.fq, .int .i64 x.iv, .int .i64 x.ct, .bool x.un, .int .i64 x.ua, .bool x.ut, s6, s7, s8, s9, s10, s11, s12, s13, s14, .int .i64 x.wk]) ∧ Hid (Below w.heap.size w wz))
  case first =>
    go_wp2_with (refine ld16 RB.out rfl (by rfl) (by rfl) (by rfl) ?_; intro K hK; go_simp)
    refine (span_to x _ _ _ _ _ _ _ _ _ p f g c _ (HA.out.stays B.out) HU.out.1 HU.out.2 (L.out.below B.out) S.out SF ST SE).mono ?_
    rintro e w6 ⟨rfl, k⟩
    have RB := Lib.hid (RB.out.below k)
    have B := Lib.hid (bstep B.out k)
    clear k
    go_wp2
    go_meet
    exact ⟨rfl, rfl, rfl, RB, B⟩
  case rest =>
  obtain ⟨w6, rfl⟩ : ∃ x : World, x = wc := ⟨_, rfl⟩
  clear RB B
  obtain ⟨rfl, rfl, rfl, RB, B⟩ := hcut
  obtain ⟨q, hq⟩ : ∃ q, spQ x p = q := ⟨_, rfl⟩
  cases q with
  | false =>
    have hc : c = 23 := by rw [← SE.out, spE, if_pos HKB.out, hq]; rfl
    subst hc
    obtain ⟨d, hd⟩ : ∃ d, T / 86400 = d := ⟨_, rfl⟩
    obtain ⟨Y, hY⟩ : ∃ z, dY d = z := ⟨_, rfl⟩
    obtain ⟨M, hM⟩ : ∃ z, dM d = z := ⟨_, rfl⟩
    obtain ⟨D, hD⟩ : ∃ z, dD d = z := ⟨_, rfl⟩
    have far : Y < 3 ∨ 9997 < Y := by
      by_cases g1 : Y < 3
      · exact Or.inl g1
      · by_cases g2 : 9997 < Y
        · exact Or.inr g2
        · have s := sp_far HKB.out MT.out (by rw [hd, hY]; omega)
          rw [HP.out, hq] at s
          cases s
    have P1 := Lib.hid (show dY (T / 86400) = Y ∧ dM (T / 86400) = M ∧ dD (T / 86400) = D from ⟨by rw [hd, hY], by rw [hd, hM], by rw [hd, hD]⟩)
    have TM := Lib.hid (show decide (Val.tmE T = 0) = true from decide_eq_true (by
      have b := mo_bd MT.out
      rw [Val.tmE, if_pos ⟨b.2.2.1, b.2.2.2⟩]))
    clear hY hM hD hd hq
    go_upto_region 9 with fail
    go_cut [12, 13] (fun a b wz => ∃ g1, a = .pointer (some ⟨g1, 0, none⟩) ∧ b = .bool true ∧ Hid (Cs g1 wz [.int .i64 Y, .int .i64 M, .int .i64 D]) ∧ Hid (Below w.heap.size w wz))
    case first =>
      go_wp2_with fail
      refine (Val.ryears_to T Y M D true _ (by have := TB.out; omega) (by have := TB.out; omega) P1.out TM.out).mono ?_
      rintro e w7 ⟨rfl, k⟩
      have B := Lib.hid (bstep B.out k)
      clear k
      go_wp2
      go_meet
      exact ⟨_, rfl, rfl, Lib.hid (Cs.new w7 [.int .i64 Y, .int .i64 M, .int .i64 D] _), Lib.hid (B.out.alloc B.out.size _)⟩
    case rest =>
    obtain ⟨w7, rfl⟩ : ∃ x : World, x = wc := ⟨_, rfl⟩
    clear RB B
    obtain ⟨g1, rfl, rfl, C, B⟩ := hcut
    have y0 := (C.out.2 0 _ rfl).1
    rcases far with far | far
    · go_wp2_with fail
      refine (wakes22_any _ (HA.out.stays B.out)).mono ?_
      rintro e w13 ⟨rfl, k⟩
      go_wp2
      go_ret
      exact ⟨ret_b rfl, bstep B.out k⟩
    · have far2 : ¬ Y < 3 := by omega
      go_wp2_with fail
      refine (wakes22_any _ (HA.out.stays B.out)).mono ?_
      rintro e w13 ⟨rfl, k⟩
      go_wp2
      go_ret
      exact ⟨ret_b rfl, bstep B.out k⟩
  | true =>
    have hc : c = 0 := by rw [← SE.out, spE, if_pos HKB.out, if_pos hq]
    subst hc
    obtain ⟨A, hAA⟩ : ∃ z, spA x p = z := ⟨_, rfl⟩
    obtain ⟨Z, hZZ⟩ : ∃ z, spZ x p = z := ⟨_, rfl⟩
    have hf : f = A := by rw [← SF.out, spF, if_pos ⟨HKB.out, hq⟩, hAA]
    have hg : g = Z - 1 := by rw [← ST.out, spT, if_pos ⟨HKB.out, hq⟩, hZZ]
    have LW := sp_law HKB.out MT.out (by rw [HP.out]; exact hq)
    rw [HP.out, hAA, hZZ] at LW
    obtain ⟨⟨l1, l2⟩, l3, l4⟩ := LW
    have L4 := Lib.hid l4
    have NX : Hid (spE x (p + 1) = 0 → spF x (p + 1) = Z) := Lib.hid (fun h => by rw [sp_beyond KF.out HKB.out h, hZZ])
    have ABD : -62300000000 ≤ A ∧ A ≤ 253402400000 ∧ -62300000000 ≤ Z ∧ Z ≤ 253500000000 := by have := TB.out; omega
    have PB : Hid (-1099511627776 ≤ p ∧ p ≤ 1099511627776) := Lib.hid (by
      have f := (spQ_iff.1 hq).1
      have f := of_decide_eq_false f
      omega)
    subst hf hg
    clear SF ST SE l4 hq hAA hZZ
    obtain ⟨ab1, ab2, zb1, zb2⟩ := ABD
    obtain ⟨pb1, pb2⟩ := PB.out
    have z1 : ¬ T < f := by omega
    have z2 : ¬ Z - 1 < T := by omega
    have z3 : ¬ Z - 1 < f := by omega
    obtain ⟨U, hU⟩ : ∃ u, IntKind.u64.wrap at_ = u := ⟨_, rfl⟩
    have u0 : 0 ≤ U ∧ U < 18446744073709551616 := by rw [← hU, IntKind.wrap_u64]; omega
    obtain ⟨n, hn⟩ : ∃ n, Z - f = n := ⟨_, rfl⟩
    have nb : 1 ≤ n ∧ n ≤ 66000000 := by omega
    have r0 : Z - 1 - f + 1 = n := by omega
    have rn : IntKind.u64.wrap n = n := by rw [IntKind.wrap_u64]; omega
    have r1 : U.tmod n = U % n := Int.tmod_eq_emod_of_nonneg u0.1
    obtain ⟨m, hm⟩ : ∃ m, U % n = m := ⟨_, rfl⟩
    have mb : 0 ≤ m ∧ m < n := by rw [← hm]; exact ⟨Int.emod_nonneg _ (by omega), Int.emod_lt_of_pos _ (by omega)⟩
    obtain ⟨X, hX⟩ : ∃ X, f + m = X := ⟨_, rfl⟩
    have XL := Lib.hid (L4.out X (by omega) (by omega))
    have xb : -62300000000 ≤ X ∧ X ≤ 253500000000 := by omega
    have UM := Lib.hid (And.intro hU (And.intro hm hX))
    have n0 : ¬ n = 0 := by omega
    obtain ⟨nb1, nb2⟩ := nb
    obtain ⟨mb1, mb2⟩ := mb
    go_upto_region 11 with fail
    go_cut [81] (fun a wz => a = .bool false ∧ Hid (Cs w.heap.size wz [.int .i64 x.fq, .int .i64 x.iv, .int .i64 x.ct, .bool x.un, .int .i64 x.ua, .bool x.ut, s6, s7, s8, s9, s10, s11, s12, s13, s14, .int .i64 x.wk]) ∧ Hid (Below w.heap.size w wz))
    case first =>
      clear r0 rn r1 hm hX hU hn
      go_wp2
      go_meet
      exact ⟨rfl, RB, B⟩
    case rest =>
    obtain ⟨w7, rfl⟩ : ∃ x : World, x = wc := ⟨_, rfl⟩
    clear RB B
    obtain ⟨rfl, RB, B⟩ := hcut
    go_upto_region 13 with fail
    go_cut [14] (fun a wz => a = .int .i64 X ∧ Hid (Cs w.heap.size wz [.int .i64 x.fq, .int .i64 x.iv, .int .i64 x.ct, .bool x.un, .int .i64 x.ua, .bool x.ut, s6, s7, s8, s9, s10, s11, s12, s13, s14, .int .i64 x.wk]) ∧ Hid (Below w.heap.size w wz))
    case first =>
      clear l1 l2 l3 z1 z2 z3 hn
      go_wp2
      go_meet
      refine ⟨?_, RB, B⟩
      first | rfl | (simp [r0, rn, r1, hm, hX, hU]; done) | trace_state
    case rest =>
    obtain ⟨w8, rfl⟩ : ∃ x : World, x = wc := ⟨_, rfl⟩
    clear RB B
    obtain ⟨rfl, RB, B⟩ := hcut
    clear r0 rn r1 hm hX hU hn n0 u0 nb1 nb2 mb1 mb2 z1 z2 z3 l1 l2 l3
    go_upto_region 14 with fail
    go_cut [15, 16] (fun a b wz => a = .int .i64 p ∧ b = .int .i64 0 ∧ Hid (Cs w.heap.size wz [.int .i64 x.fq, .int .i64 x.iv, .int .i64 x.ct, .bool x.un, .int .i64 x.ua, .bool x.ut, s6, s7, s8, s9, s10, s11, s12, s13, s14, .int .i64 x.wk]) ∧ Hid (Below w.heap.size w wz))
    case first =>
      go_wp2_with (refine ld16 RB.out rfl (by rfl) (by rfl) (by rfl) ?_; intro K hK; go_simp)
      refine (per_to x _ _ _ _ _ _ _ _ _ X p 0 _ (HA.out.stays B.out) HU.out.1 HU.out.2 (L.out.below B.out) S.out (by omega) (by omega) (Lib.hid XL.out.1) (Lib.hid XL.out.2)).mono ?_
      rintro e w9 ⟨rfl, k⟩
      have RB := Lib.hid (RB.out.below k)
      have B := Lib.hid (bstep B.out k)
      clear k
      go_wp2
      go_meet
      exact ⟨rfl, rfl, RB, B⟩
    case rest =>
    obtain ⟨w9, rfl⟩ : ∃ x : World, x = wc := ⟨_, rfl⟩
    clear RB B
    obtain ⟨rfl, rfl, RB, B⟩ := hcut
    obtain ⟨f2, hf2⟩ : ∃ z, spF x (p + 1) = z := ⟨_, rfl⟩
    obtain ⟨g2, hg2⟩ : ∃ z, spT x (p + 1) = z := ⟨_, rfl⟩
    obtain ⟨c2, hc2⟩ : ∃ z, spE x (p + 1) = z := ⟨_, rfl⟩
    have SF := Lib.hid hf2
    have ST := Lib.hid hg2
    have SE := Lib.hid hc2
    have N2 : Hid (c2 = 0 → f2 = Z) := Lib.hid (fun h => by rw [← hf2]; exact NX.out (by rw [hc2]; exact h))
    clear hf2 hg2 hc2
    go_upto_region 15 with fail
    go_cut [17, 19] (fun a d wz => a = .int .i64 f2 ∧ d = .int .i64 c2 ∧ Hid (Below w.heap.size w wz))
    case first =>
      go_wp2_with (refine ld16 RB.out rfl (by rfl) (by rfl) (by rfl) ?_; intro K hK; go_simp)
      refine (span_to x _ _ _ _ _ _ _ _ _ (p + 1) f2 g2 c2 _ (HA.out.stays B.out) HU.out.1 HU.out.2 (L.out.below B.out) S.out SF ST SE).mono ?_
      rintro e w10 ⟨rfl, k⟩
      have B := Lib.hid (bstep B.out k)
      clear k
      go_wp2
      go_meet
      exact ⟨rfl, rfl, B⟩
    case rest =>
    obtain ⟨w10, rfl⟩ : ∃ x : World, x = wc := ⟨_, rfl⟩
    clear RB B
    obtain ⟨rfl, rfl, B⟩ := hcut
    by_cases h0 : c2 = 0
    · have hz : f2 = Z := N2.out h0
      subst h0
      subst hz
      clear SF ST SE N2
      go_wp2_with fail
      refine (wakes22_any _ (HA.out.stays B.out)).mono ?_
      rintro e w13 ⟨rfl, k⟩
      go_wp2
      go_ret
      exact ⟨ret_b rfl, bstep B.out k⟩
    · have e0 : (c2 == 0) = false := beq_eq_false_iff_ne.2 h0
      have e1 : (c2 != 0) = true := by rw [bne, e0]; rfl
      clear SF ST SE N2
      go_wp2_with fail
      refine (wakes22_any _ (HA.out.stays B.out)).mono ?_
      rintro e w13 ⟨rfl, k⟩
      go_wp2
      go_ret
      exact ⟨ret_b rfl, bstep B.out k⟩
end Fil
end Go.Proofs.YtpcmfgfhdnfmcaaDoor
