/-
  FilterDays: the law answers true at every time, number and weekday, in whatever world that holds the table of the months.
-/
import Derived.Test.YtpcmfgfhdnfmcaaDoorFilX1
import Derived.Test.YtpcmfgfhdnfmcaaDoorFilH
namespace Go.Proofs.YtpcmfgfhdnfmcaaDoor
open Go.RowKit
namespace Fil
open Rcv (CV LisV IntV DayV)
open Rck (ckE ckB Small)
open Civ (numV numE dY dM dD dnE ydV Ahead)
open Wk (noY noN noE wkV wkE nthV nthB untl since)
open Cel
theorem dyR_nth {F m k : Int} {w : World} {g : Nat} (hA : Ahead w) : NthC (dyR F m k) (.slice none 0 0) (.slice none 0 0) (.slice none 0 0) (.slice (some ⟨g, 0, none⟩) 1 1) (.slice none 0 0) (.slice none 0 0) (.slice none 0 0) (.slice none 0 0) (.slice none 0 0) w := fun q hq h0 n0 n1 n2 n3 n4 n5 n6 n7 hy hm hb W hW =>
  nt_to (dyR F m k) _ _ _ _ _ _ _ _ _ q.1 q.2 n0 n1 n2 n3 n4 n5 n6 n7 _ W (hA.stays hW) (IntV.none W) ⟨by omega, by omega⟩ (by rw [← hm]; exact dM_bd n0) (Lib.hid hy) (Lib.hid hm) (Lib.hid rfl)
set_option maxHeartbeats 25600000 in
set_option maxRecDepth 100000 in
theorem days_any (t num w0 : Int) (year : Bool) (w : World) (hA : Ahead w) :
    Calls Tryd.prog 6 #[.int .i64 t, .int .i64 num, .int .i64 w0, .bool year] w fun e w' => e = .returned (.bool true) ∧ Below w.heap.size w w' := by
  have HA := Lib.hid hA
  clear hA
  obtain ⟨T, hT⟩ : ∃ a, vsm t = a := ⟨_, rfl⟩
  have mT : moO T = true := by rw [← hT]; exact vsm_mo t
  have tb := vsm_bd t
  rw [hT] at tb
  have V1 := Lib.hid hT
  have MT := Lib.hid mT
  have TB := Lib.hid tb
  obtain ⟨U, hU⟩ : ∃ u, IntKind.u64.wrap num = u := ⟨_, rfl⟩
  have u0 : 0 ≤ U := by rw [← hU, IntKind.wrap_u64]; omega
  have r1 : U.tmod 53 = U % 53 := Int.tmod_eq_emod_of_nonneg u0
  obtain ⟨X, hX⟩ : ∃ u, IntKind.u64.wrap w0 = u := ⟨_, rfl⟩
  have x0 : 0 ≤ X := by rw [← hX, IntKind.wrap_u64]; omega
  have r2 : X.tmod 7 = X % 7 := Int.tmod_eq_emod_of_nonneg x0
  obtain ⟨m, hm⟩ : ∃ f, 1 + U % 53 = f := ⟨_, rfl⟩
  obtain ⟨k, hK⟩ : ∃ f, X % 7 = f := ⟨_, rfl⟩
  have mb : 1 ≤ m ∧ m ≤ 53 := by omega
  have kb : 0 ≤ k ∧ k ≤ 6 := by omega
  have b1 : 0 ≤ U % 53 ∧ U % 53 < 53 := by omega
  have b2 : 0 ≤ X % 7 ∧ X % 7 < 7 := by omega
  clear hT mT
  go_enter Tryd.func6, Tryd.ntmps6
  go_upto_region 1 with fail
  go_cut [0, 2] (fun a c wz => a = .int .i64 T ∧ c = .int .i64 k ∧ Hid (Below w.heap.size w wz))
  case first =>
    go_wp2_with fail
    refine (vsome_to t T _ V1).mono ?_
    rintro e w1 ⟨rfl, k1⟩
    go_wp2
    go_meet
    refine ⟨rfl, ?_, Lib.hid k1⟩
    first | (rw [← hK]; done) | (simp [hX, r2, ← hK]; done) | omega
  case rest =>
  obtain ⟨w1, rfl⟩ : ∃ x : World, x = wc := ⟨_, rfl⟩
  obtain ⟨rfl, rfl, B⟩ := hcut
  go_upto_region 2 with fail
  go_cut [1] (fun b wz => b = .int .i64 m ∧ Hid (Below w.heap.size w wz))
  case first =>
    go_wp2
    go_meet
    refine ⟨?_, B⟩
    first | (rw [← hm]; done) | (simp [hU, r1, ← hm]; done) | omega
  case rest =>
  obtain ⟨w2, rfl⟩ : ∃ x : World, x = wc := ⟨_, rfl⟩
  clear B
  obtain ⟨rfl, B⟩ := hcut
  clear r1 hm u0 hU r2 hX x0 hK b1 b2 tb
  obtain ⟨d, hd⟩ : ∃ d, T / 86400 = d := ⟨_, rfl⟩
  have db := mo_bd MT.out
  rw [hd] at db
  have db' : -719162 ≤ d ∧ d < 2932897 := ⟨db.1, db.2.1⟩
  obtain ⟨Y, M, D, hY, hM, hD, yb, mmb, ddb, de, na, nb⟩ := dy_bounds db'
  obtain ⟨W, hW⟩ : ∃ z, Cal.wday d = z := ⟨_, rfl⟩
  have HD := Lib.hid hd
  have HW := Lib.hid hW
  have P1 := Lib.hid (And.intro hY (And.intro hM hD))
  have DB := Lib.hid db'
  have KB := Lib.hid kb
  have ML := Lib.hid (Cal.mlen_bd Y M)
  have NB := Lib.hid (And.intro na nb)
  have YB := Lib.hid yb
  have DDB := Lib.hid ddb
  obtain ⟨mb1, mb2⟩ := mb
  have MB := Lib.hid (And.intro mb1 mb2)
  clear hY hM hD db db' kb hd hW de na nb ddb
  obtain ⟨yb1, yb2⟩ := yb
  go_upto_region 3 with fail
  go_cut [9] (fun a wz => ∃ g9 h9, a = .pointer (some ⟨g9, 0, none⟩) ∧ w.heap.size ≤ h9 ∧ h9 < g9 ∧ Hid (Cs g9 wz [.int .i64 6, .int .i64 1, .int .i64 0, .bool false, .int .i64 0, .bool false, .slice none 0 0, .slice none 0 0, .slice none 0 0, .slice (some ⟨h9, 0, none⟩) 1 1, .slice none 0 0, .slice none 0 0, .slice none 0 0, .slice none 0 0, .slice none 0 0, .int .i64 0]) ∧ Hid (Cs h9 wz [.int .i64 m, .int .i64 k]) ∧ Hid (Below w.heap.size w wz))
  case first =>
    have lt := B.out.size
    go_wp2
    go_meet
    exact ⟨_, _, rfl, lt, by simp, Lib.hid (cs_at (by simp) _ _), Lib.hid ((cs_at (by simp) _ _).alloc _), Lib.hid ((B.out.alloc B.out.size _).alloc (by simp; omega) _)⟩
  case rest =>
  obtain ⟨w3, rfl⟩ : ∃ x : World, x = wc := ⟨_, rfl⟩
  clear B
  obtain ⟨g9, h9, rfl, hl9, hg9, G9, H9, B⟩ := hcut
  go_upto_region 4 with fail
  go_cut [10] (fun a wz => ∃ g10 h10, a = .pointer (some ⟨g10, 0, none⟩) ∧ g9 < h10 ∧ h10 < g10 ∧ Hid (Cs g9 wz [.int .i64 6, .int .i64 1, .int .i64 0, .bool false, .int .i64 0, .bool false, .slice none 0 0, .slice none 0 0, .slice none 0 0, .slice (some ⟨h9, 0, none⟩) 1 1, .slice none 0 0, .slice none 0 0, .slice none 0 0, .slice none 0 0, .slice none 0 0, .int .i64 0]) ∧ Hid (Cs h9 wz [.int .i64 m, .int .i64 k]) ∧ Hid (Cs g10 wz [.int .i64 6, .int .i64 1, .int .i64 0, .bool false, .int .i64 0, .bool false, .slice none 0 0, .slice none 0 0, .slice none 0 0, .slice (some ⟨h10, 0, none⟩) 1 1, .slice none 0 0, .slice none 0 0, .slice none 0 0, .slice none 0 0, .slice none 0 0, .int .i64 0]) ∧ Hid (Cs h10 wz [.int .i64 (-m), .int .i64 k]) ∧ Hid (Below w.heap.size w wz))
  case first =>
    have lt := G9.out.1
    have lt2 := B.out.size
    go_wp2
    go_meet
    exact ⟨_, _, rfl, lt, by simp, Lib.hid ((G9.out.alloc _).alloc _), Lib.hid ((H9.out.alloc _).alloc _), Lib.hid (cs_at (by simp) _ _), Lib.hid ((cs_at (by simp) _ _).alloc _), Lib.hid ((B.out.alloc B.out.size _).alloc (by simp; omega) _)⟩
  case rest =>
  obtain ⟨w4, rfl⟩ : ∃ x : World, x = wc := ⟨_, rfl⟩
  clear B G9 H9
  obtain ⟨g10, h10, rfl, hl10, hg10, G9, H9, G10, H10, B⟩ := hcut
  go_upto_region 5 with fail
  go_cut [11] (fun a wz => a = .int .i64 d ∧ Hid (Cs g9 wz [.int .i64 6, .int .i64 1, .int .i64 0, .bool false, .int .i64 0, .bool false, .slice none 0 0, .slice none 0 0, .slice none 0 0, .slice (some ⟨h9, 0, none⟩) 1 1, .slice none 0 0, .slice none 0 0, .slice none 0 0, .slice none 0 0, .slice none 0 0, .int .i64 0]) ∧ Hid (Cs h9 wz [.int .i64 m, .int .i64 k]) ∧ Hid (Cs g10 wz [.int .i64 6, .int .i64 1, .int .i64 0, .bool false, .int .i64 0, .bool false, .slice none 0 0, .slice none 0 0, .slice none 0 0, .slice (some ⟨h10, 0, none⟩) 1 1, .slice none 0 0, .slice none 0 0, .slice none 0 0, .slice none 0 0, .slice none 0 0, .int .i64 0]) ∧ Hid (Cs h10 wz [.int .i64 (-m), .int .i64 k]) ∧ Hid (Below w.heap.size w wz))
  case first =>
    go_wp2_with fail
    refine (Civ.rdiv_any T 86400 _ (by decide) (by decide) (by have := TB.out; omega) (by have := TB.out; omega)).mono ?_
    rintro e w5 ⟨rfl, n, rfl⟩
    rw [HD.out]
    go_wp2
    go_meet
    exact ⟨rfl, Lib.hid (G9.out.drewN n), Lib.hid (H9.out.drewN n), Lib.hid (G10.out.drewN n), Lib.hid (H10.out.drewN n), Lib.hid (bdrew B.out n)⟩
  case rest =>
  obtain ⟨w5, rfl⟩ : ∃ x : World, x = wc := ⟨_, rfl⟩
  clear B G9 H9 G10 H10
  obtain ⟨rfl, G9, H9, G10, H10, B⟩ := hcut
  go_upto_region 6 with fail
  go_cut [13] (fun a wz => ∃ g13, a = .pointer (some ⟨g13, 0, none⟩) ∧ g10 < g13 ∧ Hid (Cs g9 wz [.int .i64 6, .int .i64 1, .int .i64 0, .bool false, .int .i64 0, .bool false, .slice none 0 0, .slice none 0 0, .slice none 0 0, .slice (some ⟨h9, 0, none⟩) 1 1, .slice none 0 0, .slice none 0 0, .slice none 0 0, .slice none 0 0, .slice none 0 0, .int .i64 0]) ∧ Hid (Cs h9 wz [.int .i64 m, .int .i64 k]) ∧ Hid (Cs g10 wz [.int .i64 6, .int .i64 1, .int .i64 0, .bool false, .int .i64 0, .bool false, .slice none 0 0, .slice none 0 0, .slice none 0 0, .slice (some ⟨h10, 0, none⟩) 1 1, .slice none 0 0, .slice none 0 0, .slice none 0 0, .slice none 0 0, .slice none 0 0, .int .i64 0]) ∧ Hid (Cs h10 wz [.int .i64 (-m), .int .i64 k]) ∧ Hid (Cs g13 wz [.int .i64 Y, .int .i64 M, .int .i64 D]) ∧ Hid (Below w.heap.size w wz))
  case first =>
    go_wp2_with fail
    refine (Civ.rdate_any d _ (by have := DB.out; omega) (by have := DB.out; omega)).mono ?_
    rintro e w6 ⟨rfl, kk⟩
    rw [P1.out.1, P1.out.2.1, P1.out.2.2]
    have G9 := Lib.hid (G9.out.below kk)
    have H9 := Lib.hid (H9.out.below kk)
    have G10 := Lib.hid (G10.out.below kk)
    have H10 := Lib.hid (H10.out.below kk)
    have B := Lib.hid (bstep B.out kk)
    have lt := G10.out.1
    clear kk
    go_wp2
    go_meet
    exact ⟨_, rfl, lt, Lib.hid (G9.out.alloc _), Lib.hid (H9.out.alloc _), Lib.hid (G10.out.alloc _), Lib.hid (H10.out.alloc _), Lib.hid (Cs.new w6 [.int .i64 Y, .int .i64 M, .int .i64 D] _), Lib.hid (B.out.alloc B.out.size _)⟩
  case rest =>
  obtain ⟨w6, rfl⟩ : ∃ x : World, x = wc := ⟨_, rfl⟩
  clear B G9 H9 G10 H10
  obtain ⟨g13, rfl, hg13, G9, H9, G10, H10, C, B⟩ := hcut
  obtain ⟨l, hl⟩ : ∃ l, Cal.mlen Y M = l := ⟨_, rfl⟩
  have lb : D ≤ l ∧ l ≤ 31 ∧ 1 ≤ D := by have := DDB.out; have := ML.out; omega
  obtain ⟨lb1, lb2, lb3⟩ := lb
  have HLn := Lib.hid hl
  clear hl
  go_upto_region 7 with fail
  go_cut [14, 15] (fun a b wz => a = .int .i64 D ∧ b = .int .i64 (l - D) ∧ Hid (Cs g9 wz [.int .i64 6, .int .i64 1, .int .i64 0, .bool false, .int .i64 0, .bool false, .slice none 0 0, .slice none 0 0, .slice none 0 0, .slice (some ⟨h9, 0, none⟩) 1 1, .slice none 0 0, .slice none 0 0, .slice none 0 0, .slice none 0 0, .slice none 0 0, .int .i64 0]) ∧ Hid (Cs h9 wz [.int .i64 m, .int .i64 k]) ∧ Hid (Cs g10 wz [.int .i64 6, .int .i64 1, .int .i64 0, .bool false, .int .i64 0, .bool false, .slice none 0 0, .slice none 0 0, .slice none 0 0, .slice (some ⟨h10, 0, none⟩) 1 1, .slice none 0 0, .slice none 0 0, .slice none 0 0, .slice none 0 0, .slice none 0 0, .int .i64 0]) ∧ Hid (Cs h10 wz [.int .i64 (-m), .int .i64 k]) ∧ Hid (Cs g13 wz [.int .i64 Y, .int .i64 M, .int .i64 D]) ∧ Hid (Below w.heap.size w wz))
  case first =>
    have k0 := (C.out.2 0 _ rfl).1
    have k1 := (C.out.2 1 _ rfl).1
    have k2 := (C.out.2 2 _ rfl).1
    have r4 : IntKind.i64.wrap (l - D) = l - D := IntWalk.i64_in _ (by omega)
    go_quiet ((go_at_call 24; exact quiet_d (rlen_v Y M l _ (by omega) (by omega) HLn)))
    go_wp2
    go_meet
    exact ⟨rfl, by first | rfl | (rw [r4]), Lib.hid (G9.out.drewN _), Lib.hid (H9.out.drewN _), Lib.hid (G10.out.drewN _), Lib.hid (H10.out.drewN _), Lib.hid (C.out.drewN _), Lib.hid (bdrew B.out _)⟩
  case rest =>
  obtain ⟨w7, rfl⟩ : ∃ x : World, x = wc := ⟨_, rfl⟩
  clear B G9 H9 G10 H10 C
  obtain ⟨rfl, rfl, G9, H9, G10, H10, C, B⟩ := hcut
  cases year with
  | false =>
    obtain ⟨P, hP⟩ : ∃ p, D = p := ⟨_, rfl⟩
    obtain ⟨Q, hQ⟩ : ∃ p, l - D = p := ⟨_, rfl⟩
    have HL := Lib.hid (dy_all (F := 6) (Or.inl rfl) KB.out MB.out MT.out HD.out P1.out.1 P1.out.2.1 P1.out.2.2)
    rw [HW.out, HLn.out, if_pos rfl, if_pos rfl, hQ, hP] at HL
    rw [hQ, hP]
    have pb : 1 ≤ P ∧ P ≤ 366 := by omega
    have qb : 0 ≤ Q ∧ Q ≤ 366 := by omega
    obtain ⟨v1, hv1⟩ : ∃ v, ((P - 1) / 7 + 1 == m) = v := ⟨_, rfl⟩
    obtain ⟨v2, hv2⟩ : ∃ v, (Q / 7 + 1 == m) = v := ⟨_, rfl⟩
    have H1 := Lib.hid hv1
    have H2 := Lib.hid hv2
    obtain ⟨pb1, pb2⟩ := pb
    obtain ⟨qb1, qb2⟩ := qb
    clear hv1 hv2 hP hQ C
    go_upto_region 14 with fail
    go_cut [16] (fun a wz => a = .bool (W == k) ∧ Hid (Cs g9 wz [.int .i64 6, .int .i64 1, .int .i64 0, .bool false, .int .i64 0, .bool false, .slice none 0 0, .slice none 0 0, .slice none 0 0, .slice (some ⟨h9, 0, none⟩) 1 1, .slice none 0 0, .slice none 0 0, .slice none 0 0, .slice none 0 0, .slice none 0 0, .int .i64 0]) ∧ Hid (Cs h9 wz [.int .i64 m, .int .i64 k]) ∧ Hid (Cs g10 wz [.int .i64 6, .int .i64 1, .int .i64 0, .bool false, .int .i64 0, .bool false, .slice none 0 0, .slice none 0 0, .slice none 0 0, .slice (some ⟨h10, 0, none⟩) 1 1, .slice none 0 0, .slice none 0 0, .slice none 0 0, .slice none 0 0, .slice none 0 0, .int .i64 0]) ∧ Hid (Cs h10 wz [.int .i64 (-m), .int .i64 k]) ∧ Hid (Below w.heap.size w wz))
    case first =>
      go_wp2_with fail
      refine (Civ.rweekday_any d _ (by have := DB.out; omega) (by have := DB.out; omega)).mono ?_
      rintro e w9 ⟨rfl, n, rfl⟩
      rw [HW.out]
      go_wp2
      go_meet
      exact ⟨rfl, Lib.hid (G9.out.drewN n), Lib.hid (H9.out.drewN n), Lib.hid (G10.out.drewN n), Lib.hid (H10.out.drewN n), Lib.hid (bdrew B.out n)⟩
    case rest =>
    obtain ⟨w10, rfl⟩ : ∃ x : World, x = wc := ⟨_, rfl⟩
    clear B G9 H9 G10 H10
    obtain ⟨rfl, G9, H9, G10, H10, B⟩ := hcut
    have rp : (P - 1).tdiv 7 = (P - 1) / 7 := Int.tdiv_eq_ediv_of_nonneg (by omega)
    have rq : Q.tdiv 7 = Q / 7 := Int.tdiv_eq_ediv_of_nonneg (by omega)
    have h1 := H1.out
    have h2 := H2.out
    by_cases c0 : W = k
    · have e0 : (W == k) = true := beq_iff_eq.2 c0
      have L1 : Hid (letP (dyR 6 m k) T T = v1) := Lib.hid (by rw [HL.out.1, decide_eq_true c0, Bool.true_and]; exact h1)
      have L2 : Hid (letP (dyR 6 (-m) k) T T = v2) := Lib.hid (by rw [HL.out.2, decide_eq_true c0, Bool.true_and]; exact h2)
      clear c0
      go_wp2_with (refine ld16 G9.out rfl (by rfl) (by rfl) (by rfl) ?_; intro K hK; go_simp)
      refine (lets_to (dyR 6 m k) _ _ _ _ _ _ _ _ _ T T _ _ (HA.out.stays B.out) (show (-9223372036854775808 : Int) ≤ 0 by decide) (show (0 : Int) ≤ 9223372036854775807 by decide) (dyR_lis H9.out) (dyR_small _ _ _) (dyR_nth (HA.out.stays B.out)) (by have := TB.out; omega) (by have := TB.out; omega) (by have := TB.out; omega) (by have := TB.out; omega) L1).mono ?_
      rintro e w11 ⟨rfl, kk⟩
      have G10 := Lib.hid (G10.out.below kk)
      have H10 := Lib.hid (H10.out.below kk)
      have B := Lib.hid (bstep B.out kk)
      clear kk
      go_wp2_with (refine ld16 G10.out rfl (by rfl) (by rfl) (by rfl) ?_; intro K hK; go_simp)
      refine (lets_to (dyR 6 (-m) k) _ _ _ _ _ _ _ _ _ T T _ _ (HA.out.stays B.out) (show (-9223372036854775808 : Int) ≤ 0 by decide) (show (0 : Int) ≤ 9223372036854775807 by decide) (dyR_lis H10.out) (dyR_small _ _ _) (dyR_nth (HA.out.stays B.out)) (by have := TB.out; omega) (by have := TB.out; omega) (by have := TB.out; omega) (by have := TB.out; omega) L2).mono ?_
      rintro e w12 ⟨rfl, kk⟩
      have B := Lib.hid (bstep B.out kk)
      clear kk
      go_wp2_with fail
      refine (wakes22_any _ (HA.out.stays B.out)).mono ?_
      rintro e w13 ⟨rfl, kk⟩
      go_wp2
      go_ret
      exact ⟨ret_b rfl, bstep B.out kk⟩
    · have e0 : (W == k) = false := beq_eq_false_iff_ne.2 c0
      have L1 : Hid (letP (dyR 6 m k) T T = false) := Lib.hid (by rw [HL.out.1, decide_eq_false c0, Bool.false_and])
      have L2 : Hid (letP (dyR 6 (-m) k) T T = false) := Lib.hid (by rw [HL.out.2, decide_eq_false c0, Bool.false_and])
      clear c0
      go_wp2_with (refine ld16 G9.out rfl (by rfl) (by rfl) (by rfl) ?_; intro K hK; go_simp)
      refine (lets_to (dyR 6 m k) _ _ _ _ _ _ _ _ _ T T _ _ (HA.out.stays B.out) (show (-9223372036854775808 : Int) ≤ 0 by decide) (show (0 : Int) ≤ 9223372036854775807 by decide) (dyR_lis H9.out) (dyR_small _ _ _) (dyR_nth (HA.out.stays B.out)) (by have := TB.out; omega) (by have := TB.out; omega) (by have := TB.out; omega) (by have := TB.out; omega) L1).mono ?_
      rintro e w11 ⟨rfl, kk⟩
      have G10 := Lib.hid (G10.out.below kk)
      have H10 := Lib.hid (H10.out.below kk)
      have B := Lib.hid (bstep B.out kk)
      clear kk
      go_wp2_with (refine ld16 G10.out rfl (by rfl) (by rfl) (by rfl) ?_; intro K hK; go_simp)
      refine (lets_to (dyR 6 (-m) k) _ _ _ _ _ _ _ _ _ T T _ _ (HA.out.stays B.out) (show (-9223372036854775808 : Int) ≤ 0 by decide) (show (0 : Int) ≤ 9223372036854775807 by decide) (dyR_lis H10.out) (dyR_small _ _ _) (dyR_nth (HA.out.stays B.out)) (by have := TB.out; omega) (by have := TB.out; omega) (by have := TB.out; omega) (by have := TB.out; omega) L2).mono ?_
      rintro e w12 ⟨rfl, kk⟩
      have B := Lib.hid (bstep B.out kk)
      clear kk
      go_wp2_with fail
      refine (wakes22_any _ (HA.out.stays B.out)).mono ?_
      rintro e w13 ⟨rfl, kk⟩
      go_wp2
      go_ret
      exact ⟨ret_b rfl, bstep B.out kk⟩
  | true =>
    have n9 : g9 ≠ h9 := by omega
    have n10 : g10 ≠ h10 := by omega
    have n11 : g9 ≠ g10 := by omega
    have n12 : g9 ≠ h10 := by omega
    have n13 : g10 ≠ h9 := by omega
    have n14 : g9 ≠ g13 := by omega
    have n15 : g10 ≠ g13 := by omega
    go_upto_region 9 with fail
    go_cut [] (fun wz => Hid (Cs g9 wz [.int .i64 7, .int .i64 1, .int .i64 0, .bool false, .int .i64 0, .bool false, .slice none 0 0, .slice none 0 0, .slice none 0 0, .slice (some ⟨h9, 0, none⟩) 1 1, .slice none 0 0, .slice none 0 0, .slice none 0 0, .slice none 0 0, .slice none 0 0, .int .i64 0]) ∧ Hid (Cs h9 wz [.int .i64 m, .int .i64 k]) ∧ Hid (Cs g10 wz [.int .i64 7, .int .i64 1, .int .i64 0, .bool false, .int .i64 0, .bool false, .slice none 0 0, .slice none 0 0, .slice none 0 0, .slice (some ⟨h10, 0, none⟩) 1 1, .slice none 0 0, .slice none 0 0, .slice none 0 0, .slice none 0 0, .slice none 0 0, .int .i64 0]) ∧ Hid (Cs h10 wz [.int .i64 (-m), .int .i64 k]) ∧ Hid (Cs g13 wz [.int .i64 Y, .int .i64 M, .int .i64 D]) ∧ Hid (Below w.heap.size w wz))
    case first =>
      have k9 := (G9.out.2 0 _ rfl).1
      have f9 := (G9.out.2 0 _ rfl).2
      have k10 := (G10.out.2 0 _ rfl).1
      have f10 := (G10.out.2 0 _ rfl).2
      go_wp2
      go_meet
      exact ⟨Lib.hid ((G9.out.set 0 (by simp) _).other (fun e => n11 e.symm) _), Lib.hid ((H9.out.other n9 _).other n13 _), Lib.hid ((G10.out.other n11 _).set 0 (by simp) _), Lib.hid ((H10.out.other n12 _).other n10 _), Lib.hid ((C.out.other n14 _).other n15 _), Lib.hid ((B.out.setCell (by show w.heap.size ≤ g9; omega) _).setCell (by show w.heap.size ≤ g10; omega) _)⟩
    case rest =>
    obtain ⟨w8, rfl⟩ : ∃ x : World, x = wc := ⟨_, rfl⟩
    clear B G9 H9 G10 H10 C
    obtain ⟨G9, H9, G10, H10, C, B⟩ := hcut
    obtain ⟨P, hP⟩ : ∃ p, ydV d = p := ⟨_, rfl⟩
    have pe : P = d - Cal.ny Y + 1 := by
      have e := P1.out.1
      have db := DB.out
      have e' : -719528 ≤ d ∧ d ≤ 2933262 := by omega
      rw [dY, if_pos e'] at e
      rw [← hP, ydV, if_pos e', e]
    have HP := Lib.hid hP
    have nys := Cal.ny_succ Y
    have lp := Cal.lp_01 Y
    have nbb := NB.out
    have pb : 1 ≤ P ∧ P ≤ 366 := by omega
    obtain ⟨pb1, pb2⟩ := pb
    have HLL := Lib.hid (dy_all (F := 7) (Or.inr rfl) KB.out MB.out MT.out HD.out P1.out.1 P1.out.2.1 P1.out.2.2)
    rw [HW.out, if_neg (by decide), if_neg (by decide)] at HLL
    have PE := Lib.hid pe
    have NYS := Lib.hid (And.intro nys (And.intro lp nbb))
    clear hP pe nys lp nbb
    go_upto_region 10 with fail
    go_cut [14] (fun a wz => a = .int .i64 P ∧ Hid (Cs g9 wz [.int .i64 7, .int .i64 1, .int .i64 0, .bool false, .int .i64 0, .bool false, .slice none 0 0, .slice none 0 0, .slice none 0 0, .slice (some ⟨h9, 0, none⟩) 1 1, .slice none 0 0, .slice none 0 0, .slice none 0 0, .slice none 0 0, .slice none 0 0, .int .i64 0]) ∧ Hid (Cs h9 wz [.int .i64 m, .int .i64 k]) ∧ Hid (Cs g10 wz [.int .i64 7, .int .i64 1, .int .i64 0, .bool false, .int .i64 0, .bool false, .slice none 0 0, .slice none 0 0, .slice none 0 0, .slice (some ⟨h10, 0, none⟩) 1 1, .slice none 0 0, .slice none 0 0, .slice none 0 0, .slice none 0 0, .slice none 0 0, .int .i64 0]) ∧ Hid (Cs h10 wz [.int .i64 (-m), .int .i64 k]) ∧ Hid (Cs g13 wz [.int .i64 Y, .int .i64 M, .int .i64 D]) ∧ Hid (Below w.heap.size w wz))
    case first =>
      go_wp2_with fail
      refine (Civ.ryearDay_any d _ (by have := DB.out; omega) (by have := DB.out; omega)).mono ?_
      rintro e w9 ⟨rfl, kk⟩
      rw [HP.out]
      have G9 := Lib.hid (G9.out.below kk)
      have H9 := Lib.hid (H9.out.below kk)
      have G10 := Lib.hid (G10.out.below kk)
      have H10 := Lib.hid (H10.out.below kk)
      have C := Lib.hid (C.out.below kk)
      have B := Lib.hid (bstep B.out kk)
      clear kk
      go_wp2
      go_meet
      exact ⟨rfl, G9, H9, G10, H10, C, B⟩
    case rest =>
    obtain ⟨w9, rfl⟩ : ∃ x : World, x = wc := ⟨_, rfl⟩
    clear B G9 H9 G10 H10 C
    obtain ⟨rfl, G9, H9, G10, H10, C, B⟩ := hcut
    obtain ⟨lg, hlg⟩ : ∃ b, Cal.long Y = b := ⟨_, rfl⟩
    have HG := Lib.hid hlg
    clear hlg
    go_upto_region 11 with fail
    go_cut [15] (fun a wz => a = .int .i64 (364 - P + 1) ∧ Hid (Cs g9 wz [.int .i64 7, .int .i64 1, .int .i64 0, .bool false, .int .i64 0, .bool false, .slice none 0 0, .slice none 0 0, .slice none 0 0, .slice (some ⟨h9, 0, none⟩) 1 1, .slice none 0 0, .slice none 0 0, .slice none 0 0, .slice none 0 0, .slice none 0 0, .int .i64 0]) ∧ Hid (Cs h9 wz [.int .i64 m, .int .i64 k]) ∧ Hid (Cs g10 wz [.int .i64 7, .int .i64 1, .int .i64 0, .bool false, .int .i64 0, .bool false, .slice none 0 0, .slice none 0 0, .slice none 0 0, .slice (some ⟨h10, 0, none⟩) 1 1, .slice none 0 0, .slice none 0 0, .slice none 0 0, .slice none 0 0, .slice none 0 0, .int .i64 0]) ∧ Hid (Cs h10 wz [.int .i64 (-m), .int .i64 k]) ∧ Hid (Cs g13 wz [.int .i64 Y, .int .i64 M, .int .i64 D]) ∧ Hid (Below w.heap.size w wz))
    case first =>
      go_wp2
      go_meet
      exact ⟨rfl, G9, H9, G10, H10, C, B⟩
    case rest =>
    obtain ⟨w10, rfl⟩ : ∃ x : World, x = wc := ⟨_, rfl⟩
    clear B G9 H9 G10 H10 C
    obtain ⟨rfl, G9, H9, G10, H10, C, B⟩ := hcut
    go_upto_region 12 with fail
    go_cut [66] (fun a wz => a = .bool lg ∧ Hid (Cs g9 wz [.int .i64 7, .int .i64 1, .int .i64 0, .bool false, .int .i64 0, .bool false, .slice none 0 0, .slice none 0 0, .slice none 0 0, .slice (some ⟨h9, 0, none⟩) 1 1, .slice none 0 0, .slice none 0 0, .slice none 0 0, .slice none 0 0, .slice none 0 0, .int .i64 0]) ∧ Hid (Cs h9 wz [.int .i64 m, .int .i64 k]) ∧ Hid (Cs g10 wz [.int .i64 7, .int .i64 1, .int .i64 0, .bool false, .int .i64 0, .bool false, .slice none 0 0, .slice none 0 0, .slice none 0 0, .slice (some ⟨h10, 0, none⟩) 1 1, .slice none 0 0, .slice none 0 0, .slice none 0 0, .slice none 0 0, .slice none 0 0, .int .i64 0]) ∧ Hid (Cs h10 wz [.int .i64 (-m), .int .i64 k]) ∧ Hid (Below w.heap.size w wz))
    case first =>
      have k0 := (C.out.2 0 _ rfl).1
      go_wp2_with fail
      refine (Civ.rlong_any Y _ (by omega) (by omega)).mono ?_
      rintro e w11 ⟨rfl, n, rfl⟩
      rw [HG.out]
      go_wp2
      go_meet
      exact ⟨rfl, Lib.hid (G9.out.drewN n), Lib.hid (H9.out.drewN n), Lib.hid (G10.out.drewN n), Lib.hid (H10.out.drewN n), Lib.hid (bdrew B.out n)⟩
    case rest =>
    obtain ⟨w11, rfl⟩ : ∃ x : World, x = wc := ⟨_, rfl⟩
    clear B G9 H9 G10 H10 C
    obtain ⟨rfl, G9, H9, G10, H10, B⟩ := hcut
    obtain ⟨Q, hQ⟩ : ∃ q, Cal.ny (Y + 1) - 1 - d = q := ⟨_, rfl⟩
    have qe : Q = 364 - P + 1 + Cal.lp Y := by
      have := PE.out
      have := NYS.out
      omega
    have qb : 0 ≤ Q ∧ Q ≤ 366 := by
      have := NYS.out
      omega
    obtain ⟨qb1, qb2⟩ := qb
    have QE := Lib.hid qe
    clear qe
    obtain ⟨v1, hv1⟩ : ∃ v, ((P - 1) / 7 + 1 == m) = v := ⟨_, rfl⟩
    obtain ⟨v2, hv2⟩ : ∃ v, (Q / 7 + 1 == m) = v := ⟨_, rfl⟩
    have H1 := Lib.hid hv1
    have H2 := Lib.hid hv2
    rw [hQ, show d - Cal.ny Y = P - 1 by have := PE.out; omega] at HLL
    have HL := HLL
    clear HLL hv1 hv2 hQ
    cases lg with
    | true =>
      have QQ := Lib.hid (show 364 - P + 1 + 1 = Q by rw [QE.out, Cal.lp, HG.out]; rfl)
      go_upto_region 13 with fail
      go_cut [15] (fun a wz => a = .int .i64 Q ∧ Hid (Cs g9 wz [.int .i64 7, .int .i64 1, .int .i64 0, .bool false, .int .i64 0, .bool false, .slice none 0 0, .slice none 0 0, .slice none 0 0, .slice (some ⟨h9, 0, none⟩) 1 1, .slice none 0 0, .slice none 0 0, .slice none 0 0, .slice none 0 0, .slice none 0 0, .int .i64 0]) ∧ Hid (Cs h9 wz [.int .i64 m, .int .i64 k]) ∧ Hid (Cs g10 wz [.int .i64 7, .int .i64 1, .int .i64 0, .bool false, .int .i64 0, .bool false, .slice none 0 0, .slice none 0 0, .slice none 0 0, .slice (some ⟨h10, 0, none⟩) 1 1, .slice none 0 0, .slice none 0 0, .slice none 0 0, .slice none 0 0, .slice none 0 0, .int .i64 0]) ∧ Hid (Cs h10 wz [.int .i64 (-m), .int .i64 k]) ∧ Hid (Below w.heap.size w wz))
      case first =>
        go_wp2
        go_meet
        exact ⟨congrArg (Value.int .i64) (by have := QQ.out; omega), G9, H9, G10, H10, B⟩
      case rest =>
      obtain ⟨w12, rfl⟩ : ∃ x : World, x = wc := ⟨_, rfl⟩
      clear B G9 H9 G10 H10
      obtain ⟨rfl, G9, H9, G10, H10, B⟩ := hcut
      go_upto_region 14 with fail
      go_cut [16] (fun a wz => a = .bool (W == k) ∧ Hid (Cs g9 wz [.int .i64 7, .int .i64 1, .int .i64 0, .bool false, .int .i64 0, .bool false, .slice none 0 0, .slice none 0 0, .slice none 0 0, .slice (some ⟨h9, 0, none⟩) 1 1, .slice none 0 0, .slice none 0 0, .slice none 0 0, .slice none 0 0, .slice none 0 0, .int .i64 0]) ∧ Hid (Cs h9 wz [.int .i64 m, .int .i64 k]) ∧ Hid (Cs g10 wz [.int .i64 7, .int .i64 1, .int .i64 0, .bool false, .int .i64 0, .bool false, .slice none 0 0, .slice none 0 0, .slice none 0 0, .slice (some ⟨h10, 0, none⟩) 1 1, .slice none 0 0, .slice none 0 0, .slice none 0 0, .slice none 0 0, .slice none 0 0, .int .i64 0]) ∧ Hid (Cs h10 wz [.int .i64 (-m), .int .i64 k]) ∧ Hid (Below w.heap.size w wz))
      case first =>
        go_wp2_with fail
        refine (Civ.rweekday_any d _ (by have := DB.out; omega) (by have := DB.out; omega)).mono ?_
        rintro e w9 ⟨rfl, n, rfl⟩
        rw [HW.out]
        go_wp2
        go_meet
        exact ⟨rfl, Lib.hid (G9.out.drewN n), Lib.hid (H9.out.drewN n), Lib.hid (G10.out.drewN n), Lib.hid (H10.out.drewN n), Lib.hid (bdrew B.out n)⟩
      case rest =>
      obtain ⟨w10, rfl⟩ : ∃ x : World, x = wc := ⟨_, rfl⟩
      clear B G9 H9 G10 H10
      obtain ⟨rfl, G9, H9, G10, H10, B⟩ := hcut
      have rp : (P - 1).tdiv 7 = (P - 1) / 7 := Int.tdiv_eq_ediv_of_nonneg (by omega)
      have rq : Q.tdiv 7 = Q / 7 := Int.tdiv_eq_ediv_of_nonneg (by omega)
      have h1 := H1.out
      have h2 := H2.out
      by_cases c0 : W = k
      · have e0 : (W == k) = true := beq_iff_eq.2 c0
        have L1 : Hid (letP (dyR 7 m k) T T = v1) := Lib.hid (by rw [HL.out.1, decide_eq_true c0, Bool.true_and]; exact h1)
        have L2 : Hid (letP (dyR 7 (-m) k) T T = v2) := Lib.hid (by rw [HL.out.2, decide_eq_true c0, Bool.true_and]; exact h2)
        clear c0
        go_wp2_with (refine ld16 G9.out rfl (by rfl) (by rfl) (by rfl) ?_; intro K hK; go_simp)
        refine (lets_to (dyR 7 m k) _ _ _ _ _ _ _ _ _ T T _ _ (HA.out.stays B.out) (show (-9223372036854775808 : Int) ≤ 0 by decide) (show (0 : Int) ≤ 9223372036854775807 by decide) (dyR_lis H9.out) (dyR_small _ _ _) (dyR_nth (HA.out.stays B.out)) (by have := TB.out; omega) (by have := TB.out; omega) (by have := TB.out; omega) (by have := TB.out; omega) L1).mono ?_
        rintro e w11 ⟨rfl, kk⟩
        have G10 := Lib.hid (G10.out.below kk)
        have H10 := Lib.hid (H10.out.below kk)
        have B := Lib.hid (bstep B.out kk)
        clear kk
        go_wp2_with (refine ld16 G10.out rfl (by rfl) (by rfl) (by rfl) ?_; intro K hK; go_simp)
        refine (lets_to (dyR 7 (-m) k) _ _ _ _ _ _ _ _ _ T T _ _ (HA.out.stays B.out) (show (-9223372036854775808 : Int) ≤ 0 by decide) (show (0 : Int) ≤ 9223372036854775807 by decide) (dyR_lis H10.out) (dyR_small _ _ _) (dyR_nth (HA.out.stays B.out)) (by have := TB.out; omega) (by have := TB.out; omega) (by have := TB.out; omega) (by have := TB.out; omega) L2).mono ?_
        rintro e w12 ⟨rfl, kk⟩
        have B := Lib.hid (bstep B.out kk)
        clear kk
        go_wp2_with fail
        refine (wakes22_any _ (HA.out.stays B.out)).mono ?_
        rintro e w13 ⟨rfl, kk⟩
        go_wp2
        go_ret
        exact ⟨ret_b rfl, bstep B.out kk⟩
      · have e0 : (W == k) = false := beq_eq_false_iff_ne.2 c0
        have L1 : Hid (letP (dyR 7 m k) T T = false) := Lib.hid (by rw [HL.out.1, decide_eq_false c0, Bool.false_and])
        have L2 : Hid (letP (dyR 7 (-m) k) T T = false) := Lib.hid (by rw [HL.out.2, decide_eq_false c0, Bool.false_and])
        clear c0
        go_wp2_with (refine ld16 G9.out rfl (by rfl) (by rfl) (by rfl) ?_; intro K hK; go_simp)
        refine (lets_to (dyR 7 m k) _ _ _ _ _ _ _ _ _ T T _ _ (HA.out.stays B.out) (show (-9223372036854775808 : Int) ≤ 0 by decide) (show (0 : Int) ≤ 9223372036854775807 by decide) (dyR_lis H9.out) (dyR_small _ _ _) (dyR_nth (HA.out.stays B.out)) (by have := TB.out; omega) (by have := TB.out; omega) (by have := TB.out; omega) (by have := TB.out; omega) L1).mono ?_
        rintro e w11 ⟨rfl, kk⟩
        have G10 := Lib.hid (G10.out.below kk)
        have H10 := Lib.hid (H10.out.below kk)
        have B := Lib.hid (bstep B.out kk)
        clear kk
        go_wp2_with (refine ld16 G10.out rfl (by rfl) (by rfl) (by rfl) ?_; intro K hK; go_simp)
        refine (lets_to (dyR 7 (-m) k) _ _ _ _ _ _ _ _ _ T T _ _ (HA.out.stays B.out) (show (-9223372036854775808 : Int) ≤ 0 by decide) (show (0 : Int) ≤ 9223372036854775807 by decide) (dyR_lis H10.out) (dyR_small _ _ _) (dyR_nth (HA.out.stays B.out)) (by have := TB.out; omega) (by have := TB.out; omega) (by have := TB.out; omega) (by have := TB.out; omega) L2).mono ?_
        rintro e w12 ⟨rfl, kk⟩
        have B := Lib.hid (bstep B.out kk)
        clear kk
        go_wp2_with fail
        refine (wakes22_any _ (HA.out.stays B.out)).mono ?_
        rintro e w13 ⟨rfl, kk⟩
        go_wp2
        go_ret
        exact ⟨ret_b rfl, bstep B.out kk⟩
    | false =>
      rw [show 364 - P + 1 = Q by rw [QE.out, Cal.lp, HG.out]; simp]
      go_upto_region 14 with fail
      go_cut [16] (fun a wz => a = .bool (W == k) ∧ Hid (Cs g9 wz [.int .i64 7, .int .i64 1, .int .i64 0, .bool false, .int .i64 0, .bool false, .slice none 0 0, .slice none 0 0, .slice none 0 0, .slice (some ⟨h9, 0, none⟩) 1 1, .slice none 0 0, .slice none 0 0, .slice none 0 0, .slice none 0 0, .slice none 0 0, .int .i64 0]) ∧ Hid (Cs h9 wz [.int .i64 m, .int .i64 k]) ∧ Hid (Cs g10 wz [.int .i64 7, .int .i64 1, .int .i64 0, .bool false, .int .i64 0, .bool false, .slice none 0 0, .slice none 0 0, .slice none 0 0, .slice (some ⟨h10, 0, none⟩) 1 1, .slice none 0 0, .slice none 0 0, .slice none 0 0, .slice none 0 0, .slice none 0 0, .int .i64 0]) ∧ Hid (Cs h10 wz [.int .i64 (-m), .int .i64 k]) ∧ Hid (Below w.heap.size w wz))
      case first =>
        go_wp2_with fail
        refine (Civ.rweekday_any d _ (by have := DB.out; omega) (by have := DB.out; omega)).mono ?_
        rintro e w9 ⟨rfl, n, rfl⟩
        rw [HW.out]
        go_wp2
        go_meet
        exact ⟨rfl, Lib.hid (G9.out.drewN n), Lib.hid (H9.out.drewN n), Lib.hid (G10.out.drewN n), Lib.hid (H10.out.drewN n), Lib.hid (bdrew B.out n)⟩
      case rest =>
      obtain ⟨w10, rfl⟩ : ∃ x : World, x = wc := ⟨_, rfl⟩
      clear B G9 H9 G10 H10
      obtain ⟨rfl, G9, H9, G10, H10, B⟩ := hcut
      have rp : (P - 1).tdiv 7 = (P - 1) / 7 := Int.tdiv_eq_ediv_of_nonneg (by omega)
      have rq : Q.tdiv 7 = Q / 7 := Int.tdiv_eq_ediv_of_nonneg (by omega)
      have h1 := H1.out
      have h2 := H2.out
      by_cases c0 : W = k
      · have e0 : (W == k) = true := beq_iff_eq.2 c0
        have L1 : Hid (letP (dyR 7 m k) T T = v1) := Lib.hid (by rw [HL.out.1, decide_eq_true c0, Bool.true_and]; exact h1)
        have L2 : Hid (letP (dyR 7 (-m) k) T T = v2) := Lib.hid (by rw [HL.out.2, decide_eq_true c0, Bool.true_and]; exact h2)
        clear c0
        go_wp2_with (refine ld16 G9.out rfl (by rfl) (by rfl) (by rfl) ?_; intro K hK; go_simp)
        refine (lets_to (dyR 7 m k) _ _ _ _ _ _ _ _ _ T T _ _ (HA.out.stays B.out) (show (-9223372036854775808 : Int) ≤ 0 by decide) (show (0 : Int) ≤ 9223372036854775807 by decide) (dyR_lis H9.out) (dyR_small _ _ _) (dyR_nth (HA.out.stays B.out)) (by have := TB.out; omega) (by have := TB.out; omega) (by have := TB.out; omega) (by have := TB.out; omega) L1).mono ?_
        rintro e w11 ⟨rfl, kk⟩
        have G10 := Lib.hid (G10.out.below kk)
        have H10 := Lib.hid (H10.out.below kk)
        have B := Lib.hid (bstep B.out kk)
        clear kk
        go_wp2_with (refine ld16 G10.out rfl (by rfl) (by rfl) (by rfl) ?_; intro K hK; go_simp)
        refine (lets_to (dyR 7 (-m) k) _ _ _ _ _ _ _ _ _ T T _ _ (HA.out.stays B.out) (show (-9223372036854775808 : Int) ≤ 0 by decide) (show (0 : Int) ≤ 9223372036854775807 by decide) (dyR_lis H10.out) (dyR_small _ _ _) (dyR_nth (HA.out.stays B.out)) (by have := TB.out; omega) (by have := TB.out; omega) (by have := TB.out; omega) (by have := TB.out; omega) L2).mono ?_
        rintro e w12 ⟨rfl, kk⟩
        have B := Lib.hid (bstep B.out kk)
        clear kk
        go_wp2_with fail
        refine (wakes22_any _ (HA.out.stays B.out)).mono ?_
        rintro e w13 ⟨rfl, kk⟩
        go_wp2
        go_ret
        exact ⟨ret_b rfl, bstep B.out kk⟩
      · have e0 : (W == k) = false := beq_eq_false_iff_ne.2 c0
        have L1 : Hid (letP (dyR 7 m k) T T = false) := Lib.hid (by rw [HL.out.1, decide_eq_false c0, Bool.false_and])
        have L2 : Hid (letP (dyR 7 (-m) k) T T = false) := Lib.hid (by rw [HL.out.2, decide_eq_false c0, Bool.false_and])
        clear c0
        go_wp2_with (refine ld16 G9.out rfl (by rfl) (by rfl) (by rfl) ?_; intro K hK; go_simp)
        refine (lets_to (dyR 7 m k) _ _ _ _ _ _ _ _ _ T T _ _ (HA.out.stays B.out) (show (-9223372036854775808 : Int) ≤ 0 by decide) (show (0 : Int) ≤ 9223372036854775807 by decide) (dyR_lis H9.out) (dyR_small _ _ _) (dyR_nth (HA.out.stays B.out)) (by have := TB.out; omega) (by have := TB.out; omega) (by have := TB.out; omega) (by have := TB.out; omega) L1).mono ?_
        rintro e w11 ⟨rfl, kk⟩
        have G10 := Lib.hid (G10.out.below kk)
        have H10 := Lib.hid (H10.out.below kk)
        have B := Lib.hid (bstep B.out kk)
        clear kk
        go_wp2_with (refine ld16 G10.out rfl (by rfl) (by rfl) (by rfl) ?_; intro K hK; go_simp)
        refine (lets_to (dyR 7 (-m) k) _ _ _ _ _ _ _ _ _ T T _ _ (HA.out.stays B.out) (show (-9223372036854775808 : Int) ≤ 0 by decide) (show (0 : Int) ≤ 9223372036854775807 by decide) (dyR_lis H10.out) (dyR_small _ _ _) (dyR_nth (HA.out.stays B.out)) (by have := TB.out; omega) (by have := TB.out; omega) (by have := TB.out; omega) (by have := TB.out; omega) L2).mono ?_
        rintro e w12 ⟨rfl, kk⟩
        have B := Lib.hid (bstep B.out kk)
        clear kk
        go_wp2_with fail
        refine (wakes22_any _ (HA.out.stays B.out)).mono ?_
        rintro e w13 ⟨rfl, kk⟩
        go_wp2
        go_ret
        exact ⟨ret_b rfl, bstep B.out kk⟩

end Fil
end Go.Proofs.YtpcmfgfhdnfmcaaDoor
