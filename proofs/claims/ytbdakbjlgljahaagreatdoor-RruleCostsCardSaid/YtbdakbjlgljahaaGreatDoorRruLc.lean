/-
  RruleCosts: the law answers true at every rule, start and numbers, in whatever world that holds the table of the months.
-/
import Derived.Test.YtbdakbjlgljahaaGreatDoorRruW
import Derived.Test.YtbdakbjlgljahaaGreatDoorBdU7
import Derived.Test.YtbdakbjlgljahaaGreatDoorBdU6
import Derived.Test.YtbdakbjlgljahaaGreatDoorBdFd
import Derived.Test.YtbdakbjlgljahaaGreatDoorBdRg
import Derived.Test.YtbdakbjlgljahaaGreatDoorBdRl
import Derived.Test.YtbdakbjlgljahaaGreatDoorVxR
import Derived.Test.YtbdakbjlgljahaaGreatDoorBdFl
namespace Go.Proofs.YtbdakbjlgljahaaGreatDoor
open Go.RowKit
namespace Rru
open Rcv (CV LisV IntV DayV)
open Rck (ckE ckB Small)
open Ap (RowI)
open Civ (numV numE dY dM dD dnE ydV Ahead)
open Fil (moO mo_bd spE spT spF spQ perV perE perQ ld16 vsm vsm_mo vsm_bd vsome_to ck_fq per_to span_to)
open Cel

set_option maxHeartbeats 25600000 in
set_option maxRecDepth 100000 in
theorem costs_any (start n less : Int) (x : CV) (s6 s7 s8 s9 s10 s11 s12 s13 s14 : Value) (w : World) (hA : Ahead w) (hl : LisV w x s6 s7 s8 s9 s10 s11 s12 s13 s14) (hu1 : -9223372036854775808 ≤ x.ua) (hu2 : x.ua ≤ 9223372036854775807) :
    Calls Tryz.prog 8 #[.agg #[.int .i64 x.fq, .int .i64 x.iv, .int .i64 x.ct, .bool x.un, .int .i64 x.ua, .bool x.ut, s6, s7, s8, s9, s10, s11, s12, s13, s14, .int .i64 x.wk], .int .i64 start, .int .i64 n, .int .i64 less] w fun e w' => e = .returned (.bool true) ∧ Below w.heap.size w w' := by
  have HA := Lib.hid hA
  have L := Lib.hid hl
  have HU := Lib.hid (And.intro hu1 hu2)
  clear hA hl hu1 hu2
  obtain ⟨T, hT⟩ : ∃ a, vsm start = a := ⟨_, rfl⟩
  have mT : moO T = true := by rw [← hT]; exact vsm_mo start
  have tb := vsm_bd start
  rw [hT] at tb
  have V1 := Lib.hid hT
  have MT := Lib.hid mT
  have TB := Lib.hid tb
  clear hT mT tb
  go_enter Tryz.func8, Tryz.ntmps8
  go_upto_region 0 with fail
  go_cut [4] (fun p wz => p = .pointer (some ⟨w.heap.size, 0, none⟩) ∧ Hid (Cs w.heap.size wz [.int .i64 x.fq, .int .i64 x.iv, .int .i64 x.ct, .bool x.un, .int .i64 x.ua, .bool x.ut, s6, s7, s8, s9, s10, s11, s12, s13, s14, .int .i64 x.wk]) ∧ Hid (Below w.heap.size w wz))
  case first =>
    go_wp2
    go_meet
    exact ⟨rfl, Lib.hid (Cs.new w _ _), Lib.hid ((Below.refl _ _).alloc (Nat.le_refl _) _)⟩
  case rest =>
  obtain ⟨w1, rfl⟩ : ∃ x : World, x = wc := ⟨_, rfl⟩
  obtain ⟨rfl, RB, B⟩ := hcut
  obtain ⟨kb, hkb⟩ : ∃ c, ckB x = c := ⟨_, rfl⟩
  have HKB := Lib.hid hkb
  clear hkb
  go_wp2_with (refine ld16 RB.out rfl (by rfl) (by rfl) (by rfl) ?_; intro K hK; go_simp)
  refine (Rct.hv_to _ _ _ _ _ _ _ _ _ x _ (L.out.below B.out)).mono ?_
  rintro e w2 ⟨hb, rfl, HH, k⟩
  have RB := Lib.hid (RB.out.below k)
  have B := Lib.hid (bstep B.out k)
  clear k
  cases hb with
  | true =>
    go_wp2
    go_ret
    exact ⟨ret_b rfl, B.out⟩
  | false =>
  have S := Lib.hid (small_of (HH.out rfl))
  go_wp2_with (refine ld16 RB.out rfl (by rfl) (by rfl) (by rfl) ?_; intro K hK; go_simp)
  refine (Rrl.rrec_to _ _ _ _ _ _ _ _ _ x kb _ HU.out.1 HU.out.2 (L.out.below B.out) HKB).mono ?_
  rintro e w3 ⟨rfl, k⟩
  have RB := Lib.hid (RB.out.below k)
  have B := Lib.hid (bstep B.out k)
  clear k
  cases kb with
  | false =>
    go_wp2
    go_ret
    exact ⟨ret_b rfl, B.out⟩
  | true =>
  have KF := Lib.hid (ck_fq HKB.out)
  have PE : Hid (perE x T = 0) := Lib.hid (by rw [perE, if_pos HKB.out, if_pos MT.out])
  go_upto_region 3 with fail
  go_cut [1] (fun a wz => a = .int .i64 T ∧ Hid (Cs w.heap.size wz [.int .i64 x.fq, .int .i64 x.iv, .int .i64 x.ct, .bool x.un, .int .i64 x.ua, .bool x.ut, s6, s7, s8, s9, s10, s11, s12, s13, s14, .int .i64 x.wk]) ∧ Hid (Below w.heap.size w wz))
  case first =>
    go_wp2_with fail
    refine (vsome_to start T _ V1).mono ?_
    rintro e w4 ⟨rfl, k⟩
    have RB := Lib.hid (RB.out.below k)
    have B := Lib.hid (bstep B.out k)
    clear k
    go_wp2
    go_meet
    exact ⟨rfl, RB, B⟩
  case rest =>
  obtain ⟨w4, rfl⟩ : ∃ x : World, x = wc := ⟨_, rfl⟩
  clear RB B
  obtain ⟨rfl, RB, B⟩ := hcut

  obtain ⟨U, hU⟩ : ∃ u, IntKind.u64.wrap n = u := ⟨_, rfl⟩
  have u0U : 0 ≤ U ∧ U < 18446744073709551616 := by rw [← hU, IntKind.wrap_u64]; omega
  obtain ⟨m, hm⟩ : ∃ m, U % 100000000 = m := ⟨_, rfl⟩
  have bm : 0 ≤ m ∧ m < 100000000 := by rw [← hm]; omega
  have rm : U.tmod 100000000 = m := by rw [Int.tmod_eq_emod_of_nonneg u0U.1, hm]

  have w1x : IntKind.i64.wrap m = m := by rw [IntKind.wrap_i64]; omega
  obtain ⟨to_, hto⟩ : ∃ z, T + m = z := ⟨_, rfl⟩
  have tbo := TB.out
  have w2x : IntKind.i64.wrap (T + m) = to_ := by rw [IntKind.wrap_i64]; omega

  go_upto_region 4 with fail
  go_cut [9] (fun a wz => a = .int .i64 to_ ∧ Hid (Cs w.heap.size wz [.int .i64 x.fq, .int .i64 x.iv, .int .i64 x.ct, .bool x.un, .int .i64 x.ua, .bool x.ut, s6, s7, s8, s9, s10, s11, s12, s13, s14, .int .i64 x.wk]) ∧ Hid (Below w.heap.size w wz))
  case first =>
    go_wp2
    go_meet
    refine ⟨?_, RB, B⟩
    first | rfl | (simp [hU, rm, w1x, w2x, hto]; done) | trace_state
  case rest =>
  obtain ⟨wn, rfl⟩ : ∃ x : World, x = wc := ⟨_, rfl⟩
  clear RB B
  obtain ⟨rfl, RB, B⟩ := hcut

  obtain ⟨w4b, rfl⟩ : ∃ x : World, x = wn := ⟨_, rfl⟩
  have TO : Hid (T ≤ to_ ∧ to_ ≤ T + 100000000) := Lib.hid (by omega)
  clear hU u0U hm bm rm w1x hto w2x tbo
  have AR : Hid (arB T to_ 3000 = false) := Lib.hid (ar_no TO.out.1 (by have := TB.out; omega) (by have := TB.out; have := TO.out; omega) (by decide))
  obtain ⟨⟨en, co, O⟩, hX⟩ : ∃ z, tmX x T T to_ 3000 = z := ⟨_, rfl⟩
  have X1 := Lib.hid hX
  clear hX
  go_upto_region 5 with fail
  go_cut [10, 11, 12] (fun a b c wz => ∃ lv, lv = a ∧ b = .int .i64 co ∧ c = .int .i64 en ∧ Hid (RowI w.heap.size wz lv O) ∧ Hid (Cs w.heap.size wz [.int .i64 x.fq, .int .i64 x.iv, .int .i64 x.ct, .bool x.un, .int .i64 x.ua, .bool x.ut, s6, s7, s8, s9, s10, s11, s12, s13, s14, .int .i64 x.wk]) ∧ Hid (Below w.heap.size w wz))
  case first =>
    go_wp2_with (refine ld16 RB.out rfl (by rfl) (by rfl) (by rfl) ?_; intro K hK; go_simp)
    refine (tms_to x _ _ _ _ _ _ _ _ _ T T to_ 3000 _ _ (Lib.hid (HA.out.stays B.out)) HU (Lib.hid (L.out.below B.out)) S (Lib.hid (by have := TB.out; have := TO.out; omega)) X1).mono ?_
    rintro e w5 ⟨lv, rfl, R, k⟩
    have RB := Lib.hid (RB.out.below k)
    have RO := Lib.hid (own_less2 R B.out.size)
    have B := Lib.hid (bstep B.out k)
    clear k R
    go_wp2
    go_meet
    exact ⟨_, rfl, rfl, rfl, RO, RB, B⟩
  case rest =>
  obtain ⟨w5, rfl⟩ : ∃ x : World, x = wc := ⟨_, rfl⟩
  clear RB B
  obtain ⟨lv, rfl, rfl, rfl, RO, RB, B⟩ := hcut
  rcases tm_two PE.out AR.out X1.out with rfl | ⟨rfl, rfl, rfl⟩
  rotate_left
  · go_wp2_with fail
    refine (wakes23_any _ (HA.out.stays B.out)).mono ?_
    rintro e w13 ⟨rfl, k⟩
    go_wp2
    go_ret
    exact ⟨ret_b rfl, bstep B.out k⟩
  have CO := Lib.hid (tm_cost PE.out AR.out X1.out)
  have X2 := Lib.hid (tm_same PE.out AR.out X1.out)
  have OL : Hid (O.length ≤ 1000000) := Lib.hid (by have := CO.out; omega)
  go_upto_region 8 with fail
  go_cut [13, 14, 15] (fun a b c wz => ∃ lv2, lv2 = a ∧ b = .int .i64 co ∧ c = .int .i64 0 ∧ Hid (RowI w.heap.size wz lv2 O) ∧ Hid (RowI w.heap.size wz lv O) ∧ Hid (Cs w.heap.size wz [.int .i64 x.fq, .int .i64 x.iv, .int .i64 x.ct, .bool x.un, .int .i64 x.ua, .bool x.ut, s6, s7, s8, s9, s10, s11, s12, s13, s14, .int .i64 x.wk]) ∧ Hid (Below w.heap.size w wz))
  case first =>
    go_wp2_with (refine ld16 RB.out rfl (by rfl) (by rfl) (by rfl) ?_; intro K hK; go_simp)
    refine (tms_to x _ _ _ _ _ _ _ _ _ T T to_ co _ _ (Lib.hid (HA.out.stays B.out)) HU (Lib.hid (L.out.below B.out)) S (Lib.hid (by have := TB.out; have := TO.out; have := CO.out; omega)) X2).mono ?_
    rintro e w6 ⟨lv2, rfl, R, k⟩
    have RB := Lib.hid (RB.out.below k)
    have R2 := Lib.hid (own_less2 R B.out.size)
    have RO := Lib.hid (RO.out.below k)
    have B := Lib.hid (bstep B.out k)
    clear k R
    go_wp2
    go_meet
    exact ⟨_, rfl, rfl, rfl, R2, RO, RB, B⟩
  case rest =>
  obtain ⟨w6, rfl⟩ : ∃ x : World, x = wc := ⟨_, rfl⟩
  clear RB B RO
  obtain ⟨lv2, rfl, rfl, rfl, R2, RO, RB, B⟩ := hcut
  obtain ⟨A1, c1, rfl⟩ := RO.out.forms
  obtain ⟨ol, hol⟩ : ∃ z, O.length = z := ⟨_, rfl⟩
  have HOL := Lib.hid hol
  have nle : ¬ co + 1 < (ol : Int) := by have := CO.out; rw [hol] at this; omega
  have wco : IntKind.i64.wrap (co + 1) = co + 1 := by have := CO.out; rw [IntKind.wrap_i64]; omega
  have RO2 := RO
  clear RO
  rw [hol]
  clear hol
  go_upto_region 9 with fail
  go_cut [79] (fun a wz => a = .bool false ∧ Hid (Cs w.heap.size wz [.int .i64 x.fq, .int .i64 x.iv, .int .i64 x.ct, .bool x.un, .int .i64 x.ua, .bool x.ut, s6, s7, s8, s9, s10, s11, s12, s13, s14, .int .i64 x.wk]) ∧ Hid (Below w.heap.size w wz))
  case first =>
    go_wp2_with fail
    refine (ints_b _ _ O O _ (IntV.of_row R2.out) (by have := IntV.of_row RO2.out; rw [HOL.out] at this; exact this) OL.out OL.out true (Lib.hid (decide_eq_true rfl))).mono ?_
    rintro e w7 ⟨rfl, k⟩
    have RB := Lib.hid (RB.out.below k)
    have B := Lib.hid (bstep B.out k)
    clear k
    go_wp2
    go_meet
    exact ⟨by rw [decide_eq_false (by omega)], RB, B⟩
  case rest =>
  obtain ⟨w7, rfl⟩ : ∃ x : World, x = wc := ⟨_, rfl⟩
  clear RB B R2 RO2
  obtain ⟨rfl, RB, B⟩ := hcut
  clear nle wco
  by_cases c0 : co = 0
  · subst c0
    go_wp2_with fail
    refine (wakes23_any _ (HA.out.stays B.out)).mono ?_
    rintro e w13 ⟨rfl, k⟩
    go_wp2
    go_ret
    exact ⟨ret_b rfl, bstep B.out k⟩
  have cb : 1 ≤ co ∧ co ≤ 3000 := by have := CO.out; omega
  have wcu : IntKind.u64.wrap co = co := by rw [IntKind.wrap_u64]; omega
  obtain ⟨U, hU⟩ : ∃ u, IntKind.u64.wrap less = u := ⟨_, rfl⟩
  have u0 : 0 ≤ U ∧ U < 18446744073709551616 := by rw [← hU, IntKind.wrap_u64]; omega
  obtain ⟨m, hm⟩ : ∃ m, U % co = m := ⟨_, rfl⟩
  have bm : 0 ≤ m ∧ m < co := by rw [← hm]; exact ⟨Int.emod_nonneg _ (by omega), Int.emod_lt_of_pos _ (by omega)⟩
  have rm : U.tmod co = m := by rw [Int.tmod_eq_emod_of_nonneg u0.1, hm]
  have w1x : IntKind.i64.wrap m = m := by rw [IntKind.wrap_i64]; omega
  have w3x : IntKind.u64.wrap m = m := by rw [IntKind.wrap_u64]; omega
  have X3 := Lib.hid (tm_less (f' := m) PE.out AR.out X1.out bm.1 bm.2)
  have MB := Lib.hid bm
  clear hm u0 bm
  have Sd : Hid (Below w7.heap.size w7 w7.drew) := Lib.hid ((Below.refl _ _).trans ⟨rfl, rfl, rfl, Nat.le_refl _, fun _ _ => rfl⟩)
  go_upto_region 13 with fail
  refine Hr.Walk.region (R := fun _ X0 => Below w7.heap.size w7 X0) (by kernel_rfl) ?_
  refine Hr.Walk.take (i := 0) (v := ?v0) (fun X0 => Below w7.heap.size w7 X0) (fun _ => True) rfl (by kernel_rfl) (by kernel_rfl) (by kernel_rfl) (fun _ _ _ h => h) (fun _ _ _ _ _ _ => trivial) (fun _ _ _ h => h) (fun _ _ h => h) trivial (Or.inl ⟨by rfl, ?hy0⟩) Sd.out Sd.out ?rest0
  case hy0 => intro X0 hx; have hr := (RB.out.below hx).range; clear hx; refine ldY (x := .tmp 4) hr ?_ ?_ Tryz.underlying25 rfl ?_; all_goals first | rfl | kernel_rfl
  (try go_simp)
  refine Hr.Walk.take (i := 1) (v := ?v1) (fun X0 => Below w7.heap.size w7 X0) (fun _ => True) rfl (by kernel_rfl) (by kernel_rfl) (by kernel_rfl) (fun _ _ _ h => h) (fun _ _ _ _ _ _ => trivial) (fun _ _ _ h => h) (fun _ _ h => h) trivial (Or.inl ⟨by rfl, ?hy1⟩) Sd.out Sd.out ?rest1
  case hy1 => intro X0 hx; clear hx; go_simp; try with_reducible rfl
  (try go_simp)
  refine Hr.Walk.take (i := 2) (v := ?v2) (fun X0 => Below w7.heap.size w7 X0) (fun _ => True) rfl (by kernel_rfl) (by kernel_rfl) (by kernel_rfl) (fun _ _ _ h => h) (fun _ _ _ _ _ _ => trivial) (fun _ _ _ h => h) (fun _ _ h => h) trivial (Or.inl ⟨by rfl, ?hy2⟩) Sd.out Sd.out ?rest2
  case hy2 => intro X0 hx; clear hx; go_simp; try with_reducible rfl
  (try go_simp)
  refine Hr.Walk.take (i := 3) (v := ?v3) (fun X0 => Below w7.heap.size w7 X0) (fun _ => True) rfl (by kernel_rfl) (by kernel_rfl) (by kernel_rfl) (fun _ _ _ h => h) (fun _ _ _ _ _ _ => trivial) (fun _ _ _ h => h) (fun _ _ h => h) trivial (Or.inl ⟨by rfl, ?hy3⟩) Sd.out Sd.out ?rest3
  case hy3 => intro X0 hx; clear hx; go_simp; try with_reducible rfl
  (try go_simp)
  refine Hr.Walk.take (i := 4) (v := ?v4) (fun X0 => Below w7.heap.size w7 X0) (fun _ => True) rfl (by kernel_rfl) (by kernel_rfl) (by kernel_rfl) (fun _ _ _ h => h) (fun _ _ _ _ _ _ => trivial) (fun _ _ _ h => h) (fun _ _ h => h) trivial (Or.inl ⟨by rfl, ?hy4⟩) Sd.out Sd.out ?rest4
  case hy4 => intro X0 hx; clear hx; go_simp; try with_reducible rfl
  (try go_simp)
  refine Hr.Walk.take (i := 5) (v := ?v5) (fun X0 => Below w7.heap.size w7 X0) (fun _ => True) rfl (by kernel_rfl) (by kernel_rfl) (by kernel_rfl) (fun _ _ _ h => h) (fun _ _ _ _ _ _ => trivial) (fun _ _ _ h => h) (fun _ _ h => h) trivial (Or.inl ⟨by rfl, ?hy5⟩) Sd.out Sd.out ?rest5
  case hy5 => intro X0 hx; clear hx; go_simp; (try simp only [hU]); try with_reducible rfl
  (try go_simp)
  refine Hr.Walk.one (i := 6) (by kernel_rfl) rfl (fun K hK => ?_)
  go_simp
  (try simp only [wcu, rm, w1x, w3x])
  refine hK.out _ _ Sd.out ?_
  clear hK K
  refine Hr.Walk.one (i := 7) (by kernel_rfl) rfl (fun K hK => ?_)
  go_simp
  (try simp only [wcu, rm, w1x, w3x])
  refine hK.out _ _ Sd.out ?_
  clear hK K
  refine Hr.Walk.one (i := 8) (by kernel_rfl) rfl (fun K hK => ?_)
  go_simp
  (try simp only [wcu, rm, w1x, w3x])
  refine hK.out _ _ Sd.out ?_
  clear hK K
  refine Hr.Walk.one (i := 9) (by kernel_rfl) rfl (fun K hK => ?_)
  go_simp
  (try simp only [wcu, rm, w1x, w3x])
  refine hK.out _ _ Sd.out ?_
  clear hK K
  refine Hr.Walk.one (i := 10) (by kernel_rfl) rfl (fun K hK => ?_)
  go_simp
  (try simp only [hU, wcu, rm, w1x, w3x])
  go_at_call 12
  refine (tms_to x _ _ _ _ _ _ _ _ _ T T to_ m _ _ (Lib.hid (HA.out.stays (bstep B.out Sd.out))) HU (Lib.hid (L.out.below (bstep B.out Sd.out))) S (Lib.hid (by have := TB.out; have := TO.out; have := MB.out; omega)) X3).mono ?_
  rintro e w8 ⟨lv3, rfl, R, k⟩
  have S2 : Hid (Below w7.heap.size w7 w8) := Lib.hid (bstep Sd.out k)
  refine hK.out _ _ S2.out ?_
  clear hK K R k
  refine Hr.Walk.one (i := 11) (by kernel_rfl) rfl (fun K hK => ?_)
  go_simp
  refine hK.out _ _ S2.out ?_
  clear hK K
  refine Hr.Walk.take (i := 12) (v := ?v12) (fun X0 => Below w7.heap.size w7 X0) (fun _ => True) rfl (by kernel_rfl) (by kernel_rfl) (by kernel_rfl) (fun _ _ _ h => h) (fun _ _ _ _ _ _ => trivial) (fun _ _ _ h => h) (fun _ _ h => h) trivial (Or.inl ⟨by rfl, ?hy12⟩) S2.out S2.out ?rest12
  case hy12 => intro X0 hx; clear hx; go_simp; try with_reducible rfl
  (try go_simp)
  refine Hr.Walk.take (i := 13) (v := ?v13) (fun X0 => Below w7.heap.size w7 X0) (fun _ => True) rfl (by kernel_rfl) (by kernel_rfl) (by kernel_rfl) (fun _ _ _ h => h) (fun _ _ _ _ _ _ => trivial) (fun _ _ _ h => h) (fun _ _ h => h) trivial (Or.inl ⟨by rfl, ?hy13⟩) S2.out S2.out ?rest13
  case hy13 => intro X0 hx; clear hx; go_simp; try with_reducible rfl
  (try go_simp)
  refine Hr.Walk.take (i := 14) (v := ?v14) (fun X0 => Below w7.heap.size w7 X0) (fun _ => True) rfl (by kernel_rfl) (by kernel_rfl) (by kernel_rfl) (fun _ _ _ h => h) (fun _ _ _ _ _ _ => trivial) (fun _ _ _ h => h) (fun _ _ h => h) trivial (Or.inl ⟨by rfl, ?hy14⟩) S2.out S2.out ?rest14
  case hy14 => intro X0 hx; clear hx; go_simp; try with_reducible rfl
  (try go_simp)
  refine Hr.Walk.one (i := 15) (by kernel_rfl) rfl (fun K hK => ?_)
  go_simp
  refine hK.out _ _ S2.out ?_
  clear hK K
  refine Hr.Walk.one (i := 16) (by kernel_rfl) rfl (fun K hK => ?_)
  go_simp
  refine hK.out _ _ S2.out ?_
  clear hK K
  refine Hr.Walk.one (i := 17) (by kernel_rfl) rfl (fun K hK => ?_)
  go_simp
  refine hK.out _ _ S2.out ?_
  clear hK K
  refine Hr.Walk.done (by kernel_rfl) ?_ _
  go_wp2_with fail
  refine (wakes23_any _ (HA.out.stays (bstep B.out S2.out))).mono ?_
  rintro e w13 ⟨rfl, k⟩
  go_wp2
  go_ret
  exact ⟨ret_b rfl, bstep (bstep B.out S2.out) k⟩
end Rru
end Go.Proofs.YtbdakbjlgljahaaGreatDoor
