/-
  RruleAll: the law answers true at every rule, start and number, in whatever world that holds the table of the months.
-/
import Derived.Test.YtbdakbjlgljahaaGreatDoorRruW
import Derived.Test.YtbdakbjlgljahaaGreatDoorBdU7
import Derived.Test.YtbdakbjlgljahaaGreatDoorBdFd
import Derived.Test.YtbdakbjlgljahaaGreatDoorBdRg
import Derived.Test.YtbdakbjlgljahaaGreatDoorBdRl
import Derived.Test.YtbdakbjlgljahaaGreatDoorVxR
import Derived.Test.YtbdakbjlgljahaaGreatDoorBdFl
namespace Go.Proofs.YtbdakbjlgljahaaGreatDoor
open Go.RowKit
namespace Rru
open Rcv (CV LisV IntV DayV)
open Rck (ckE ckB Small)
open Ap (RowI)
open Civ (numV numE dY dM dD dnE ydV Ahead)
open Fil (moO mo_bd spE spT spF spQ perV perE perQ ld16 vsm vsm_mo vsm_bd vsome_to ck_fq per_to span_to)
open Cel

theorem tmod_bd {a v : Int} (h : 1 ≤ v ∧ v ≤ 1000) : -1000 ≤ a.tmod v ∧ a.tmod v ≤ 1000 := by
  have a1 := Int.tmod_lt_of_pos a (show 0 < v by omega)
  have b1 := Int.lt_tmod_of_pos a (show 0 < v by omega)
  generalize a.tmod v = r at a1 b1 ⊢
  omega
theorem wrap_small {n : Int} (h : -1000 ≤ n ∧ n ≤ 1000) : IntKind.i64.wrap n = n := by rw [IntKind.wrap_i64]; omega

set_option maxHeartbeats 25600000 in
set_option maxRecDepth 100000 in
theorem all_any (start at_ : Int) (x : CV) (s6 s7 s8 s9 s10 s11 s12 s13 s14 : Value) (w : World) (hA : Ahead w) (hl : LisV w x s6 s7 s8 s9 s10 s11 s12 s13 s14) (hu1 : -9223372036854775808 ≤ x.ua) (hu2 : x.ua ≤ 9223372036854775807) :
    Calls Tryz.prog 5 #[.agg #[.int .i64 x.fq, .int .i64 x.iv, .int .i64 x.ct, .bool x.un, .int .i64 x.ua, .bool x.ut, s6, s7, s8, s9, s10, s11, s12, s13, s14, .int .i64 x.wk], .int .i64 start, .int .i64 at_] w fun e w' => e = .returned (.bool true) ∧ Below w.heap.size w w' := by
  have HA := Lib.hid hA
  have L := Lib.hid hl
  have HU := Lib.hid (And.intro hu1 hu2)
  clear hA hl hu1 hu2
  obtain ⟨a14, c14, rfl⟩ := L.out.h14.slice
  obtain ⟨T, hT⟩ : ∃ a, vsm start = a := ⟨_, rfl⟩
  have mT : moO T = true := by rw [← hT]; exact vsm_mo start
  have tb := vsm_bd start
  rw [hT] at tb
  have V1 := Lib.hid hT
  have MT := Lib.hid mT
  have TB := Lib.hid tb
  clear hT mT tb
  go_enter Tryz.func5, Tryz.ntmps5
  go_upto_region 0 with fail
  go_cut [3] (fun p wz => p = .pointer (some ⟨w.heap.size, 0, none⟩) ∧ Hid (Cs w.heap.size wz [.int .i64 x.fq, .int .i64 x.iv, .int .i64 x.ct, .bool x.un, .int .i64 x.ua, .bool x.ut, s6, s7, s8, s9, s10, s11, s12, s13, .slice a14 x.sp.length c14, .int .i64 x.wk]) ∧ Hid (Below w.heap.size w wz))
  case first =>
    go_wp2
    go_meet
    exact ⟨rfl, Lib.hid (Cs.new w _ _), Lib.hid ((Below.refl _ _).alloc (Nat.le_refl _) _)⟩
  case rest =>
  obtain ⟨w1, rfl⟩ : ∃ x : World, x = wc := ⟨_, rfl⟩
  obtain ⟨rfl, RB, B⟩ := hcut
  obtain ⟨kb, hkb⟩ : ∃ c, ckB x = c := ⟨_, rfl⟩
  have HKB := Lib.hid hkb
  clear hkb
  go_wp2_with (refine ld16 RB.out rfl (by rfl) (by rfl) (by rfl) ?_; intro K hK; go_simp)
  refine (Rct.hv_to _ _ _ _ _ _ _ _ _ x _ (L.out.below B.out)).mono ?_
  rintro e w2 ⟨hb, rfl, HH, k⟩
  have RB := Lib.hid (RB.out.below k)
  have B := Lib.hid (bstep B.out k)
  clear k
  cases hb with
  | true =>
    go_wp2
    go_ret
    exact ⟨ret_b rfl, B.out⟩
  | false =>
  have S := Lib.hid (small_of (HH.out rfl))
  go_wp2_with (refine ld16 RB.out rfl (by rfl) (by rfl) (by rfl) ?_; intro K hK; go_simp)
  refine (Rrl.rrec_to _ _ _ _ _ _ _ _ _ x kb _ HU.out.1 HU.out.2 (L.out.below B.out) HKB).mono ?_
  rintro e w3 ⟨rfl, k⟩
  have RB := Lib.hid (RB.out.below k)
  have B := Lib.hid (bstep B.out k)
  clear k
  cases kb with
  | false =>
    go_wp2
    go_ret
    exact ⟨ret_b rfl, B.out⟩
  | true =>
  have KF := Lib.hid (ck_fq HKB.out)
  have PE : Hid (perE x T = 0) := Lib.hid (by rw [perE, if_pos HKB.out, if_pos MT.out])
  have l2 := (RB.out.2 2 _ rfl).1
  have l3 := (RB.out.2 3 _ rfl).1
  have l14 := (RB.out.2 14 _ rfl).1
  by_cases ct : 0 < x.ct
  · go_wp2
    go_ret
    exact ⟨ret_b rfl, B.out⟩
  obtain ⟨un, hun⟩ : ∃ z, x.un = z := ⟨_, rfl⟩
  cases un with
  | true =>
    rw [hun] at l3
    go_wp2
    go_ret
    exact ⟨ret_b rfl, B.out⟩
  | false =>
  rw [hun] at l3
  by_cases sp0 : 0 < (x.sp.length : Int)
  · go_wp2
    go_ret
    exact ⟨ret_b rfl, B.out⟩
  have spn : x.sp = [] := List.length_eq_zero_iff.1 (by omega)
  have CU := Lib.hid (And.intro ct (And.intro hun spn))
  go_upto_region 3 with fail
  go_cut [1] (fun a wz => a = .int .i64 T ∧ Hid (Cs w.heap.size wz [.int .i64 x.fq, .int .i64 x.iv, .int .i64 x.ct, .bool x.un, .int .i64 x.ua, .bool x.ut, s6, s7, s8, s9, s10, s11, s12, s13, .slice a14 x.sp.length c14, .int .i64 x.wk]) ∧ Hid (Below w.heap.size w wz))
  case first =>
    go_wp2_with fail
    refine (vsome_to start T _ V1).mono ?_
    rintro e w4 ⟨rfl, k⟩
    have RB := Lib.hid (RB.out.below k)
    have B := Lib.hid (bstep B.out k)
    clear k
    go_wp2
    go_meet
    exact ⟨rfl, RB, B⟩
  case rest =>
  obtain ⟨w4, rfl⟩ : ∃ x : World, x = wc := ⟨_, rfl⟩
  clear RB B
  obtain ⟨rfl, RB, B⟩ := hcut

  clear l2 l3 l14 ct sp0 hun spn

  obtain ⟨U, hU⟩ : ∃ u, IntKind.u64.wrap at_ = u := ⟨_, rfl⟩
  have u0U : 0 ≤ U ∧ U < 18446744073709551616 := by rw [← hU, IntKind.wrap_u64]; omega
  obtain ⟨m, hm⟩ : ∃ m, U % 4000000000 = m := ⟨_, rfl⟩
  have bm : 0 ≤ m ∧ m < 4000000000 := by rw [← hm]; omega
  have rm : U.tmod 4000000000 = m := by rw [Int.tmod_eq_emod_of_nonneg u0U.1, hm]

  have w1x : IntKind.i64.wrap m = m := by rw [IntKind.wrap_i64]; omega
  obtain ⟨t, hto⟩ : ∃ z, T + m = z := ⟨_, rfl⟩
  have tbo := TB.out
  have w2x : IntKind.i64.wrap (T + m) = t := by rw [IntKind.wrap_i64]; omega

  go_upto_region 4 with fail
  go_cut [7] (fun a wz => a = .int .i64 t ∧ Hid (Cs w.heap.size wz [.int .i64 x.fq, .int .i64 x.iv, .int .i64 x.ct, .bool x.un, .int .i64 x.ua, .bool x.ut, s6, s7, s8, s9, s10, s11, s12, s13, .slice a14 x.sp.length c14, .int .i64 x.wk]) ∧ Hid (Below w.heap.size w wz))
  case first =>
    go_wp2
    go_meet
    refine ⟨?_, RB, B⟩
    first | rfl | (simp [hU, rm, w1x, w2x, hto]; done) | trace_state
  case rest =>
  obtain ⟨wn, rfl⟩ : ∃ x : World, x = wc := ⟨_, rfl⟩
  clear RB B
  obtain ⟨rfl, RB, B⟩ := hcut

  obtain ⟨w4b, rfl⟩ : ∃ x : World, x = wn := ⟨_, rfl⟩
  have TO : Hid (T ≤ t ∧ t ≤ T + 4000000000) := Lib.hid (by omega)
  clear hU u0U hm bm rm w1x hto w2x tbo
  obtain ⟨d, hd⟩ : ∃ d, t / 86400 = d := ⟨_, rfl⟩
  obtain ⟨Y, hY⟩ : ∃ z, dY d = z := ⟨_, rfl⟩
  obtain ⟨M, hM⟩ : ∃ z, dM d = z := ⟨_, rfl⟩
  obtain ⟨D, hD⟩ : ∃ z, dD d = z := ⟨_, rfl⟩
  obtain ⟨yb, hyb⟩ : ∃ z, decide (Val.tmE t = 0) = z := ⟨_, rfl⟩
  have P1 := Lib.hid (show dY (t / 86400) = Y ∧ dM (t / 86400) = M ∧ dD (t / 86400) = D from ⟨by rw [hd, hY], by rw [hd, hM], by rw [hd, hD]⟩)
  have TM := Lib.hid hyb
  clear hY hM hD hd hyb
  go_upto_region 5 with fail
  go_cut [8, 9] (fun a b wz => ∃ g1, a = .pointer (some ⟨g1, 0, none⟩) ∧ b = .bool yb ∧ Hid (Cs g1 wz [.int .i64 Y, .int .i64 M, .int .i64 D]) ∧ Hid (Cs w.heap.size wz [.int .i64 x.fq, .int .i64 x.iv, .int .i64 x.ct, .bool x.un, .int .i64 x.ua, .bool x.ut, s6, s7, s8, s9, s10, s11, s12, s13, .slice a14 x.sp.length c14, .int .i64 x.wk]) ∧ Hid (Below w.heap.size w wz))
  case first =>
    go_wp2_with fail
    refine (Val.ryears_to t Y M D yb _ (by have := TB.out; have := TO.out; omega) (by have := TB.out; have := TO.out; omega) P1.out TM.out).mono ?_
    rintro e w7 ⟨rfl, k⟩
    have RB := Lib.hid (RB.out.below k)
    have B := Lib.hid (bstep B.out k)
    clear k
    go_wp2
    go_meet
    exact ⟨_, rfl, rfl, Lib.hid (Cs.new w7 [.int .i64 Y, .int .i64 M, .int .i64 D] _), Lib.hid (RB.out.alloc _), Lib.hid (B.out.alloc B.out.size _)⟩
  case rest =>
  obtain ⟨w7, rfl⟩ : ∃ x : World, x = wc := ⟨_, rfl⟩
  clear RB B
  obtain ⟨g1, rfl, rfl, C, RB, B⟩ := hcut
  have y0 := (C.out.2 0 _ rfl).1
  cases yb with
  | false =>
    go_wp2
    go_ret
    exact ⟨ret_b rfl, B.out⟩
  | true =>
  by_cases y1 : 9997 < Y
  · go_wp2
    go_ret
    exact ⟨ret_b rfl, B.out⟩
  have mt : moO t = true := by
    have q := of_decide_eq_true TM.out
    rw [Val.tmE] at q
    split at q
    · rename_i h
      exact decide_eq_true h
    · exact absurd q (by decide)
  have MU := Lib.hid mt
  have PT : Hid (perE x t = 0) := Lib.hid (by rw [perE, if_pos HKB.out, if_pos mt])
  have YL : Hid (dY (t / 86400) ≤ 9997) := Lib.hid (by rw [P1.out.1]; omega)

  obtain ⟨p, hp⟩ : ∃ z, perV x T = z := ⟨_, rfl⟩
  obtain ⟨q, hq⟩ : ∃ z, perV x t = z := ⟨_, rfl⟩
  have PV := Lib.hid hp
  have QV := Lib.hid hq
  clear hp hq

  go_upto_region 8 with fail
  go_cut [10, 11] (fun a b wz => a = .int .i64 p ∧ b = .int .i64 0 ∧ Hid (Cs w.heap.size wz [.int .i64 x.fq, .int .i64 x.iv, .int .i64 x.ct, .bool x.un, .int .i64 x.ua, .bool x.ut, s6, s7, s8, s9, s10, s11, s12, s13, .slice a14 x.sp.length c14, .int .i64 x.wk]) ∧ Hid (Below w.heap.size w wz))
  case first =>
    go_wp2_with (refine ld16 RB.out rfl (by rfl) (by rfl) (by rfl) ?_; intro K hK; go_simp)
    refine (per_to x _ _ _ _ _ _ _ _ _ T p 0 _ (HA.out.stays B.out) HU.out.1 HU.out.2 (L.out.below B.out) S.out (by have := TB.out; omega) (by have := TB.out; omega) PV PE).mono ?_
    rintro e w5 ⟨rfl, k⟩
    have RB := Lib.hid (RB.out.below k)
    have B := Lib.hid (bstep B.out k)
    clear k
    go_wp2
    go_meet
    exact ⟨rfl, rfl, RB, B⟩
  case rest =>
  obtain ⟨w8, rfl⟩ : ∃ x : World, x = wc := ⟨_, rfl⟩
  clear RB B C y0 y1 mt
  obtain ⟨rfl, rfl, RB, B⟩ := hcut

  go_upto_region 9 with fail
  go_cut [12, 13] (fun a b wz => a = .int .i64 q ∧ b = .int .i64 0 ∧ Hid (Cs w.heap.size wz [.int .i64 x.fq, .int .i64 x.iv, .int .i64 x.ct, .bool x.un, .int .i64 x.ua, .bool x.ut, s6, s7, s8, s9, s10, s11, s12, s13, .slice a14 x.sp.length c14, .int .i64 x.wk]) ∧ Hid (Below w.heap.size w wz))
  case first =>
    go_wp2_with (refine ld16 RB.out rfl (by rfl) (by rfl) (by rfl) ?_; intro K hK; go_simp)
    refine (per_to x _ _ _ _ _ _ _ _ _ t q 0 _ (HA.out.stays B.out) HU.out.1 HU.out.2 (L.out.below B.out) S.out (by have := TB.out; have := TO.out; omega) (by have := TB.out; have := TO.out; omega) QV PT).mono ?_
    rintro e w5 ⟨rfl, k⟩
    have RB := Lib.hid (RB.out.below k)
    have B := Lib.hid (bstep B.out k)
    clear k
    go_wp2
    go_meet
    exact ⟨rfl, rfl, RB, B⟩
  case rest =>
  obtain ⟨w9, rfl⟩ : ∃ x : World, x = wc := ⟨_, rfl⟩
  clear RB B
  obtain ⟨rfl, rfl, RB, B⟩ := hcut

  obtain ⟨f, hf⟩ : ∃ z, spF x p = z := ⟨_, rfl⟩
  obtain ⟨g, hg⟩ : ∃ z, spT x p = z := ⟨_, rfl⟩
  obtain ⟨c, hc⟩ : ∃ z, spE x p = z := ⟨_, rfl⟩
  have SF := Lib.hid hf
  have ST := Lib.hid hg
  have SE := Lib.hid hc
  clear hf hg hc
  go_upto_region 10 with fail
  go_cut [16] (fun d wz => d = .int .i64 c ∧ Hid (Cs w.heap.size wz [.int .i64 x.fq, .int .i64 x.iv, .int .i64 x.ct, .bool x.un, .int .i64 x.ua, .bool x.ut, s6, s7, s8, s9, s10, s11, s12, s13, .slice a14 x.sp.length c14, .int .i64 x.wk]) ∧ Hid (Below w.heap.size w wz))
  case first =>
    go_wp2_with (refine ld16 RB.out rfl (by rfl) (by rfl) (by rfl) ?_; intro K hK; go_simp)
    refine (span_to x _ _ _ _ _ _ _ _ _ p f g c _ (HA.out.stays B.out) HU.out.1 HU.out.2 (L.out.below B.out) S.out SF ST SE).mono ?_
    rintro e w6 ⟨rfl, k⟩
    have RB := Lib.hid (RB.out.below k)
    have B := Lib.hid (bstep B.out k)
    clear k
    go_wp2
    go_meet
    exact ⟨rfl, RB, B⟩
  case rest =>
  obtain ⟨w10, rfl⟩ : ∃ x : World, x = wc := ⟨_, rfl⟩
  clear RB B
  obtain ⟨rfl, RB, B⟩ := hcut
  have AR : Hid (arB t t 3000 = false) := Lib.hid (ar_no (Int.le_refl _) (by have := TB.out; have := TO.out; omega) (by have := TB.out; have := TO.out; omega) (by decide))
  obtain ⟨⟨en, co, O⟩, hX⟩ : ∃ z, tmX x T t t 3000 = z := ⟨_, rfl⟩
  have X1 := Lib.hid hX
  clear hX
  go_upto_region 11 with fail
  go_cut [17, 19] (fun a c wz => ∃ lv, lv = a ∧ c = .int .i64 en ∧ Hid (RowI w.heap.size wz lv O) ∧ Hid (Cs w.heap.size wz [.int .i64 x.fq, .int .i64 x.iv, .int .i64 x.ct, .bool x.un, .int .i64 x.ua, .bool x.ut, s6, s7, s8, s9, s10, s11, s12, s13, .slice a14 x.sp.length c14, .int .i64 x.wk]) ∧ Hid (Below w.heap.size w wz))
  case first =>
    go_wp2_with (refine ld16 RB.out rfl (by rfl) (by rfl) (by rfl) ?_; intro K hK; go_simp)
    refine (tms_to x _ _ _ _ _ _ _ _ _ T t t 3000 _ _ (Lib.hid (HA.out.stays B.out)) HU (Lib.hid (L.out.below B.out)) S (Lib.hid (by have := TB.out; have := TO.out; omega)) X1).mono ?_
    rintro e w5 ⟨lv, rfl, R, k⟩
    have RB := Lib.hid (RB.out.below k)
    have RO := Lib.hid (own_less2 R B.out.size)
    have B := Lib.hid (bstep B.out k)
    clear k R
    go_wp2
    go_meet
    exact ⟨_, rfl, rfl, RO, RB, B⟩
  case rest =>
  obtain ⟨w11, rfl⟩ : ∃ x : World, x = wc := ⟨_, rfl⟩
  clear RB B
  obtain ⟨lv, rfl, rfl, RO, RB, B⟩ := hcut
  rcases tm_two PE.out AR.out X1.out with rfl | ⟨rfl, rfl, rfl⟩
  rotate_left
  · go_wp2_with fail
    refine (wakes23_any _ (HA.out.stays B.out)).mono ?_
    rintro e w13 ⟨rfl, k⟩
    go_wp2
    go_ret
    exact ⟨ret_b rfl, bstep B.out k⟩
  have T1 := tm_one HKB.out MT.out MU.out TO.out.1 (by have := CU.out.1; omega) CU.out.2.1 CU.out.2.2 YL.out AR.out X1.out
  rw [QV.out, PV.out, SE.out] at T1
  have T1 := Lib.hid T1
  obtain ⟨wt, hwt⟩ : ∃ z : Bool, z = decide (t = T ∨ c = 0 ∧ (q - p).tmod x.iv = 0 ∧ Fil.letP x T t = true) := ⟨_, rfl⟩
  have WT := Lib.hid hwt
  clear hwt
  have pb := per_bd (x := x) T
  have qb := per_bd (x := x) t
  rw [PV.out] at pb
  rw [QV.out] at qb
  have wqp : IntKind.i64.wrap (q - p) = q - p := by rw [IntKind.wrap_i64]; omega
  have ivb := iv_bd HKB.out
  have iv0 : ¬ x.iv = 0 := by omega
  obtain ⟨rm, hrm⟩ : ∃ z, (q - p).tmod x.iv = z := ⟨_, rfl⟩
  obtain ⟨l, hl⟩ : ∃ z, Fil.letP x T t = z := ⟨_, rfl⟩
  have L0 := Lib.hid hl
  have WT : Hid (wt = decide (t = T ∨ c = 0 ∧ rm = 0 ∧ l = true)) := Lib.hid (by rw [WT.out, hrm, hl])
  have T1 : Hid ((O = [t] ∧ wt = true) ∨ (O = [] ∧ wt = false)) := Lib.hid (by
    have k := T1.out
    rw [hrm, hl] at k
    rcases k with k | k
    · exact Or.inl ⟨k.1, by rw [WT.out]; exact decide_eq_true k.2⟩
    · exact Or.inr ⟨k.1, by rw [WT.out]; exact decide_eq_false k.2⟩)
  have wrm : IntKind.i64.wrap rm = rm := wrap_small (by rw [← hrm]; exact tmod_bd ivb)
  clear hl pb qb
  have l1 := (RB.out.2 1 _ rfl).1
  go_upto_region 16 with fail
  go_cut [20] (fun a wz => a = .bool wt ∧ Hid (RowI w.heap.size wz lv O) ∧ Hid (Below w.heap.size w wz))
  case first =>
    by_cases ts : t = T
    · have e : wt = true := by rw [WT.out]; exact decide_eq_true (Or.inl ts)
      subst e
      have ts0 : (t == T) = true := by rw [ts]; exact beq_self_eq_true T
      clear ts
      go_wp2_with fail
      go_meet
      exact ⟨rfl, RO, B⟩
    have ts0 : (t == T) = false := beq_eq_false_iff_ne.2 ts
    by_cases c0 : c = 0
    rotate_left
    · have e : wt = false := by rw [WT.out]; exact decide_eq_false (by simp [ts, c0])
      have c1 : (c == 0) = false := beq_eq_false_iff_ne.2 c0
      clear c0 ts
      subst e
      go_wp2_with fail
      go_meet
      exact ⟨rfl, RO, B⟩
    subst c0
    by_cases r0 : rm = 0
    rotate_left
    · have e : wt = false := by rw [WT.out]; exact decide_eq_false (by simp [ts, r0])
      have r1 : (rm == 0) = false := beq_eq_false_iff_ne.2 r0
      clear r0 ts
      subst e
      go_wp2_with fail
      go_meet
      exact ⟨rfl, RO, B⟩
    subst r0
    go_wp2_with (refine ld16 RB.out rfl (by rfl) (by rfl) (by rfl) ?_; intro K hK; go_simp)
    clear hrm wqp wrm
    refine (Fil.lets_to x _ _ _ _ _ _ _ _ _ T t l _ (HA.out.stays B.out) HU.out.1 HU.out.2 (L.out.below B.out) S.out (Fil.nth_all (HA.out.stays B.out) (L.out.below B.out)) (by have := TB.out; omega) (by have := TB.out; omega) (by have := TB.out; have := TO.out; omega) (by have := TB.out; have := TO.out; omega) L0).mono ?_
    rintro e w12 ⟨rfl, k⟩
    have RO := Lib.hid (RO.out.below k)
    have B := Lib.hid (bstep B.out k)
    clear k
    have e : wt = l := by rw [WT.out]; cases l <;> simp [ts]
    clear ts
    subst e
    go_wp2
    go_meet
    refine ⟨?_, RO, B⟩
    first | rfl | (rw [ts0]; rfl) | (simp [ts0]; done)
  case rest =>
  obtain ⟨w12, rfl⟩ : ∃ x : World, x = wc := ⟨_, rfl⟩
  clear RB B RO l1
  obtain ⟨rfl, RO, B⟩ := hcut
  clear hrm wqp iv0 wrm ivb
  rcases T1.out with ⟨hO, hw⟩ | ⟨hO, hw⟩
  · have RO := RO.out
    rw [hO] at RO
    obtain ⟨g2, c2, rfl, _, _, hc2, _⟩ := RO.form (by simp)
    have h0 := hc2 0 (by simp)
    simp only [List.getElem_cons_zero] at h0
    clear hc2 RO
    subst hw
    go_wp2_with fail
    refine (wakes23_any _ (HA.out.stays B.out)).mono ?_
    rintro e w13 ⟨rfl, k⟩
    go_wp2
    go_ret
    exact ⟨ret_b rfl, bstep B.out k⟩
  · have RO := RO.out
    rw [hO] at RO
    obtain ⟨A2, c2, rfl⟩ := RO.forms
    clear RO
    subst hw
    go_wp2_with fail
    refine (wakes23_any _ (HA.out.stays B.out)).mono ?_
    rintro e w13 ⟨rfl, k⟩
    go_wp2
    go_ret
    exact ⟨ret_b rfl, bstep B.out k⟩
end Rru
end Go.Proofs.YtbdakbjlgljahaaGreatDoor
