/-
  RruleLets: the law answers true at every rule, start and numbers, in whatever world that holds the table of the months.
-/
import Derived.Test.YtbdakbjlgljahaaGreatDoorRruLl2
import Derived.Test.YtbdakbjlgljahaaGreatDoorBdRg
import Derived.Test.YtbdakbjlgljahaaGreatDoorBdRl
import Derived.Test.YtbdakbjlgljahaaGreatDoorBdFl
import Derived.Test.YtbdakbjlgljahaaGreatDoorBdU7
import Derived.Test.YtbdakbjlgljahaaGreatDoorRruYB
import Derived.Test.YtbdakbjlgljahaaGreatDoorBdCl
import Derived.Test.YtbdakbjlgljahaaGreatDoorBdFd
namespace Go.Proofs.YtbdakbjlgljahaaGreatDoor
open Go.RowKit
namespace Rru
open Rcv (CV LisV IntV DayV)
open Rck (ckE ckB Small)
open Ap (RowI)
open Civ (numV numE dY dM dD dnE ydV Ahead)
open Fil (moO mo_bd spE spT spF spQ perV perE perQ ld16 vsm vsm_mo vsm_bd vsome_to ck_fq per_to span_to)
open Cel

set_option maxHeartbeats 25600000 in
set_option maxRecDepth 100000 in
theorem lets_any (start frm n : Int) (x : CV) (s6 s7 s8 s9 s10 s11 s12 s13 s14 : Value) (w : World) (hA : Ahead w) (hl : LisV w x s6 s7 s8 s9 s10 s11 s12 s13 s14) (hu1 : -9223372036854775808 ≤ x.ua) (hu2 : x.ua ≤ 9223372036854775807) :
    Calls Tryz.prog 4 #[.agg #[.int .i64 x.fq, .int .i64 x.iv, .int .i64 x.ct, .bool x.un, .int .i64 x.ua, .bool x.ut, s6, s7, s8, s9, s10, s11, s12, s13, s14, .int .i64 x.wk], .int .i64 start, .int .i64 frm, .int .i64 n] w fun e w' => e = .returned (.bool true) ∧ Below w.heap.size w w' := by
  have HA := Lib.hid hA
  have L := Lib.hid hl
  have HU := Lib.hid (And.intro hu1 hu2)
  clear hA hl hu1 hu2
  obtain ⟨a14, c14, rfl⟩ := L.out.h14.slice
  obtain ⟨T, hT⟩ : ∃ a, vsm start = a := ⟨_, rfl⟩
  have mT : moO T = true := by rw [← hT]; exact vsm_mo start
  have tb := vsm_bd start
  rw [hT] at tb
  have V1 := Lib.hid hT
  have MT := Lib.hid mT
  have TB := Lib.hid tb
  clear hT mT tb
  go_enter Tryz.func4, Tryz.ntmps4
  go_upto_region 0 with fail
  go_cut [4] (fun p wz => p = .pointer (some ⟨w.heap.size, 0, none⟩) ∧ Hid (Cs w.heap.size wz [.int .i64 x.fq, .int .i64 x.iv, .int .i64 x.ct, .bool x.un, .int .i64 x.ua, .bool x.ut, s6, s7, s8, s9, s10, s11, s12, s13, .slice a14 x.sp.length c14, .int .i64 x.wk]) ∧ Hid (Below w.heap.size w wz))
  case first =>
    go_wp2
    go_meet
    exact ⟨rfl, Lib.hid (Cs.new w _ _), Lib.hid ((Below.refl _ _).alloc (Nat.le_refl _) _)⟩
  case rest =>
  obtain ⟨w1, rfl⟩ : ∃ x : World, x = wc := ⟨_, rfl⟩
  obtain ⟨rfl, RB, B⟩ := hcut
  obtain ⟨kb, hkb⟩ : ∃ c, ckB x = c := ⟨_, rfl⟩
  have HKB := Lib.hid hkb
  clear hkb
  go_wp2_with (refine ld16 RB.out rfl (by rfl) (by rfl) (by rfl) ?_; intro K hK; go_simp)
  refine (Rct.hv_to _ _ _ _ _ _ _ _ _ x _ (L.out.below B.out)).mono ?_
  rintro e w2 ⟨hb, rfl, HH, k⟩
  have RB := Lib.hid (RB.out.below k)
  have B := Lib.hid (bstep B.out k)
  clear k
  cases hb with
  | true =>
    go_wp2
    go_ret
    exact ⟨ret_b rfl, B.out⟩
  | false =>
  have L3 := Lib.hid (HH.out rfl)
  have S := Lib.hid (small_of L3.out)
  go_wp2_with (refine ld16 RB.out rfl (by rfl) (by rfl) (by rfl) ?_; intro K hK; go_simp)
  refine (Rrl.rrec_to _ _ _ _ _ _ _ _ _ x kb _ HU.out.1 HU.out.2 (L.out.below B.out) HKB).mono ?_
  rintro e w3 ⟨rfl, k⟩
  have RB := Lib.hid (RB.out.below k)
  have B := Lib.hid (bstep B.out k)
  clear k
  cases kb with
  | false =>
    go_wp2
    go_ret
    exact ⟨ret_b rfl, B.out⟩
  | true =>
  have KF := Lib.hid (ck_fq HKB.out)
  have PE : Hid (perE x T = 0) := Lib.hid (by rw [perE, if_pos HKB.out, if_pos MT.out])
  have l14 := (RB.out.2 14 _ rfl).1
  by_cases sp0 : 0 < (x.sp.length : Int)
  · go_wp2
    go_ret
    exact ⟨ret_b rfl, B.out⟩
  go_upto_region 3 with fail
  go_cut [1] (fun a wz => a = .int .i64 T ∧ Hid (Cs w.heap.size wz [.int .i64 x.fq, .int .i64 x.iv, .int .i64 x.ct, .bool x.un, .int .i64 x.ua, .bool x.ut, s6, s7, s8, s9, s10, s11, s12, s13, .slice a14 x.sp.length c14, .int .i64 x.wk]) ∧ Hid (Below w.heap.size w wz))
  case first =>
    go_wp2_with fail
    refine (vsome_to start T _ V1).mono ?_
    rintro e w4 ⟨rfl, k⟩
    have RB := Lib.hid (RB.out.below k)
    have B := Lib.hid (bstep B.out k)
    clear k
    go_wp2
    go_meet
    exact ⟨rfl, RB, B⟩
  case rest =>
  obtain ⟨w4, rfl⟩ : ∃ x : World, x = wc := ⟨_, rfl⟩
  clear RB B
  obtain ⟨rfl, RB, B⟩ := hcut

  clear l14 sp0

  obtain ⟨U1, hU1⟩ : ∃ u, IntKind.u64.wrap frm = u := ⟨_, rfl⟩
  have u0U1 : 0 ≤ U1 ∧ U1 < 18446744073709551616 := by rw [← hU1, IntKind.wrap_u64]; omega
  obtain ⟨m1, hm1⟩ : ∃ m, U1 % 1000000000 = m := ⟨_, rfl⟩
  have bm1 : 0 ≤ m1 ∧ m1 < 1000000000 := by rw [← hm1]; omega
  have rm1 : U1.tmod 1000000000 = m1 := by rw [Int.tmod_eq_emod_of_nonneg u0U1.1, hm1]

  have w1x : IntKind.i64.wrap m1 = m1 := by rw [IntKind.wrap_i64]; omega
  obtain ⟨f, hto⟩ : ∃ z, T - 86400 + m1 = z := ⟨_, rfl⟩
  have tbo := TB.out
  have w0x : IntKind.i64.wrap (T - 86400) = T - 86400 := by rw [IntKind.wrap_i64]; omega
  have w2x : IntKind.i64.wrap (T - 86400 + m1) = f := by rw [IntKind.wrap_i64]; omega

  go_upto_region 4 with fail
  go_cut [2] (fun a wz => a = .int .i64 f ∧ Hid (Cs w.heap.size wz [.int .i64 x.fq, .int .i64 x.iv, .int .i64 x.ct, .bool x.un, .int .i64 x.ua, .bool x.ut, s6, s7, s8, s9, s10, s11, s12, s13, .slice a14 x.sp.length c14, .int .i64 x.wk]) ∧ Hid (Below w.heap.size w wz))
  case first =>
    go_wp2
    go_meet
    refine ⟨?_, RB, B⟩
    first | rfl | (simp [hU1, rm1, w1x, w0x, w2x, hto]; done) | trace_state
  case rest =>
  obtain ⟨wn, rfl⟩ : ∃ x : World, x = wc := ⟨_, rfl⟩
  clear RB B
  obtain ⟨rfl, RB, B⟩ := hcut

  obtain ⟨w4a, rfl⟩ : ∃ x : World, x = wn := ⟨_, rfl⟩
  have FB : Hid (T - 86400 ≤ f ∧ f ≤ T + 1000000000) := Lib.hid (by omega)
  clear hU1 u0U1 hm1 bm1 rm1 w1x w0x hto w2x tbo

  obtain ⟨U2, hU2⟩ : ∃ u, IntKind.u64.wrap n = u := ⟨_, rfl⟩
  have u0U2 : 0 ≤ U2 ∧ U2 < 18446744073709551616 := by rw [← hU2, IntKind.wrap_u64]; omega
  obtain ⟨m2, hm2⟩ : ∃ m, U2 % 100000000 = m := ⟨_, rfl⟩
  have bm2 : 0 ≤ m2 ∧ m2 < 100000000 := by rw [← hm2]; omega
  have rm2 : U2.tmod 100000000 = m2 := by rw [Int.tmod_eq_emod_of_nonneg u0U2.1, hm2]

  have w1x : IntKind.i64.wrap m2 = m2 := by rw [IntKind.wrap_i64]; omega
  obtain ⟨to_, hto⟩ : ∃ z, f + m2 = z := ⟨_, rfl⟩
  have tbo := TB.out
  have fbo := FB.out
  have w2x : IntKind.i64.wrap (f + m2) = to_ := by rw [IntKind.wrap_i64]; omega

  go_upto_region 5 with fail
  go_cut [9] (fun a wz => a = .int .i64 to_ ∧ Hid (Cs w.heap.size wz [.int .i64 x.fq, .int .i64 x.iv, .int .i64 x.ct, .bool x.un, .int .i64 x.ua, .bool x.ut, s6, s7, s8, s9, s10, s11, s12, s13, .slice a14 x.sp.length c14, .int .i64 x.wk]) ∧ Hid (Below w.heap.size w wz))
  case first =>
    go_wp2
    go_meet
    refine ⟨?_, RB, B⟩
    first | rfl | (simp [hU2, rm2, w1x, w2x, hto]; done) | trace_state
  case rest =>
  obtain ⟨wn, rfl⟩ : ∃ x : World, x = wc := ⟨_, rfl⟩
  clear RB B
  obtain ⟨rfl, RB, B⟩ := hcut

  obtain ⟨w4b, rfl⟩ : ∃ x : World, x = wn := ⟨_, rfl⟩
  have BDS : Hid (-62135596800 ≤ T ∧ T < 253402300800 ∧ -62200000000 ≤ f ∧ f ≤ to_ ∧ to_ ≤ 255000000000) := Lib.hid (by omega)
  clear hU2 u0U2 hm2 bm2 rm2 w1x hto w2x tbo fbo
  have AR : Hid (arB f to_ 3000 = false) := Lib.hid (ar_no BDS.out.2.2.2.1 (by have := BDS.out; omega) (by have := BDS.out; omega) (by decide))
  obtain ⟨⟨en, co, O⟩, hX⟩ : ∃ z, tmX x T f to_ 3000 = z := ⟨_, rfl⟩
  have X1 := Lib.hid hX
  clear hX
  go_upto_region 6 with fail
  go_cut [10, 12] (fun a c wz => ∃ lv, lv = a ∧ c = .int .i64 en ∧ Hid (RowI (w.heap.size + 1) wz lv O) ∧ Hid (Cs w.heap.size wz [.int .i64 x.fq, .int .i64 x.iv, .int .i64 x.ct, .bool x.un, .int .i64 x.ua, .bool x.ut, s6, s7, s8, s9, s10, s11, s12, s13, .slice a14 x.sp.length c14, .int .i64 x.wk]) ∧ Hid (Below w.heap.size w wz))
  case first =>
    go_wp2_with (refine ld16 RB.out rfl (by rfl) (by rfl) (by rfl) ?_; intro K hK; go_simp)
    refine (tms_to x _ _ _ _ _ _ _ _ _ T f to_ 3000 _ _ (Lib.hid (HA.out.stays B.out)) HU (Lib.hid (L.out.below B.out)) S (Lib.hid (by have := BDS.out; omega)) X1).mono ?_
    rintro e w5 ⟨lv, rfl, R, k⟩
    have RO := Lib.hid (own_less2 R RB.out.1)
    have RB := Lib.hid (RB.out.below k)
    have B := Lib.hid (bstep B.out k)
    clear k R
    go_wp2
    go_meet
    exact ⟨_, rfl, rfl, RO, RB, B⟩
  case rest =>
  obtain ⟨w5, rfl⟩ : ∃ x : World, x = wc := ⟨_, rfl⟩
  clear RB B
  obtain ⟨lv, rfl, rfl, RO, RB, B⟩ := hcut
  obtain ⟨A, cc, rfl⟩ := RO.out.forms
  rcases tm_two PE.out AR.out X1.out with rfl | ⟨rfl, rfl, rfl⟩
  rotate_left
  · go_wp2_with fail
    refine (wakes23_any _ (HA.out.stays B.out)).mono ?_
    rintro e w13 ⟨rfl, k⟩
    go_wp2
    go_ret
    exact ⟨ret_b rfl, bstep B.out k⟩
  have q1 := tm_len x T f to_ 3000
  rw [X1.out] at q1
  have OL : Hid (O.length ≤ 1000000) := Lib.hid q1
  have UP := Lib.hid (tm_up HKB.out MT.out AR.out X1.out)
  obtain ⟨p, hp⟩ : ∃ z, perV x T = z := ⟨_, rfl⟩
  have PV := Lib.hid hp
  have EA : Hid (∀ t ∈ O, (f ≤ t ∧ t ≤ to_) ∧ T ≤ t ∧ (t ≠ T → perE x t = 0 ∧ (perV x t - p).tmod x.iv = 0 ∧ Fil.letP x T t = true ∧ (x.un = true → t ≤ x.ua))) := Lib.hid (fun t ht => by rw [← hp]; exact tm_each HKB.out MT.out AR.out X1.out ht)
  clear q1 hp X1
  go_upto_region 9 with fail
  go_cut [13, 14] (fun a b wz => a = .int .i64 p ∧ b = .int .i64 0 ∧ Hid (RowI (w.heap.size + 1) wz (.slice A O.length cc) O) ∧ Hid (Cs w.heap.size wz [.int .i64 x.fq, .int .i64 x.iv, .int .i64 x.ct, .bool x.un, .int .i64 x.ua, .bool x.ut, s6, s7, s8, s9, s10, s11, s12, s13, .slice a14 x.sp.length c14, .int .i64 x.wk]) ∧ Hid (Below w.heap.size w wz))
  case first =>
    go_wp2_with (refine ld16 RB.out rfl (by rfl) (by rfl) (by rfl) ?_; intro K hK; go_simp)
    refine (per_to x _ _ _ _ _ _ _ _ _ T p 0 _ (HA.out.stays B.out) HU.out.1 HU.out.2 (L.out.below B.out) S.out (by have := TB.out; omega) (by have := TB.out; omega) PV PE).mono ?_
    rintro e w6 ⟨rfl, k⟩
    have RB := Lib.hid (RB.out.below k)
    have RO := Lib.hid (RO.out.below k)
    have B := Lib.hid (bstep B.out k)
    clear k
    go_wp2
    go_meet
    exact ⟨rfl, rfl, RO, RB, B⟩
  case rest =>
  obtain ⟨w6, rfl⟩ : ∃ x : World, x = wc := ⟨_, rfl⟩
  clear RB B RO
  obtain ⟨rfl, rfl, RO, RB, B⟩ := hcut
  go_upto_region 10 with fail
  rename_i K10 hK10 Kc hKc
  go_cut [74] (fun a wz => a = .bool false ∧ Hid (RowI (w.heap.size + 1) wz (.slice A O.length cc) O) ∧ Hid (Cs w.heap.size wz [.int .i64 x.fq, .int .i64 x.iv, .int .i64 x.ct, .bool x.un, .int .i64 x.ua, .bool x.ut, s6, s7, s8, s9, s10, s11, s12, s13, .slice a14 x.sp.length c14, .int .i64 x.wk]) ∧ Hid (Below w.heap.size w wz))
  case first =>
    go_wp2
    go_meet
    exact ⟨rfl, RO, RB, B⟩
  case rest =>
  obtain ⟨w7, rfl⟩ : ∃ x : World, x = wc := ⟨_, rfl⟩
  clear RB B RO
  obtain ⟨rfl, RO, RB, B⟩ := hcut
  go_step
  go_step
  go_step
  go_step
  exact hK10 _ _ (ltT12 x s6 s7 s8 s9 s10 s11 s12 s13 a14 c14 T f to_ p A cc O w w7 HA HU L S HKB BDS PV OL EA UP RO RB B _ _ _ _ _ _ _ _ _ _ _ _ _ _ _ _ _ _ _ _ _ _ _ _ _ _ _ _ _ _ _ _ _ _ _ _ _ _ _ _ _ _ _ _ _ _ _ _ _ _ _ _ _ _ _ _ _ _ _ _ _ _ _ _ _ _ _ _ _ _ _ _ _ _ _ _ _ _ _ _ _ _ _ _ _ _ _ _ _ _ _ _ _ _ _ _ _ _ _ _ _ _ _ _ _ _ _ _ _ _ _ _ _ _ _ _ _ _ _ _ _ _ _ _ _ _ _ _ _ _ _ _ _ _ _ _ _ _ _ _ _ _ _ _ _ _ _ _ _ _ _ _ _ _ _ _ _ _ _ _ _ _ _)

end Rru
end Go.Proofs.YtbdakbjlgljahaaGreatDoor
