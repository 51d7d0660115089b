/-
  RrulePicks: the law answers true at every rule, start, number and places, in whatever world that holds the table of the months.
-/
import Derived.Test.YtgaolaafjiiehaaGreatDoorRruLp4
import Derived.Test.YtgaolaafjiiehaaGreatDoorBdU7
import Derived.Test.YtgaolaafjiiehaaGreatDoorBdFd
import Derived.Test.YtgaolaafjiiehaaGreatDoorBdRg
import Derived.Test.YtgaolaafjiiehaaGreatDoorBdRl
import Derived.Test.YtgaolaafjiiehaaGreatDoorBdFl
namespace Go.Proofs.YtgaolaafjiiehaaGreatDoor
open Go.RowKit
namespace Rru
open Rcv (CV LisV IntV DayV)
open Rck (ckE ckB Small)
open Ap (RowI)
open Civ (numV numE dY dM dD dnE ydV Ahead)
open Fil (moO mo_bd spE spT spF spQ perV perE perQ ld16 vsm vsm_mo vsm_bd vsome_to ck_fq per_to span_to)
open Cel

set_option maxHeartbeats 25600000 in
set_option maxRecDepth 100000 in
theorem picks_any (start p_ : Int) (x : CV) (s6 s7 s8 s9 s10 s11 s12 s13 s14 : Value) (w : World) (hA : Ahead w) (hl : LisV w x s6 s7 s8 s9 s10 s11 s12 s13 s14) (hu1 : -9223372036854775808 ≤ x.ua) (hu2 : x.ua ≤ 9223372036854775807) (pA : Option Addr) (pc : Nat) (N : List Int) (hpos : IntV w (.slice pA N.length pc) N) :
    Calls Tryz.prog 3 #[.agg #[.int .i64 x.fq, .int .i64 x.iv, .int .i64 x.ct, .bool x.un, .int .i64 x.ua, .bool x.ut, s6, s7, s8, s9, s10, s11, s12, s13, s14, .int .i64 x.wk], .int .i64 start, .int .i64 p_, .slice pA N.length pc] w fun e w' => e = .returned (.bool true) ∧ Below w.heap.size w w' := by
  have HA := Lib.hid hA
  have L := Lib.hid hl
  have HU := Lib.hid (And.intro hu1 hu2)
  have PV := Lib.hid hpos
  clear hA hl hu1 hu2 hpos
  obtain ⟨a6, c6, rfl⟩ := L.out.h6.slice
  obtain ⟨a7, c7, rfl⟩ := L.out.h7.slice
  obtain ⟨a8, c8, rfl⟩ := L.out.h8.slice
  obtain ⟨a9, c9, rfl⟩ := L.out.h9.slice
  obtain ⟨a13, c13, rfl⟩ := L.out.h13.slice
  obtain ⟨T, hT⟩ : ∃ a, vsm start = a := ⟨_, rfl⟩
  have mT : moO T = true := by rw [← hT]; exact vsm_mo start
  have tb := vsm_bd start
  rw [hT] at tb
  have V1 := Lib.hid hT
  have MT := Lib.hid mT
  have TB := Lib.hid tb
  clear hT mT tb
  go_enter Tryz.func3, Tryz.ntmps3
  go_upto_region 0 with fail
  go_cut [4] (fun p wz => p = .pointer (some ⟨w.heap.size, 0, none⟩) ∧ Hid (Cs w.heap.size wz [.int .i64 x.fq, .int .i64 x.iv, .int .i64 x.ct, .bool x.un, .int .i64 x.ua, .bool x.ut, .slice a6 x.sc.length c6, .slice a7 x.mi.length c7, .slice a8 x.hr.length c8, .slice a9 x.dy.length c9, s10, s11, s12, .slice a13 x.mo.length c13, s14, .int .i64 x.wk]) ∧ Hid (Below w.heap.size w wz))
  case first =>
    go_wp2
    go_meet
    exact ⟨rfl, Lib.hid (Cs.new w _ _), Lib.hid ((Below.refl _ _).alloc (Nat.le_refl _) _)⟩
  case rest =>
  obtain ⟨w1, rfl⟩ : ∃ x : World, x = wc := ⟨_, rfl⟩
  obtain ⟨rfl, RB, B⟩ := hcut
  obtain ⟨kb, hkb⟩ : ∃ c, ckB x = c := ⟨_, rfl⟩
  have HKB := Lib.hid hkb
  clear hkb
  go_wp2_with (refine ld16 RB.out rfl (by rfl) (by rfl) (by rfl) ?_; intro K hK; go_simp)
  refine (Rct.hv_to _ _ _ _ _ _ _ _ _ x _ (L.out.below B.out)).mono ?_
  rintro e w2 ⟨hb, rfl, HH, k⟩
  have RB := Lib.hid (RB.out.below k)
  have B := Lib.hid (bstep B.out k)
  clear k
  cases hb with
  | true =>
    go_wp2
    go_ret
    exact ⟨ret_b rfl, B.out⟩
  | false =>
  have L3 := Lib.hid (HH.out rfl)
  have S := Lib.hid (small_of L3.out)
  go_wp2_with (refine ld16 RB.out rfl (by rfl) (by rfl) (by rfl) ?_; intro K hK; go_simp)
  refine (Rrl.rrec_to _ _ _ _ _ _ _ _ _ x kb _ HU.out.1 HU.out.2 (L.out.below B.out) HKB).mono ?_
  rintro e w3 ⟨rfl, k⟩
  have RB := Lib.hid (RB.out.below k)
  have B := Lib.hid (bstep B.out k)
  clear k
  cases kb with
  | false =>
    go_wp2
    go_ret
    exact ⟨ret_b rfl, B.out⟩
  | true =>
  have KF := Lib.hid (ck_fq HKB.out)
  have PE : Hid (perE x T = 0) := Lib.hid (by rw [perE, if_pos HKB.out, if_pos MT.out])
  have l0 := (RB.out.2 0 _ rfl).1
  have l6 := (RB.out.2 6 _ rfl).1
  have l7 := (RB.out.2 7 _ rfl).1
  have l8 := (RB.out.2 8 _ rfl).1
  have l9 := (RB.out.2 9 _ rfl).1
  have l13 := (RB.out.2 13 _ rfl).1
  have ss := S.out
  have w1q : IntKind.i64.wrap ((x.dy.length : Int) + (x.mo.length : Int)) = (x.dy.length : Int) + (x.mo.length : Int) := by have := ss.dy; have := ss.mo; rw [IntKind.wrap_i64]; omega
  have w2q : IntKind.i64.wrap ((x.dy.length : Int) + (x.mo.length : Int) + (x.hr.length : Int)) = (x.dy.length : Int) + (x.mo.length : Int) + (x.hr.length : Int) := by have := ss.dy; have := ss.mo; have := ss.hr; rw [IntKind.wrap_i64]; omega
  clear ss
  by_cases t0 : x.fq < 4
  · go_wp2
    go_ret
    exact ⟨ret_b rfl, B.out⟩
  by_cases t1 : 4 < (x.sc.length : Int)
  · go_wp2
    go_ret
    exact ⟨ret_b rfl, B.out⟩
  by_cases t2 : 4 < (x.mi.length : Int)
  · go_wp2
    go_ret
    exact ⟨ret_b rfl, B.out⟩
  by_cases t3 : (x.dy.length : Int) + (x.mo.length : Int) + (x.hr.length : Int) = 0
  · have t4 : ((x.dy.length : Int) + (x.mo.length : Int) + (x.hr.length : Int) == 0) = true := beq_iff_eq.2 t3
    clear t3
    go_wp2
    go_ret
    exact ⟨ret_b rfl, B.out⟩
  have t4 : ((x.dy.length : Int) + (x.mo.length : Int) + (x.hr.length : Int) == 0) = false := beq_eq_false_iff_ne.2 t3
  have SM : Hid (4 ≤ x.fq ∧ x.sc.length ≤ 4 ∧ x.mi.length ≤ 4) := Lib.hid (by omega)
  clear t3
  go_upto_region 3 with fail
  rename_i K3 hK3
  go_cut [1] (fun a wz => a = .int .i64 T ∧ Hid (Cs w.heap.size wz [.int .i64 x.fq, .int .i64 x.iv, .int .i64 x.ct, .bool x.un, .int .i64 x.ua, .bool x.ut, .slice a6 x.sc.length c6, .slice a7 x.mi.length c7, .slice a8 x.hr.length c8, .slice a9 x.dy.length c9, s10, s11, s12, .slice a13 x.mo.length c13, s14, .int .i64 x.wk]) ∧ Hid (Below w.heap.size w wz))
  case first =>
    go_wp2_with fail
    refine (vsome_to start T _ V1).mono ?_
    rintro e w4 ⟨rfl, k⟩
    have RB := Lib.hid (RB.out.below k)
    have B := Lib.hid (bstep B.out k)
    clear k
    go_wp2
    go_meet
    exact ⟨rfl, RB, B⟩
  case rest =>
  obtain ⟨w4, rfl⟩ : ∃ x : World, x = wc := ⟨_, rfl⟩
  clear RB B
  obtain ⟨rfl, RB, B⟩ := hcut

  clear l0 l6 l7 l8 l9 l13 w1q w2q t0 t1 t2 t4
  exact hK3 _ _ (pkT4 x (.slice a6 x.sc.length c6) (.slice a7 x.mi.length c7) (.slice a8 x.hr.length c8) (.slice a9 x.dy.length c9) s10 s11 s12 (.slice a13 x.mo.length c13) s14 T p_ N pA pc w w4 HA HU L S HKB MT PE SM PV L3 RB B _ _ _ _ _ _ _ _ _ _ _ _ _ _ _ _ _ _ _ _ _ _ _ _ _ _ _ _ _ _ _ _ _ _ _ _ _ _ _ _ _ _ _ _ _ _ _ _ _ _ _ _ _ _ _ _ _ _ _ _ _ _ _ _ _ _ _ _ _ _ _ _ _ _ _ _ _ _ _ _ _ _ _ _ _ _ _ _ _ _ _ _ _ _ _ _ _ _ _ _ _ _ _ _ _ _ _ _ _ _ _ _ _ _ _ _ _ _ _ _ _ _ _ _ _ _ _ _ _ _ _ _ _ _ _ _ _ _ _ _ _ _ _ _ _ _ _ _ _ _ _ _ _ _ _ _ _ _ _ _ _ _ _ _ _ _ _ _ _)

theorem picks_all (start p_ : Int) (ps : Value) (N : List Int) (x : CV) (s6 s7 s8 s9 s10 s11 s12 s13 s14 : Value) (w : World) (hA : Ahead w) (hl : LisV w x s6 s7 s8 s9 s10 s11 s12 s13 s14) (hu1 : -9223372036854775808 ≤ x.ua) (hu2 : x.ua ≤ 9223372036854775807) (hpos : IntV w ps N) :
    Calls Tryz.prog 3 #[.agg #[.int .i64 x.fq, .int .i64 x.iv, .int .i64 x.ct, .bool x.un, .int .i64 x.ua, .bool x.ut, s6, s7, s8, s9, s10, s11, s12, s13, s14, .int .i64 x.wk], .int .i64 start, .int .i64 p_, ps] w fun e w' => e = .returned (.bool true) ∧ Below w.heap.size w w' := by
  obtain ⟨pA, pc, rfl⟩ := hpos.slice
  exact picks_any start p_ x _ _ _ _ _ _ _ _ _ w hA hl hu1 hu2 pA pc N hpos

end Rru
end Go.Proofs.YtgaolaafjiiehaaGreatDoor
