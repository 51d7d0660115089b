/-
  The reference's Recur (layer 21): the whole. (Written by gen/gen_rrl.py.)
-/
import Derived.Test.YtpbdlgmkkbccmaaDoorRrlE
namespace Go.Proofs.YtpbdlgmkkbccmaaDoor
open Go.RowKit
namespace Rrl
open Cel
open Rcv (CV IntV DayV LisV)
open Rck (ckB ckE frB eiB dyB lsB gtB nmB endB frB_iff dyB_iff Small)
set_option maxHeartbeats 25600000 in
set_option maxRecDepth 100000 in
theorem rr1_0 (x : CV) (a6 a7 a8 a9 a10 a11 a12 a13 a14 : Option Addr) (c6 c7 c8 c9 c10 c11 c12 c13 c14 : Nat) (w : World)  (y0 : 60 < x.sc.length) : Calls Tryd.prog 13 #[.agg #[.int .i64 x.fq, .int .i64 x.iv, .int .i64 x.ct, .bool x.un, .int .i64 x.ua, .bool x.ut, .slice a6 x.sc.length c6, .slice a7 x.mi.length c7, .slice a8 x.hr.length c8, .slice a9 x.dy.length c9, .slice a10 x.md.length c10, .slice a11 x.yd.length c11, .slice a12 x.wn.length c12, .slice a13 x.mo.length c13, .slice a14 x.sp.length c14, .int .i64 x.wk]] w fun e w' => e = .returned (.bool false) ∧ Below w.heap.size w w' := by
  have q0 : (60 : Int) < (x.sc.length : Int) := by omega
  go_enter Tryd.func13, Tryd.ntmps13
  go_wp2
  go_ret
  exact ⟨rfl, (Below.refl _ _).alloc (Nat.le_refl _) _⟩
set_option maxHeartbeats 25600000 in
set_option maxRecDepth 100000 in
theorem rr1_1 (x : CV) (a6 a7 a8 a9 a10 a11 a12 a13 a14 : Option Addr) (c6 c7 c8 c9 c10 c11 c12 c13 c14 : Nat) (w : World) (y0 : ¬ 60 < x.sc.length) (y1 : 60 < x.mi.length) : Calls Tryd.prog 13 #[.agg #[.int .i64 x.fq, .int .i64 x.iv, .int .i64 x.ct, .bool x.un, .int .i64 x.ua, .bool x.ut, .slice a6 x.sc.length c6, .slice a7 x.mi.length c7, .slice a8 x.hr.length c8, .slice a9 x.dy.length c9, .slice a10 x.md.length c10, .slice a11 x.yd.length c11, .slice a12 x.wn.length c12, .slice a13 x.mo.length c13, .slice a14 x.sp.length c14, .int .i64 x.wk]] w fun e w' => e = .returned (.bool false) ∧ Below w.heap.size w w' := by
  have q0 : ¬ (60 : Int) < (x.sc.length : Int) := by omega
  have q1 : (60 : Int) < (x.mi.length : Int) := by omega
  go_enter Tryd.func13, Tryd.ntmps13
  go_wp2
  go_ret
  exact ⟨rfl, (Below.refl _ _).alloc (Nat.le_refl _) _⟩
set_option maxHeartbeats 25600000 in
set_option maxRecDepth 100000 in
theorem rr1_2 (x : CV) (a6 a7 a8 a9 a10 a11 a12 a13 a14 : Option Addr) (c6 c7 c8 c9 c10 c11 c12 c13 c14 : Nat) (w : World) (y0 : ¬ 60 < x.sc.length) (y1 : ¬ 60 < x.mi.length) (y2 : 24 < x.hr.length) : Calls Tryd.prog 13 #[.agg #[.int .i64 x.fq, .int .i64 x.iv, .int .i64 x.ct, .bool x.un, .int .i64 x.ua, .bool x.ut, .slice a6 x.sc.length c6, .slice a7 x.mi.length c7, .slice a8 x.hr.length c8, .slice a9 x.dy.length c9, .slice a10 x.md.length c10, .slice a11 x.yd.length c11, .slice a12 x.wn.length c12, .slice a13 x.mo.length c13, .slice a14 x.sp.length c14, .int .i64 x.wk]] w fun e w' => e = .returned (.bool false) ∧ Below w.heap.size w w' := by
  have q0 : ¬ (60 : Int) < (x.sc.length : Int) := by omega
  have q1 : ¬ (60 : Int) < (x.mi.length : Int) := by omega
  have q2 : (24 : Int) < (x.hr.length : Int) := by omega
  go_enter Tryd.func13, Tryd.ntmps13
  go_wp2
  go_ret
  exact ⟨rfl, (Below.refl _ _).alloc (Nat.le_refl _) _⟩
set_option maxHeartbeats 25600000 in
set_option maxRecDepth 100000 in
theorem rr1_3 (x : CV) (a6 a7 a8 a9 a10 a11 a12 a13 a14 : Option Addr) (c6 c7 c8 c9 c10 c11 c12 c13 c14 : Nat) (w : World) (y0 : ¬ 60 < x.sc.length) (y1 : ¬ 60 < x.mi.length) (y2 : ¬ 24 < x.hr.length) (y3 : 12 < x.mo.length) : Calls Tryd.prog 13 #[.agg #[.int .i64 x.fq, .int .i64 x.iv, .int .i64 x.ct, .bool x.un, .int .i64 x.ua, .bool x.ut, .slice a6 x.sc.length c6, .slice a7 x.mi.length c7, .slice a8 x.hr.length c8, .slice a9 x.dy.length c9, .slice a10 x.md.length c10, .slice a11 x.yd.length c11, .slice a12 x.wn.length c12, .slice a13 x.mo.length c13, .slice a14 x.sp.length c14, .int .i64 x.wk]] w fun e w' => e = .returned (.bool false) ∧ Below w.heap.size w w' := by
  have q0 : ¬ (60 : Int) < (x.sc.length : Int) := by omega
  have q1 : ¬ (60 : Int) < (x.mi.length : Int) := by omega
  have q2 : ¬ (24 : Int) < (x.hr.length : Int) := by omega
  have q3 : (12 : Int) < (x.mo.length : Int) := by omega
  go_enter Tryd.func13, Tryd.ntmps13
  go_wp2
  go_ret
  exact ⟨rfl, (Below.refl _ _).alloc (Nat.le_refl _) _⟩
set_option maxHeartbeats 25600000 in
set_option maxRecDepth 100000 in
theorem rr1_4 (x : CV) (a6 a7 a8 a9 a10 a11 a12 a13 a14 : Option Addr) (c6 c7 c8 c9 c10 c11 c12 c13 c14 : Nat) (w : World) (y0 : ¬ 60 < x.sc.length) (y1 : ¬ 60 < x.mi.length) (y2 : ¬ 24 < x.hr.length) (y3 : ¬ 12 < x.mo.length) (y4 : 62 < x.md.length) : Calls Tryd.prog 13 #[.agg #[.int .i64 x.fq, .int .i64 x.iv, .int .i64 x.ct, .bool x.un, .int .i64 x.ua, .bool x.ut, .slice a6 x.sc.length c6, .slice a7 x.mi.length c7, .slice a8 x.hr.length c8, .slice a9 x.dy.length c9, .slice a10 x.md.length c10, .slice a11 x.yd.length c11, .slice a12 x.wn.length c12, .slice a13 x.mo.length c13, .slice a14 x.sp.length c14, .int .i64 x.wk]] w fun e w' => e = .returned (.bool false) ∧ Below w.heap.size w w' := by
  have q0 : ¬ (60 : Int) < (x.sc.length : Int) := by omega
  have q1 : ¬ (60 : Int) < (x.mi.length : Int) := by omega
  have q2 : ¬ (24 : Int) < (x.hr.length : Int) := by omega
  have q3 : ¬ (12 : Int) < (x.mo.length : Int) := by omega
  have q4 : (62 : Int) < (x.md.length : Int) := by omega
  go_enter Tryd.func13, Tryd.ntmps13
  go_wp2
  go_ret
  exact ⟨rfl, (Below.refl _ _).alloc (Nat.le_refl _) _⟩
set_option maxHeartbeats 25600000 in
set_option maxRecDepth 100000 in
theorem rr1_5 (x : CV) (a6 a7 a8 a9 a10 a11 a12 a13 a14 : Option Addr) (c6 c7 c8 c9 c10 c11 c12 c13 c14 : Nat) (w : World) (y0 : ¬ 60 < x.sc.length) (y1 : ¬ 60 < x.mi.length) (y2 : ¬ 24 < x.hr.length) (y3 : ¬ 12 < x.mo.length) (y4 : ¬ 62 < x.md.length) (y5 : 732 < x.yd.length) : Calls Tryd.prog 13 #[.agg #[.int .i64 x.fq, .int .i64 x.iv, .int .i64 x.ct, .bool x.un, .int .i64 x.ua, .bool x.ut, .slice a6 x.sc.length c6, .slice a7 x.mi.length c7, .slice a8 x.hr.length c8, .slice a9 x.dy.length c9, .slice a10 x.md.length c10, .slice a11 x.yd.length c11, .slice a12 x.wn.length c12, .slice a13 x.mo.length c13, .slice a14 x.sp.length c14, .int .i64 x.wk]] w fun e w' => e = .returned (.bool false) ∧ Below w.heap.size w w' := by
  have q0 : ¬ (60 : Int) < (x.sc.length : Int) := by omega
  have q1 : ¬ (60 : Int) < (x.mi.length : Int) := by omega
  have q2 : ¬ (24 : Int) < (x.hr.length : Int) := by omega
  have q3 : ¬ (12 : Int) < (x.mo.length : Int) := by omega
  have q4 : ¬ (62 : Int) < (x.md.length : Int) := by omega
  have q5 : (732 : Int) < (x.yd.length : Int) := by omega
  go_enter Tryd.func13, Tryd.ntmps13
  go_wp2
  go_ret
  exact ⟨rfl, (Below.refl _ _).alloc (Nat.le_refl _) _⟩
set_option maxHeartbeats 25600000 in
set_option maxRecDepth 100000 in
theorem rr1_6 (x : CV) (a6 a7 a8 a9 a10 a11 a12 a13 a14 : Option Addr) (c6 c7 c8 c9 c10 c11 c12 c13 c14 : Nat) (w : World) (y0 : ¬ 60 < x.sc.length) (y1 : ¬ 60 < x.mi.length) (y2 : ¬ 24 < x.hr.length) (y3 : ¬ 12 < x.mo.length) (y4 : ¬ 62 < x.md.length) (y5 : ¬ 732 < x.yd.length) (y6 : 106 < x.wn.length) : Calls Tryd.prog 13 #[.agg #[.int .i64 x.fq, .int .i64 x.iv, .int .i64 x.ct, .bool x.un, .int .i64 x.ua, .bool x.ut, .slice a6 x.sc.length c6, .slice a7 x.mi.length c7, .slice a8 x.hr.length c8, .slice a9 x.dy.length c9, .slice a10 x.md.length c10, .slice a11 x.yd.length c11, .slice a12 x.wn.length c12, .slice a13 x.mo.length c13, .slice a14 x.sp.length c14, .int .i64 x.wk]] w fun e w' => e = .returned (.bool false) ∧ Below w.heap.size w w' := by
  have q0 : ¬ (60 : Int) < (x.sc.length : Int) := by omega
  have q1 : ¬ (60 : Int) < (x.mi.length : Int) := by omega
  have q2 : ¬ (24 : Int) < (x.hr.length : Int) := by omega
  have q3 : ¬ (12 : Int) < (x.mo.length : Int) := by omega
  have q4 : ¬ (62 : Int) < (x.md.length : Int) := by omega
  have q5 : ¬ (732 : Int) < (x.yd.length : Int) := by omega
  have q6 : (106 : Int) < (x.wn.length : Int) := by omega
  go_enter Tryd.func13, Tryd.ntmps13
  go_wp2
  go_ret
  exact ⟨rfl, (Below.refl _ _).alloc (Nat.le_refl _) _⟩
set_option maxHeartbeats 25600000 in
set_option maxRecDepth 100000 in
theorem rr1_7 (x : CV) (a6 a7 a8 a9 a10 a11 a12 a13 a14 : Option Addr) (c6 c7 c8 c9 c10 c11 c12 c13 c14 : Nat) (w : World) (y0 : ¬ 60 < x.sc.length) (y1 : ¬ 60 < x.mi.length) (y2 : ¬ 24 < x.hr.length) (y3 : ¬ 12 < x.mo.length) (y4 : ¬ 62 < x.md.length) (y5 : ¬ 732 < x.yd.length) (y6 : ¬ 106 < x.wn.length) (y7 : 732 < x.sp.length) : Calls Tryd.prog 13 #[.agg #[.int .i64 x.fq, .int .i64 x.iv, .int .i64 x.ct, .bool x.un, .int .i64 x.ua, .bool x.ut, .slice a6 x.sc.length c6, .slice a7 x.mi.length c7, .slice a8 x.hr.length c8, .slice a9 x.dy.length c9, .slice a10 x.md.length c10, .slice a11 x.yd.length c11, .slice a12 x.wn.length c12, .slice a13 x.mo.length c13, .slice a14 x.sp.length c14, .int .i64 x.wk]] w fun e w' => e = .returned (.bool false) ∧ Below w.heap.size w w' := by
  have q0 : ¬ (60 : Int) < (x.sc.length : Int) := by omega
  have q1 : ¬ (60 : Int) < (x.mi.length : Int) := by omega
  have q2 : ¬ (24 : Int) < (x.hr.length : Int) := by omega
  have q3 : ¬ (12 : Int) < (x.mo.length : Int) := by omega
  have q4 : ¬ (62 : Int) < (x.md.length : Int) := by omega
  have q5 : ¬ (732 : Int) < (x.yd.length : Int) := by omega
  have q6 : ¬ (106 : Int) < (x.wn.length : Int) := by omega
  have q7 : (732 : Int) < (x.sp.length : Int) := by omega
  go_enter Tryd.func13, Tryd.ntmps13
  go_wp2
  go_ret
  exact ⟨rfl, (Below.refl _ _).alloc (Nat.le_refl _) _⟩
set_option maxHeartbeats 25600000 in
set_option maxRecDepth 100000 in
theorem rr1_8 (x : CV) (a6 a7 a8 a9 a10 a11 a12 a13 a14 : Option Addr) (c6 c7 c8 c9 c10 c11 c12 c13 c14 : Nat) (w : World) (y0 : ¬ 60 < x.sc.length) (y1 : ¬ 60 < x.mi.length) (y2 : ¬ 24 < x.hr.length) (y3 : ¬ 12 < x.mo.length) (y4 : ¬ 62 < x.md.length) (y5 : ¬ 732 < x.yd.length) (y6 : ¬ 106 < x.wn.length) (y7 : ¬ 732 < x.sp.length) (y8 : 749 < x.dy.length) : Calls Tryd.prog 13 #[.agg #[.int .i64 x.fq, .int .i64 x.iv, .int .i64 x.ct, .bool x.un, .int .i64 x.ua, .bool x.ut, .slice a6 x.sc.length c6, .slice a7 x.mi.length c7, .slice a8 x.hr.length c8, .slice a9 x.dy.length c9, .slice a10 x.md.length c10, .slice a11 x.yd.length c11, .slice a12 x.wn.length c12, .slice a13 x.mo.length c13, .slice a14 x.sp.length c14, .int .i64 x.wk]] w fun e w' => e = .returned (.bool false) ∧ Below w.heap.size w w' := by
  have q0 : ¬ (60 : Int) < (x.sc.length : Int) := by omega
  have q1 : ¬ (60 : Int) < (x.mi.length : Int) := by omega
  have q2 : ¬ (24 : Int) < (x.hr.length : Int) := by omega
  have q3 : ¬ (12 : Int) < (x.mo.length : Int) := by omega
  have q4 : ¬ (62 : Int) < (x.md.length : Int) := by omega
  have q5 : ¬ (732 : Int) < (x.yd.length : Int) := by omega
  have q6 : ¬ (106 : Int) < (x.wn.length : Int) := by omega
  have q7 : ¬ (732 : Int) < (x.sp.length : Int) := by omega
  have q8 : (749 : Int) < (x.dy.length : Int) := by omega
  go_enter Tryd.func13, Tryd.ntmps13
  go_wp2
  go_ret
  exact ⟨rfl, (Below.refl _ _).alloc (Nat.le_refl _) _⟩
set_option maxHeartbeats 25600000 in
set_option maxRecDepth 100000 in
theorem rr1 (x : CV) (a6 a7 a8 a9 a10 a11 a12 a13 a14 : Option Addr) (c6 c7 c8 c9 c10 c11 c12 c13 c14 : Nat) (r : Bool) (w : World) (HU : Hid (-9223372036854775808 ≤ x.ua ∧ x.ua ≤ 9223372036854775807)) (L : Hid (LisV w x (.slice a6 x.sc.length c6) (.slice a7 x.mi.length c7) (.slice a8 x.hr.length c8) (.slice a9 x.dy.length c9) (.slice a10 x.md.length c10) (.slice a11 x.yd.length c11) (.slice a12 x.wn.length c12) (.slice a13 x.mo.length c13) (.slice a14 x.sp.length c14))) (HL : Hid (l1B x = false)) (HQ : Hid (ckB x = (hdB x && (enB x && (laB x && (dsB x.fq x.wn.length x.dy && (g1B x && g2B x))))))) (HR : Hid (ckB x = r)) : Calls Tryd.prog 13 #[.agg #[.int .i64 x.fq, .int .i64 x.iv, .int .i64 x.ct, .bool x.un, .int .i64 x.ua, .bool x.ut, .slice a6 x.sc.length c6, .slice a7 x.mi.length c7, .slice a8 x.hr.length c8, .slice a9 x.dy.length c9, .slice a10 x.md.length c10, .slice a11 x.yd.length c11, .slice a12 x.wn.length c12, .slice a13 x.mo.length c13, .slice a14 x.sp.length c14, .int .i64 x.wk]] w fun e w' => e = .returned (.bool r) ∧ Below w.heap.size w w' := by
  have hl := of_decide_eq_false HL.out
  have y0 : ¬ 60 < x.sc.length := by omega
  have q0 : ¬ (60 : Int) < (x.sc.length : Int) := by omega
  have y1 : ¬ 60 < x.mi.length := by omega
  have q1 : ¬ (60 : Int) < (x.mi.length : Int) := by omega
  have y2 : ¬ 24 < x.hr.length := by omega
  have q2 : ¬ (24 : Int) < (x.hr.length : Int) := by omega
  have y3 : ¬ 12 < x.mo.length := by omega
  have q3 : ¬ (12 : Int) < (x.mo.length : Int) := by omega
  have y4 : ¬ 62 < x.md.length := by omega
  have q4 : ¬ (62 : Int) < (x.md.length : Int) := by omega
  have y5 : ¬ 732 < x.yd.length := by omega
  have q5 : ¬ (732 : Int) < (x.yd.length : Int) := by omega
  have y6 : ¬ 106 < x.wn.length := by omega
  have q6 : ¬ (106 : Int) < (x.wn.length : Int) := by omega
  have y7 : ¬ 732 < x.sp.length := by omega
  have q7 : ¬ (732 : Int) < (x.sp.length : Int) := by omega
  have y8 : ¬ 749 < x.dy.length := by omega
  have q8 : ¬ (749 : Int) < (x.dy.length : Int) := by omega
  clear hl
  go_enter Tryd.func13, Tryd.ntmps13
  go_upto_region 0 with fail
  go_cut [1] (fun p w0 => p = .pointer (some ⟨w.heap.size, 0, none⟩) ∧ Hid (Cs w.heap.size w0 [.int .i64 x.fq, .int .i64 x.iv, .int .i64 x.ct, .bool x.un, .int .i64 x.ua, .bool x.ut, .slice a6 x.sc.length c6, .slice a7 x.mi.length c7, .slice a8 x.hr.length c8, .slice a9 x.dy.length c9, .slice a10 x.md.length c10, .slice a11 x.yd.length c11, .slice a12 x.wn.length c12, .slice a13 x.mo.length c13, .slice a14 x.sp.length c14, .int .i64 x.wk]) ∧ Hid (Below w.heap.size w w0))
  case first =>
    go_wp2
    go_meet
    exact ⟨rfl, Lib.hid (Cs.new w _ _), Lib.hid ((Below.refl _ _).alloc (Nat.le_refl _) _)⟩
  case rest =>
  obtain ⟨w1, rfl⟩ : ∃ x : World, x = wc := ⟨_, rfl⟩
  obtain ⟨rfl, C, B⟩ := hcut
  go_upto_region 1 with fail
  rename_i K3 hK3 Kc hKc
  go_cut [59] (fun v wz => v = .bool false ∧ w1 = wz)
  case first =>
    have m6 := (C.out.2 6 _ rfl).1
    have m7 := (C.out.2 7 _ rfl).1
    have m8 := (C.out.2 8 _ rfl).1
    have m9 := (C.out.2 9 _ rfl).1
    have m10 := (C.out.2 10 _ rfl).1
    have m11 := (C.out.2 11 _ rfl).1
    have m12 := (C.out.2 12 _ rfl).1
    have m13 := (C.out.2 13 _ rfl).1
    have m14 := (C.out.2 14 _ rfl).1
    go_wp2
    go_meet
    exact ⟨rfl, rfl⟩
  case rest =>
  obtain ⟨rfl, hw⟩ := hcut
  subst hw
  go_step
  go_step
  go_step
  go_step
  exact hK3 _ _ (rr3 x a6 a7 a8 a9 a10 a11 a12 a13 a14 c6 c7 c8 c9 c10 c11 c12 c13 c14 r w _ HU C (Lib.hid (L.out.below B.out)) B HL HQ HR _ _ _ _ _ _ _ _ _ _ _ _ _ _ _ _ _ _ _ _ _ _ _ _ _ _ _ _ _ _ _ _ _ _ _ _ _ _ _ _ _ _ _ _ _ _ _ _ _ _ _ _ _ _ _ _ _ _ _ _ _ _ _ _ _ _ _ _ _ _ _ _ _ _ _ _ _ _ _ _ _ _ _ _ _ _ _ _ _ _ _ _ _ _ _ _ _ _ _ _ _ _ _ _ _ _ _ _ _ _ _ _ _ _ _ _ _ _ _ _ _ _ _ _ _ _ _ _ _ _ _ _ _ _ _ _ _ _ _ _ _ _ _ _ _ _ _ _ _ _ _ _ _ _ _ _ _ _ _ _ _ _ _ _ _ _ _ _ _ _ _ _ _ _ _ _ _ _ _ _ _ _ _ _ _ _ _ _ _ _ _ _ _ _ _ _ _ _ _ _ _ _ _ _ _ _ _ _ _ _ _ _ _ _ _ _ _ _ _ _ _ _ _ _ _ _ _ _ _ _ _ _ _ _ _ _ _ _ _ _ _ _ _ _ _ _ _ _ _ _ _ _ _ _ _ _ _ _ _ _ _ _ _ _ _ _ _ _ _ _ _ _ _ _ _ _ _ _ _ _ _ _ _ _ _ _)
/-- What the reference says of a rule is what the program says. -/
theorem rrec_to (s6 s7 s8 s9 s10 s11 s12 s13 s14 : Value) (x : CV) (r : Bool) (w : World) (hu1 : -9223372036854775808 ≤ x.ua) (hu2 : x.ua ≤ 9223372036854775807) (h : LisV w x s6 s7 s8 s9 s10 s11 s12 s13 s14) (hr : Hid (ckB x = r)) : Calls Tryd.prog 13 #[.agg #[.int .i64 x.fq, .int .i64 x.iv, .int .i64 x.ct, .bool x.un, .int .i64 x.ua, .bool x.ut, s6, s7, s8, s9, s10, s11, s12, s13, s14, .int .i64 x.wk]] w fun e w' => e = .returned (.bool r) ∧ Below w.heap.size w w' := by
  obtain ⟨a6, c6, rfl⟩ := h.h6.slice
  obtain ⟨a7, c7, rfl⟩ := h.h7.slice
  obtain ⟨a8, c8, rfl⟩ := h.h8.slice
  obtain ⟨a9, c9, rfl⟩ := h.h9.slice
  obtain ⟨a10, c10, rfl⟩ := h.h10.slice
  obtain ⟨a11, c11, rfl⟩ := h.h11.slice
  obtain ⟨a12, c12, rfl⟩ := h.h12.slice
  obtain ⟨a13, c13, rfl⟩ := h.h13.slice
  obtain ⟨a14, c14, rfl⟩ := h.h14.slice
  cases hl : l1B x with
  | false => exact rr1 x a6 a7 a8 a9 a10 a11 a12 a13 a14 c6 c7 c8 c9 c10 c11 c12 c13 c14 r w (Lib.hid ⟨hu1, hu2⟩) (Lib.hid h) (Lib.hid hl) (Lib.hid (by rw [ck_ref x, hl]; rfl)) hr
  | true =>
    have hr' := hr.out
    rw [ck_ref, hl] at hr'
    simp only [Bool.not_true, Bool.false_and] at hr'
    subst hr'
    have hl := of_decide_eq_true hl
    by_cases y0 : 60 < x.sc.length
    · exact rr1_0 x a6 a7 a8 a9 a10 a11 a12 a13 a14 c6 c7 c8 c9 c10 c11 c12 c13 c14 w y0
    by_cases y1 : 60 < x.mi.length
    · exact rr1_1 x a6 a7 a8 a9 a10 a11 a12 a13 a14 c6 c7 c8 c9 c10 c11 c12 c13 c14 w y0 y1
    by_cases y2 : 24 < x.hr.length
    · exact rr1_2 x a6 a7 a8 a9 a10 a11 a12 a13 a14 c6 c7 c8 c9 c10 c11 c12 c13 c14 w y0 y1 y2
    by_cases y3 : 12 < x.mo.length
    · exact rr1_3 x a6 a7 a8 a9 a10 a11 a12 a13 a14 c6 c7 c8 c9 c10 c11 c12 c13 c14 w y0 y1 y2 y3
    by_cases y4 : 62 < x.md.length
    · exact rr1_4 x a6 a7 a8 a9 a10 a11 a12 a13 a14 c6 c7 c8 c9 c10 c11 c12 c13 c14 w y0 y1 y2 y3 y4
    by_cases y5 : 732 < x.yd.length
    · exact rr1_5 x a6 a7 a8 a9 a10 a11 a12 a13 a14 c6 c7 c8 c9 c10 c11 c12 c13 c14 w y0 y1 y2 y3 y4 y5
    by_cases y6 : 106 < x.wn.length
    · exact rr1_6 x a6 a7 a8 a9 a10 a11 a12 a13 a14 c6 c7 c8 c9 c10 c11 c12 c13 c14 w y0 y1 y2 y3 y4 y5 y6
    by_cases y7 : 732 < x.sp.length
    · exact rr1_7 x a6 a7 a8 a9 a10 a11 a12 a13 a14 c6 c7 c8 c9 c10 c11 c12 c13 c14 w y0 y1 y2 y3 y4 y5 y6 y7
    exact rr1_8 x a6 a7 a8 a9 a10 a11 a12 a13 a14 c6 c7 c8 c9 c10 c11 c12 c13 c14 w y0 y1 y2 y3 y4 y5 y6 y7 (by omega)
end Rrl
end Go.Proofs.YtpbdlgmkkbccmaaDoor
