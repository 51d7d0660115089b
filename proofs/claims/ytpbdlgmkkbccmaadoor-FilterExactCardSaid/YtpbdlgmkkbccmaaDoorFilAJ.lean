/-
  The reference's Day (solsticeref21): the whole.
-/
import Derived.Test.YtpbdlgmkkbccmaaDoorFilAI
namespace Go.Proofs.YtpbdlgmkkbccmaaDoor
open Go.RowKit
namespace Fil
open Rcv (CV LisV IntV DayV)
open Rck (ckE ckB Small)
open Civ (numV numE dY dM dD dnE ydV Ahead)
open Wk (noY noN noE)
open Cel
set_option maxHeartbeats 25600000 in
set_option maxRecDepth 100000 in
theorem rday_to (x : CV) (s6 s7 s8 s9 s10 s11 s12 s13 s14 : Value) (A d : Int) (p : Bool) (w : World) (hl : LisV w x s6 s7 s8 s9 s10 s11 s12 s13 s14) (hs : Small x) (hc : ckB x = true) (ha : moO A = true) (hd : -719162 ≤ d ∧ d < 2932897) (hp : Hid (dayR x (A / 86400) d (wkN (noY d x.wk) x.wk) = p)) :
    Calls Tryd.prog 43 #[.agg #[.int .i64 x.fq, .int .i64 x.iv, .int .i64 x.ct, .bool x.un, .int .i64 x.ua, .bool x.ut, s6, s7, s8, s9, s10, s11, s12, s13, s14, .int .i64 x.wk], .int .i64 A, .int .i64 d] w fun e w' => e = .returned (.bool p) ∧ Below w.heap.size w w' := by
  obtain ⟨a9, c9, rfl⟩ := hl.h9.slice
  obtain ⟨a10, c10, rfl⟩ := hl.h10.slice
  obtain ⟨a11, c11, rfl⟩ := hl.h11.slice
  obtain ⟨a12, c12, rfl⟩ := hl.h12.slice
  obtain ⟨a13, c13, rfl⟩ := hl.h13.slice
  have L := Lib.hid hl
  have S := Lib.hid hs
  have KW := Lib.hid (ck_wk hc)
  have ab := mo_bd ha
  obtain ⟨a, hA⟩ : ∃ z, A / 86400 = z := ⟨_, rfl⟩
  rw [hA] at ab hp
  have tb : -1000000000000 ≤ A ∧ A ≤ 1000000000000 := by omega
  obtain ⟨Y, M, D, hY, hM, hD, yB, mB, dB, -, -, -⟩ := dy_bounds hd
  obtain ⟨Y0, hY0⟩ : ∃ z, dY a = z := ⟨_, rfl⟩
  obtain ⟨M0, hM0⟩ : ∃ z, dM a = z := ⟨_, rfl⟩
  obtain ⟨D0, hD0⟩ : ∃ z, dD a = z := ⟨_, rfl⟩
  have HYR : Hid (1 ≤ Cal.yr d ∧ Cal.yr d ≤ 9999) := Lib.hid (by
    have e : -719528 ≤ d ∧ d ≤ 2933262 := by omega
    rw [dY, if_pos e] at hY
    rw [hY]
    exact yB)
  have DY := Lib.hid hY
  have DE : Hid (dD d = D ∧ dD a = D0 ∧ dM d = M ∧ dM a = M0) := Lib.hid ⟨hD, hD0, hM, hM0⟩
  have DB : Hid ((-719162 ≤ d ∧ d < 2932897) ∧ (-719162 ≤ a ∧ a < 2932897) ∧ (1 ≤ Y ∧ Y ≤ 9999) ∧ (1 ≤ M ∧ M ≤ 12) ∧ (1 ≤ D ∧ D ≤ Cal.mlen Y M)) := Lib.hid ⟨hd, ⟨ab.1, ab.2.1⟩, yB, mB, dB⟩
  have HA := Lib.hid hA
  have P0 := Lib.hid (And.intro hY0 (And.intro hM0 hD0))
  have P1 := Lib.hid (And.intro hY (And.intro hM hD))
  have R1 := Lib.hid (fun W => Civ.rdate_any d W (by omega) (by omega))
  have R2 := Lib.hid (fun W => Civ.rdiv_any A 86400 W (by decide) (by decide) (by omega) (by omega))
  have R3 := Lib.hid (fun W => Civ.rdate_any a W (by omega) (by omega))
  clear hl hs hc ha hA hY hM hD hY0 hM0 hD0 tb ab yB mB dB hd
  go_enter Tryd.func43, Tryd.ntmps43
  go_upto_region 0 with fail
  go_cut [3] (fun q wz => q = .pointer (some ⟨w.heap.size, 0, none⟩) ∧ Hid (Cs w.heap.size wz [.int .i64 x.fq, .int .i64 x.iv, .int .i64 x.ct, .bool x.un, .int .i64 x.ua, .bool x.ut, s6, s7, s8, .slice a9 x.dy.length c9, .slice a10 x.md.length c10, .slice a11 x.yd.length c11, .slice a12 x.wn.length c12, .slice a13 x.mo.length c13, s14, .int .i64 x.wk]) ∧ Hid (Below w.heap.size w wz))
  case first =>
    go_wp2
    go_meet
    exact ⟨rfl, Lib.hid (Cs.new w _ _), Lib.hid ((Below.refl _ _).alloc (Nat.le_refl _) _)⟩
  case rest =>
  obtain ⟨w1, rfl⟩ : ∃ x : World, x = wc := ⟨_, rfl⟩
  obtain ⟨rfl, RB, B⟩ := hcut
  go_upto_region 1 with fail
  go_cut [7] (fun q wz => ∃ g, q = .pointer (some ⟨g, 0, none⟩) ∧ Hid (Cs g wz [.int .i64 Y, .int .i64 M, .int .i64 D]) ∧ Hid (Cs w.heap.size wz [.int .i64 x.fq, .int .i64 x.iv, .int .i64 x.ct, .bool x.un, .int .i64 x.ua, .bool x.ut, s6, s7, s8, .slice a9 x.dy.length c9, .slice a10 x.md.length c10, .slice a11 x.yd.length c11, .slice a12 x.wn.length c12, .slice a13 x.mo.length c13, s14, .int .i64 x.wk]) ∧ Hid (Below w.heap.size w wz))
  case first =>
    clear hp DE DY DB P0 L S KW HYR
    go_wp2_with fail
    with_reducible refine (R1.out _).mono ?_
    rintro e w4 ⟨rfl, k⟩
    rw [P1.out.1, P1.out.2.1, P1.out.2.2]
    have RB := Lib.hid (RB.out.below k)
    have B := Lib.hid (bstep B.out k)
    clear k
    go_wp2
    go_meet
    exact ⟨_, rfl, Lib.hid (Cs.new w4 [.int .i64 Y, .int .i64 M, .int .i64 D] _), Lib.hid (RB.out.alloc _), Lib.hid (B.out.alloc B.out.size _)⟩
  case rest =>
  obtain ⟨w2, rfl⟩ : ∃ x : World, x = wc := ⟨_, rfl⟩
  clear RB B
  obtain ⟨g, rfl, C, RB, B⟩ := hcut
  go_upto_region 2 with fail
  go_cut [8] (fun b wz => b = .int .i64 a ∧ Hid (Cs g wz [.int .i64 Y, .int .i64 M, .int .i64 D]) ∧ Hid (Cs w.heap.size wz [.int .i64 x.fq, .int .i64 x.iv, .int .i64 x.ct, .bool x.un, .int .i64 x.ua, .bool x.ut, s6, s7, s8, .slice a9 x.dy.length c9, .slice a10 x.md.length c10, .slice a11 x.yd.length c11, .slice a12 x.wn.length c12, .slice a13 x.mo.length c13, s14, .int .i64 x.wk]) ∧ Hid (Below w.heap.size w wz))
  case first =>
    clear hp DE DY DB P0 P1 L S KW HYR
    go_wp2_with fail
    with_reducible refine (R2.out _).mono ?_
    rintro e w3 ⟨rfl, n, rfl⟩
    rw [HA.out]
    go_wp2
    go_meet
    exact ⟨rfl, Lib.hid (C.out.drewN n), Lib.hid (RB.out.drewN n), Lib.hid (bdrew B.out n)⟩
  case rest =>
  obtain ⟨w3, rfl⟩ : ∃ x : World, x = wc := ⟨_, rfl⟩
  clear RB B C
  obtain ⟨rfl, C, RB, B⟩ := hcut
  go_upto_region 3 with fail
  rename_i K4 hK4
  go_cut [10] (fun q wz => ∃ h, q = .pointer (some ⟨h, 0, none⟩) ∧ Hid (Cs h wz [.int .i64 Y0, .int .i64 M0, .int .i64 D0]) ∧ Hid (Cs g wz [.int .i64 Y, .int .i64 M, .int .i64 D]) ∧ Hid (Cs w.heap.size wz [.int .i64 x.fq, .int .i64 x.iv, .int .i64 x.ct, .bool x.un, .int .i64 x.ua, .bool x.ut, s6, s7, s8, .slice a9 x.dy.length c9, .slice a10 x.md.length c10, .slice a11 x.yd.length c11, .slice a12 x.wn.length c12, .slice a13 x.mo.length c13, s14, .int .i64 x.wk]) ∧ Hid (Below w.heap.size w wz))
  case first =>
    clear hp DE DY DB P1 L S KW HYR
    go_wp2_with fail
    with_reducible refine (R3.out _).mono ?_
    rintro e w4 ⟨rfl, k⟩
    rw [P0.out.1, P0.out.2.1, P0.out.2.2]
    have C := Lib.hid (C.out.below (k.mono (Nat.le_refl _)))
    have RB := Lib.hid (RB.out.below k)
    have B := Lib.hid (bstep B.out k)
    clear k
    go_wp2
    go_meet
    exact ⟨_, rfl, Lib.hid (Cs.new w4 [.int .i64 Y0, .int .i64 M0, .int .i64 D0] _), Lib.hid (C.out.alloc _), Lib.hid (RB.out.alloc _), Lib.hid (B.out.alloc B.out.size _)⟩
  case rest =>
  obtain ⟨w5, rfl⟩ : ∃ x : World, x = wc := ⟨_, rfl⟩
  clear RB B C
  obtain ⟨h, rfl, E, C, RB, B⟩ := hcut
  exact hK4 _ _ (rdQ x s6 s7 s8 s14 a9 a10 a11 a12 a13 c9 c10 c11 c12 c13 a d Y M D Y0 M0 D0 p w _ g h L S C E RB B DB DE DY KW HYR hp _ _ _ _ _ _ _ _ _ _ _ _ _ _ _ _ _ _ _ _ _ _ _ _ _ _ _ _ _ _ _ _ _ _ _ _ _ _ _ _ _ _ _ _ _ _ _ _ _ _ _ _ _ _ _ _ _ _ _ _ _ _ _ _ _ _ _ _ _ _ _ _ _ _ _ _ _ _ _ _ _ _ _ _ _ _ _ _ _ _ _ _ _ _ _ _ _ _ _ _ _ _ _ _ _ _ _ _ _ _ _ _ _ _ _ _ _ _ _ _ _ _ _ _ _ _ _ _ _ _ _ _ _ _ _ _ _ _ _ _ _ _ _ _ _ _ _ _ _ _ _ _ _ _ _ _ _ _ _ _ _ _ _ _ _ _ _ _ _ _ _ _ _ _ _ _ _ _ _ _ _ _ _ _ _ _ _ _ _ _ _ _ _ _ _ _ _ _ _ _ _ _ _ _ _ _ _ _ _ _ _ _ _ _ _ _ _ _ _ _ _ _ _ _ _ _ _ _ _ _ _ _ _ _ _ _ _ _ _ _ _ _ _ _ _ _ _)
end Fil
end Go.Proofs.YtpbdlgmkkbccmaaDoor
