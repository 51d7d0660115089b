/-
  Several texts in one (Rgt, RcbH).
-/
import Derived.Test.YtgaolaafjiiehaaGreatDoorBdK1
/-
  What is known of a right rule; rules whose lists have at most a thousand.
-/
namespace Go.Proofs.YtgaolaafjiiehaaGreatDoor
namespace Rct
open Rcv (CV)
open Rck (frB eiB)
theorem ei_fr {m : Int} {L : List Int} (h : eiB m L = true) : frB (-m) m L = true := by
  rw [eiB, Bool.and_eq_true] at h
  exact h.2
/-- Each list of at most a thousand. -/
structure Len3 (x : CV) : Prop where
  sc : x.sc.length ≤ 1000
  mi : x.mi.length ≤ 1000
  hr : x.hr.length ≤ 1000
  dy : x.dy.length ≤ 1000
  md : x.md.length ≤ 1000
  yd : x.yd.length ≤ 1000
  wn : x.wn.length ≤ 1000
  mo : x.mo.length ≤ 1000
  sp : x.sp.length ≤ 1000
end Rct
namespace Rcb
open Rct (ei_fr)
open Rcv (CV)
open Rck (Small ckE ckB frB eiB dyB lsB endB gtB frB_iff dyB_iff)
theorem ck_un {x : CV} (h : ckE x = 0) : ckB x = true := by
  cases hc : ckB x with
  | true => rfl
  | false => rw [ckE, hc] at h; exact absurd h (by decide)
/-- What is known of a right rule. -/
structure Rgt (x : CV) : Prop where
  f1 : 1 ≤ x.fq
  f2 : x.fq ≤ 7
  i1 : 1 ≤ x.iv
  i2 : x.iv ≤ 1000
  c1 : 0 ≤ x.ct
  c2 : x.ct ≤ 100000
  k1 : 0 ≤ x.wk
  k2 : x.wk ≤ 6
  en : endB x.un x.ua x.ut x.ct = true
  sc : ∀ n ∈ x.sc, 0 ≤ n ∧ n ≤ 59
  mi : ∀ n ∈ x.mi, 0 ≤ n ∧ n ≤ 59
  hr : ∀ n ∈ x.hr, 0 ≤ n ∧ n ≤ 23
  mo : ∀ n ∈ x.mo, 1 ≤ n ∧ n ≤ 12
  md : ∀ n ∈ x.md, -31 ≤ n ∧ n ≤ 31
  yd : ∀ n ∈ x.yd, -366 ≤ n ∧ n ≤ 366
  wn : ∀ n ∈ x.wn, -53 ≤ n ∧ n ≤ 53
  sp : ∀ n ∈ x.sp, -366 ≤ n ∧ n ≤ 366
  dy : ∀ d ∈ x.dy, 0 ≤ d.2 ∧ d.2 ≤ 6 ∧ -53 ≤ d.1 ∧ d.1 ≤ 53
theorem Rgt.of {x : CV} (h : ckE x = 0) : Rgt x := by
  have hb := ck_un h
  unfold ckB at hb
  simp only [Bool.and_eq_true, decide_eq_true_eq] at hb
  obtain ⟨f1, f2, i1, i2, c1, c2, k1, k2, en, hls, hdy, _⟩ := hb
  unfold lsB at hls
  simp only [Bool.and_eq_true] at hls
  obtain ⟨⟨⟨⟨⟨⟨⟨hsc, hmi⟩, hhr⟩, hmo⟩, hmd⟩, hyd⟩, hwn⟩, hsp⟩ := hls
  exact ⟨f1, f2, i1, i2, c1, c2, k1, k2, en, (frB_iff.1 hsc).1, (frB_iff.1 hmi).1, (frB_iff.1 hhr).1, (frB_iff.1 hmo).1, (frB_iff.1 (ei_fr hmd)).1, (frB_iff.1 (ei_fr hyd)).1, (frB_iff.1 (ei_fr hwn)).1, (frB_iff.1 (ei_fr hsp)).1, (dyB_iff.1 hdy).1⟩
end Rcb
end Go.Proofs.YtgaolaafjiiehaaGreatDoor
/-
  RecurBack: what is more than is played. (Written by gen/gen_rcbb.py.)
-/
namespace Go.Proofs.YtgaolaafjiiehaaGreatDoor
open Go.RowKit
namespace Rct
open Cel
open Rcv (CV IntV DayV LisV RecV)
open Rck (ckE Small)
open Civ (Ahead)
set_option maxHeartbeats 12800000 in
set_option maxRecDepth 100000 in
theorem hv_go (x : CV) (a6 a7 a8 a9 a10 a11 a12 a13 a14 : Option Addr) (n6 n7 n8 n9 n10 n11 n12 n13 n14 c6 c7 c8 c9 c10 c11 c12 c13 c14 : Nat) (b : Bool) (w : World) (hb : Hid (decide (70 < n6 ∨ 70 < n7 ∨ 30 < n8 ∨ 60 < n9 ∨ 70 < n10 ∨ 60 < n11 ∨ 60 < n12 ∨ 20 < n13 ∨ 60 < n14) = b)) :
    Calls Tryz.prog 4 #[.agg #[.int .i64 x.fq, .int .i64 x.iv, .int .i64 x.ct, .bool x.un, .int .i64 x.ua, .bool x.ut, .slice a6 n6 c6, .slice a7 n7 c7, .slice a8 n8 c8, .slice a9 n9 c9, .slice a10 n10 c10, .slice a11 n11 c11, .slice a12 n12 c12, .slice a13 n13 c13, .slice a14 n14 c14, .int .i64 x.wk]] w fun e w' => e = .returned (.bool b) ∧ Below w.heap.size w w' := by
  by_cases x6 : 70 < n6
  · have y6 : (70 : Int) < (n6 : Int) := by omega
    obtain rfl : b = true := by rw [← hb.out]; exact decide_eq_true (by omega)
    clear hb
    go_enter Tryz.func4, Tryz.ntmps4
    go_wp2
    go_ret
    exact ⟨rfl, (Below.refl _ _).alloc (Nat.le_refl _) _⟩
  have y6 : ¬ (70 : Int) < (n6 : Int) := by omega
  by_cases x7 : 70 < n7
  · have y7 : (70 : Int) < (n7 : Int) := by omega
    obtain rfl : b = true := by rw [← hb.out]; exact decide_eq_true (by omega)
    clear hb
    go_enter Tryz.func4, Tryz.ntmps4
    go_wp2
    go_ret
    exact ⟨rfl, (Below.refl _ _).alloc (Nat.le_refl _) _⟩
  have y7 : ¬ (70 : Int) < (n7 : Int) := by omega
  by_cases x8 : 30 < n8
  · have y8 : (30 : Int) < (n8 : Int) := by omega
    obtain rfl : b = true := by rw [← hb.out]; exact decide_eq_true (by omega)
    clear hb
    go_enter Tryz.func4, Tryz.ntmps4
    go_wp2
    go_ret
    exact ⟨rfl, (Below.refl _ _).alloc (Nat.le_refl _) _⟩
  have y8 : ¬ (30 : Int) < (n8 : Int) := by omega
  by_cases x9 : 60 < n9
  · have y9 : (60 : Int) < (n9 : Int) := by omega
    obtain rfl : b = true := by rw [← hb.out]; exact decide_eq_true (by omega)
    clear hb
    go_enter Tryz.func4, Tryz.ntmps4
    go_wp2
    go_ret
    exact ⟨rfl, (Below.refl _ _).alloc (Nat.le_refl _) _⟩
  have y9 : ¬ (60 : Int) < (n9 : Int) := by omega
  by_cases x10 : 70 < n10
  · have y10 : (70 : Int) < (n10 : Int) := by omega
    obtain rfl : b = true := by rw [← hb.out]; exact decide_eq_true (by omega)
    clear hb
    go_enter Tryz.func4, Tryz.ntmps4
    go_wp2
    go_ret
    exact ⟨rfl, (Below.refl _ _).alloc (Nat.le_refl _) _⟩
  have y10 : ¬ (70 : Int) < (n10 : Int) := by omega
  by_cases x11 : 60 < n11
  · have y11 : (60 : Int) < (n11 : Int) := by omega
    obtain rfl : b = true := by rw [← hb.out]; exact decide_eq_true (by omega)
    clear hb
    go_enter Tryz.func4, Tryz.ntmps4
    go_wp2
    go_ret
    exact ⟨rfl, (Below.refl _ _).alloc (Nat.le_refl _) _⟩
  have y11 : ¬ (60 : Int) < (n11 : Int) := by omega
  by_cases x12 : 60 < n12
  · have y12 : (60 : Int) < (n12 : Int) := by omega
    obtain rfl : b = true := by rw [← hb.out]; exact decide_eq_true (by omega)
    clear hb
    go_enter Tryz.func4, Tryz.ntmps4
    go_wp2
    go_ret
    exact ⟨rfl, (Below.refl _ _).alloc (Nat.le_refl _) _⟩
  have y12 : ¬ (60 : Int) < (n12 : Int) := by omega
  by_cases x13 : 20 < n13
  · have y13 : (20 : Int) < (n13 : Int) := by omega
    obtain rfl : b = true := by rw [← hb.out]; exact decide_eq_true (by omega)
    clear hb
    go_enter Tryz.func4, Tryz.ntmps4
    go_wp2
    go_ret
    exact ⟨rfl, (Below.refl _ _).alloc (Nat.le_refl _) _⟩
  have y13 : ¬ (20 : Int) < (n13 : Int) := by omega
  by_cases x14 : 60 < n14
  · have y14 : (60 : Int) < (n14 : Int) := by omega
    obtain rfl : b = true := by rw [← hb.out]; exact decide_eq_true (by omega)
    clear hb
    go_enter Tryz.func4, Tryz.ntmps4
    go_wp2
    go_ret
    exact ⟨rfl, (Below.refl _ _).alloc (Nat.le_refl _) _⟩
  have y14 : ¬ (60 : Int) < (n14 : Int) := by omega
  obtain rfl : b = false := by rw [← hb.out]; exact decide_eq_false (by omega)
  clear hb
  go_enter Tryz.func4, Tryz.ntmps4
  go_wp2
  go_ret
  exact ⟨rfl, (Below.refl _ _).alloc (Nat.le_refl _) _⟩
theorem hv_to (s6 s7 s8 s9 s10 s11 s12 s13 s14 : Value) (x : CV) (w : World) (h : LisV w x s6 s7 s8 s9 s10 s11 s12 s13 s14) : Calls Tryz.prog 4 #[.agg #[.int .i64 x.fq, .int .i64 x.iv, .int .i64 x.ct, .bool x.un, .int .i64 x.ua, .bool x.ut, s6, s7, s8, s9, s10, s11, s12, s13, s14, .int .i64 x.wk]] w fun e w' => ∃ b : Bool, e = .returned (.bool b) ∧ Hid (b = false → Len3 x) ∧ Below w.heap.size w w' := by
  obtain ⟨a6, c6, rfl⟩ := h.h6.slice
  obtain ⟨a7, c7, rfl⟩ := h.h7.slice
  obtain ⟨a8, c8, rfl⟩ := h.h8.slice
  obtain ⟨a9, c9, rfl⟩ := h.h9.slice
  obtain ⟨a10, c10, rfl⟩ := h.h10.slice
  obtain ⟨a11, c11, rfl⟩ := h.h11.slice
  obtain ⟨a12, c12, rfl⟩ := h.h12.slice
  obtain ⟨a13, c13, rfl⟩ := h.h13.slice
  obtain ⟨a14, c14, rfl⟩ := h.h14.slice
  exact (hv_go x a6 a7 a8 a9 a10 a11 a12 a13 a14 x.sc.length x.mi.length x.hr.length x.dy.length x.md.length x.yd.length x.wn.length x.mo.length x.sp.length c6 c7 c8 c9 c10 c11 c12 c13 c14 _ w (Lib.hid rfl)).mono fun e w' ⟨he, hb⟩ => ⟨_, he, Lib.hid (fun q => by
    have q := of_decide_eq_false q
    exact ⟨by omega, by omega, by omega, by omega, by omega, by omega, by omega, by omega, by omega⟩), hb⟩
end Rct
end Go.Proofs.YtgaolaafjiiehaaGreatDoor
