/-
  RecurBack: what is more than is played. (Written by gen/gen_rcbb.py.)
-/
import Derived.Test.YtpbdlgmkkbccmaaDoorRgt
namespace Go.Proofs.YtpbdlgmkkbccmaaDoor
open Go.RowKit
namespace Rct
open Cel
open Rcv (CV IntV DayV LisV RecV)
open Rck (ckE Small)
open Civ (Ahead)
set_option maxHeartbeats 12800000 in
set_option maxRecDepth 100000 in
theorem hv_go (x : CV) (a6 a7 a8 a9 a10 a11 a12 a13 a14 : Option Addr) (n6 n7 n8 n9 n10 n11 n12 n13 n14 c6 c7 c8 c9 c10 c11 c12 c13 c14 : Nat) (b : Bool) (w : World) (hb : Hid (decide (70 < n6 ∨ 70 < n7 ∨ 30 < n8 ∨ 60 < n9 ∨ 70 < n10 ∨ 60 < n11 ∨ 60 < n12 ∨ 20 < n13 ∨ 60 < n14) = b)) :
    Calls Tryd.prog 7 #[.agg #[.int .i64 x.fq, .int .i64 x.iv, .int .i64 x.ct, .bool x.un, .int .i64 x.ua, .bool x.ut, .slice a6 n6 c6, .slice a7 n7 c7, .slice a8 n8 c8, .slice a9 n9 c9, .slice a10 n10 c10, .slice a11 n11 c11, .slice a12 n12 c12, .slice a13 n13 c13, .slice a14 n14 c14, .int .i64 x.wk]] w fun e w' => e = .returned (.bool b) ∧ Below w.heap.size w w' := by
  by_cases x6 : 70 < n6
  · have y6 : (70 : Int) < (n6 : Int) := by omega
    obtain rfl : b = true := by rw [← hb.out]; exact decide_eq_true (by omega)
    clear hb
    go_enter Tryd.func7, Tryd.ntmps7
    go_wp2
    go_ret
    exact ⟨rfl, (Below.refl _ _).alloc (Nat.le_refl _) _⟩
  have y6 : ¬ (70 : Int) < (n6 : Int) := by omega
  by_cases x7 : 70 < n7
  · have y7 : (70 : Int) < (n7 : Int) := by omega
    obtain rfl : b = true := by rw [← hb.out]; exact decide_eq_true (by omega)
    clear hb
    go_enter Tryd.func7, Tryd.ntmps7
    go_wp2
    go_ret
    exact ⟨rfl, (Below.refl _ _).alloc (Nat.le_refl _) _⟩
  have y7 : ¬ (70 : Int) < (n7 : Int) := by omega
  by_cases x8 : 30 < n8
  · have y8 : (30 : Int) < (n8 : Int) := by omega
    obtain rfl : b = true := by rw [← hb.out]; exact decide_eq_true (by omega)
    clear hb
    go_enter Tryd.func7, Tryd.ntmps7
    go_wp2
    go_ret
    exact ⟨rfl, (Below.refl _ _).alloc (Nat.le_refl _) _⟩
  have y8 : ¬ (30 : Int) < (n8 : Int) := by omega
  by_cases x9 : 60 < n9
  · have y9 : (60 : Int) < (n9 : Int) := by omega
    obtain rfl : b = true := by rw [← hb.out]; exact decide_eq_true (by omega)
    clear hb
    go_enter Tryd.func7, Tryd.ntmps7
    go_wp2
    go_ret
    exact ⟨rfl, (Below.refl _ _).alloc (Nat.le_refl _) _⟩
  have y9 : ¬ (60 : Int) < (n9 : Int) := by omega
  by_cases x10 : 70 < n10
  · have y10 : (70 : Int) < (n10 : Int) := by omega
    obtain rfl : b = true := by rw [← hb.out]; exact decide_eq_true (by omega)
    clear hb
    go_enter Tryd.func7, Tryd.ntmps7
    go_wp2
    go_ret
    exact ⟨rfl, (Below.refl _ _).alloc (Nat.le_refl _) _⟩
  have y10 : ¬ (70 : Int) < (n10 : Int) := by omega
  by_cases x11 : 60 < n11
  · have y11 : (60 : Int) < (n11 : Int) := by omega
    obtain rfl : b = true := by rw [← hb.out]; exact decide_eq_true (by omega)
    clear hb
    go_enter Tryd.func7, Tryd.ntmps7
    go_wp2
    go_ret
    exact ⟨rfl, (Below.refl _ _).alloc (Nat.le_refl _) _⟩
  have y11 : ¬ (60 : Int) < (n11 : Int) := by omega
  by_cases x12 : 60 < n12
  · have y12 : (60 : Int) < (n12 : Int) := by omega
    obtain rfl : b = true := by rw [← hb.out]; exact decide_eq_true (by omega)
    clear hb
    go_enter Tryd.func7, Tryd.ntmps7
    go_wp2
    go_ret
    exact ⟨rfl, (Below.refl _ _).alloc (Nat.le_refl _) _⟩
  have y12 : ¬ (60 : Int) < (n12 : Int) := by omega
  by_cases x13 : 20 < n13
  · have y13 : (20 : Int) < (n13 : Int) := by omega
    obtain rfl : b = true := by rw [← hb.out]; exact decide_eq_true (by omega)
    clear hb
    go_enter Tryd.func7, Tryd.ntmps7
    go_wp2
    go_ret
    exact ⟨rfl, (Below.refl _ _).alloc (Nat.le_refl _) _⟩
  have y13 : ¬ (20 : Int) < (n13 : Int) := by omega
  by_cases x14 : 60 < n14
  · have y14 : (60 : Int) < (n14 : Int) := by omega
    obtain rfl : b = true := by rw [← hb.out]; exact decide_eq_true (by omega)
    clear hb
    go_enter Tryd.func7, Tryd.ntmps7
    go_wp2
    go_ret
    exact ⟨rfl, (Below.refl _ _).alloc (Nat.le_refl _) _⟩
  have y14 : ¬ (60 : Int) < (n14 : Int) := by omega
  obtain rfl : b = false := by rw [← hb.out]; exact decide_eq_false (by omega)
  clear hb
  go_enter Tryd.func7, Tryd.ntmps7
  go_wp2
  go_ret
  exact ⟨rfl, (Below.refl _ _).alloc (Nat.le_refl _) _⟩
theorem hv_to (s6 s7 s8 s9 s10 s11 s12 s13 s14 : Value) (x : CV) (w : World) (h : LisV w x s6 s7 s8 s9 s10 s11 s12 s13 s14) : Calls Tryd.prog 7 #[.agg #[.int .i64 x.fq, .int .i64 x.iv, .int .i64 x.ct, .bool x.un, .int .i64 x.ua, .bool x.ut, s6, s7, s8, s9, s10, s11, s12, s13, s14, .int .i64 x.wk]] w fun e w' => ∃ b : Bool, e = .returned (.bool b) ∧ Hid (b = false → Len3 x) ∧ Below w.heap.size w w' := by
  obtain ⟨a6, c6, rfl⟩ := h.h6.slice
  obtain ⟨a7, c7, rfl⟩ := h.h7.slice
  obtain ⟨a8, c8, rfl⟩ := h.h8.slice
  obtain ⟨a9, c9, rfl⟩ := h.h9.slice
  obtain ⟨a10, c10, rfl⟩ := h.h10.slice
  obtain ⟨a11, c11, rfl⟩ := h.h11.slice
  obtain ⟨a12, c12, rfl⟩ := h.h12.slice
  obtain ⟨a13, c13, rfl⟩ := h.h13.slice
  obtain ⟨a14, c14, rfl⟩ := h.h14.slice
  exact (hv_go x a6 a7 a8 a9 a10 a11 a12 a13 a14 x.sc.length x.mi.length x.hr.length x.dy.length x.md.length x.yd.length x.wn.length x.mo.length x.sp.length c6 c7 c8 c9 c10 c11 c12 c13 c14 _ w (Lib.hid rfl)).mono fun e w' ⟨he, hb⟩ => ⟨_, he, Lib.hid (fun q => by
    have q := of_decide_eq_false q
    exact ⟨by omega, by omega, by omega, by omega, by omega, by omega, by omega, by omega, by omega⟩), hb⟩
end Rct
end Go.Proofs.YtpbdlgmkkbccmaaDoor
