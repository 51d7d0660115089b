/-
  The waking call of the laws on recurrence rules. (Written by gen/gen_rcwb.py.)
-/
import Derived.Test.YtbeefhmnoihmcaaGreatDoorRcwA
namespace Go.Proofs.YtbeefhmnoihmcaaGreatDoor
open Go.RowKit
namespace Rct
open Cel
open Rcp
open Wrd (MaxL)
open Civ (Ahead)
open Rcv (CV IntV DayV LisV RecV)
open Rck (ckE Small)
/-- All tables that the package reads. -/
def Tabs (w : World) : Prop := MaxL w ∧ FreqT w ∧ DayT w ∧ Ahead w ∧ Pow w
theorem Tabs.stays {w w' : World} (h : Tabs w) (hb : Below w.heap.size w w') : Tabs w' := ⟨mx_below h.1 hb, StrT.below h.2.1 hb, StrT.below h.2.2.1 hb, h.2.2.2.1.stays hb, h.2.2.2.2.stays hb⟩
/-- The block of the last Sunday of March. -/
def X1B (w : World) (p : Value) : Prop := ∃ (g : Nat) (a6 a7 a8 a9 a10 a11 a12 a13 a14 : Option Addr) (c6 c7 c8 c9 c10 c11 c12 c13 c14 : Nat), p = .pointer (some ⟨g, 0, none⟩) ∧ Cs g w [.int .i64 7, .int .i64 1, .int .i64 0, .bool false, .int .i64 0, .bool false, .slice a6 0 c6, .slice a7 0 c7, .slice a8 0 c8, .slice a9 1 c9, .slice a10 0 c10, .slice a11 0 c11, .slice a12 0 c12, .slice a13 1 c13, .slice a14 0 c14, .int .i64 1] ∧ LisV w x1 (.slice a6 0 c6) (.slice a7 0 c7) (.slice a8 0 c8) (.slice a9 1 c9) (.slice a10 0 c10) (.slice a11 0 c11) (.slice a12 0 c12) (.slice a13 1 c13) (.slice a14 0 c14)
theorem x1b_new {w : World} {v0 : Value} (h : RecV w v0 x1) : ∃ (a6 a7 a8 a9 a10 a11 a12 a13 a14 : Option Addr) (c6 c7 c8 c9 c10 c11 c12 c13 c14 : Nat), v0 = .agg #[.int .i64 7, .int .i64 1, .int .i64 0, .bool false, .int .i64 0, .bool false, .slice a6 0 c6, .slice a7 0 c7, .slice a8 0 c8, .slice a9 1 c9, .slice a10 0 c10, .slice a11 0 c11, .slice a12 0 c12, .slice a13 1 c13, .slice a14 0 c14, .int .i64 1] ∧ LisV w x1 (.slice a6 0 c6) (.slice a7 0 c7) (.slice a8 0 c8) (.slice a9 1 c9) (.slice a10 0 c10) (.slice a11 0 c11) (.slice a12 0 c12) (.slice a13 1 c13) (.slice a14 0 c14) := by
  obtain ⟨s6, s7, s8, s9, s10, s11, s12, s13, s14, rfl, h⟩ := h
  obtain ⟨a6, c6, rfl⟩ := h.h6.slice
  obtain ⟨a7, c7, rfl⟩ := h.h7.slice
  obtain ⟨a8, c8, rfl⟩ := h.h8.slice
  obtain ⟨a9, c9, rfl⟩ := h.h9.slice
  obtain ⟨a10, c10, rfl⟩ := h.h10.slice
  obtain ⟨a11, c11, rfl⟩ := h.h11.slice
  obtain ⟨a12, c12, rfl⟩ := h.h12.slice
  obtain ⟨a13, c13, rfl⟩ := h.h13.slice
  obtain ⟨a14, c14, rfl⟩ := h.h14.slice
  exact ⟨a6, a7, a8, a9, a10, a11, a12, a13, a14, c6, c7, c8, c9, c10, c11, c12, c13, c14, rfl, h⟩
theorem zero_agg {w : World} {v0 : Value} (h : RecV w v0 CV.zero) : ∃ (a6 a7 a8 a9 a10 a11 a12 a13 a14 : Option Addr) (c6 c7 c8 c9 c10 c11 c12 c13 c14 : Nat), v0 = .agg #[.int .i64 0, .int .i64 0, .int .i64 0, .bool false, .int .i64 0, .bool false, .slice a6 0 c6, .slice a7 0 c7, .slice a8 0 c8, .slice a9 0 c9, .slice a10 0 c10, .slice a11 0 c11, .slice a12 0 c12, .slice a13 0 c13, .slice a14 0 c14, .int .i64 0] := by
  obtain ⟨s6, s7, s8, s9, s10, s11, s12, s13, s14, rfl, h⟩ := h
  obtain ⟨a6, c6, rfl⟩ := h.h6.slice
  obtain ⟨a7, c7, rfl⟩ := h.h7.slice
  obtain ⟨a8, c8, rfl⟩ := h.h8.slice
  obtain ⟨a9, c9, rfl⟩ := h.h9.slice
  obtain ⟨a10, c10, rfl⟩ := h.h10.slice
  obtain ⟨a11, c11, rfl⟩ := h.h11.slice
  obtain ⟨a12, c12, rfl⟩ := h.h12.slice
  obtain ⟨a13, c13, rfl⟩ := h.h13.slice
  obtain ⟨a14, c14, rfl⟩ := h.h14.slice
  exact ⟨a6, a7, a8, a9, a10, a11, a12, a13, a14, c6, c7, c8, c9, c10, c11, c12, c13, c14, rfl⟩
set_option maxHeartbeats 6400000 in
set_option maxRecDepth 100000 in
theorem wakes21_any (w : World) (hT : Tabs w) :
    Calls Tryz.prog 10 #[] w fun e w' => e = .returned (.bool true) ∧ Below w.heap.size w w' := by
  have TT := Lib.hid hT
  clear hT
  go_enter Tryz.func10, Tryz.ntmps10
  go_upto_region 1 with fail
  go_cut [1, 2] (fun p e w1 => e = .int .i64 0 ∧ Hid (X1B w1 p) ∧ Hid (Below w.heap.size w w1))
  case first =>
    go_wp2_with fail
    refine (pa_to ⟨#[102, 114, 101, 113, 61, 121, 101, 97, 114, 108, 121, 59, 66, 89, 68, 65, 89, 61, 45, 49, 83, 85, 59, 66, 89, 77, 79, 78, 84, 72, 61, 51]⟩ [102, 114, 101, 113, 61, 121, 101, 97, 114, 108, 121, 59, 66, 89, 68, 65, 89, 61, 45, 49, 83, 85, 59, 66, 89, 77, 79, 78, 84, 72, 61, 51] x1 0 _ TT.out.1 TT.out.2.1 TT.out.2.2.1 TT.out.2.2.2.1 (by decide) (Lib.hid rfl) (Lib.hid q1) (Lib.hid px1)).mono ?_
    rintro e w1 ⟨u, rfl, hr, k1⟩
    obtain ⟨a6, a7, a8, a9, a10, a11, a12, a13, a14, c6, c7, c8, c9, c10, c11, c12, c13, c14, rfl, hl⟩ := x1b_new hr
    have HL := Lib.hid hl
    clear hr hl
    go_wp2
    go_meet
    exact ⟨rfl, Lib.hid ⟨w1.heap.size, a6, a7, a8, a9, a10, a11, a12, a13, a14, c6, c7, c8, c9, c10, c11, c12, c13, c14, rfl, Cs.new w1 _ _, HL.out.below ((Below.refl _ _).alloc (Nat.le_refl _) _)⟩, Lib.hid (k1.alloc k1.size _)⟩
  case rest =>
  obtain ⟨w1, rfl⟩ : ∃ x : World, x = wc := ⟨_, rfl⟩
  obtain ⟨rfl, X, B1⟩ := hcut
  obtain ⟨g, a6, a7, a8, a9, a10, a11, a12, a13, a14, c6, c7, c8, c9, c10, c11, c12, c13, c14, rfl, hc, hl⟩ := X.out
  have C := Lib.hid hc
  have L := Lib.hid hl
  clear hc hl X
  go_upto_region 2 with fail
  go_cut [3, 4] (fun s e w2 => s = .string ⟨([70, 82, 69, 81, 61, 89, 69, 65, 82, 76, 89, 59, 66, 89, 77, 79, 78, 84, 72, 61, 51, 59, 66, 89, 68, 65, 89, 61, 45, 49, 83, 85] : List UInt8).toArray⟩ ∧ e = .int .i64 0 ∧ Hid (Cs g w2 [.int .i64 7, .int .i64 1, .int .i64 0, .bool false, .int .i64 0, .bool false, .slice a6 0 c6, .slice a7 0 c7, .slice a8 0 c8, .slice a9 1 c9, .slice a10 0 c10, .slice a11 0 c11, .slice a12 0 c12, .slice a13 1 c13, .slice a14 0 c14, .int .i64 1]) ∧ Hid (LisV w2 x1 (.slice a6 0 c6) (.slice a7 0 c7) (.slice a8 0 c8) (.slice a9 1 c9) (.slice a10 0 c10) (.slice a11 0 c11) (.slice a12 0 c12) (.slice a13 1 c13) (.slice a14 0 c14)) ∧ Hid (Below w.heap.size w w2))
  case first =>
    refine wp_region_lit ?_
    refine wpList_load_mid rfl 25 (.tmp 1) rfl g 0 rfl [.int .i64 7, .int .i64 1, .int .i64 0, .bool false, .int .i64 0, .bool false, .slice a6 0 c6, .slice a7 0 c7, .slice a8 0 c8, .slice a9 1 c9, .slice a10 0 c10, .slice a11 0 c11, .slice a12 0 c12, .slice a13 1 c13, .slice a14 0 c14, .int .i64 1] _ C.out.range Tryz.underlying25 rfl (by kernel_rfl) ?_
    go_wp2_with fail
    refine (tx_to (.slice a6 0 c6) (.slice a7 0 c7) (.slice a8 0 c8) (.slice a9 1 c9) (.slice a10 0 c10) (.slice a11 0 c11) (.slice a12 0 c12) (.slice a13 1 c13) (.slice a14 0 c14) x1 [70, 82, 69, 81, 61, 89, 69, 65, 82, 76, 89, 59, 66, 89, 77, 79, 78, 84, 72, 61, 51, 59, 66, 89, 68, 65, 89, 61, 45, 49, 83, 85] 0 _ (TT.out.stays B1.out).2.2.2.2 (TT.out.stays B1.out).2.1 (TT.out.stays B1.out).2.2.1 (TT.out.stays B1.out).2.2.2.1 (by decide) (by decide) L (Lib.hid ⟨by decide, by decide, by decide, by decide, by decide, by decide, by decide, by decide, by decide⟩) (Lib.hid tx1)).mono ?_
    rintro e w2 ⟨rfl, k2⟩
    go_wp2
    go_meet
    exact ⟨rfl, rfl, Lib.hid (C.out.below k2), Lib.hid (L.out.below k2), Lib.hid (bstep B1.out k2)⟩
  case rest =>
  obtain ⟨w2, rfl⟩ : ∃ x : World, x = wc := ⟨_, rfl⟩
  obtain ⟨rfl, rfl, C2, L2, B2⟩ := hcut
  clear C L B1
  obtain ⟨T, hT⟩ : ∃ T : ByteArray, ⟨([70, 82, 69, 81, 61, 89, 69, 65, 82, 76, 89, 59, 66, 89, 77, 79, 78, 84, 72, 61, 51, 59, 66, 89, 68, 65, 89, 61, 45, 49, 83, 85] : List UInt8).toArray⟩ = T := ⟨_, rfl⟩
  have hs : (T.toList == [70, 82, 69, 81, 61, 89, 69, 65, 82, 76, 89, 59, 66, 89, 77, 79, 78, 84, 72, 61, 51, 59, 66, 89, 68, 65, 89, 61, 45, 49, 83, 85]) = true := by rw [← hT, Lib.toList_data]; rfl
  rw [hT]
  clear hT
  go_upto_region 3 with fail
  go_cut [6] (fun e w3 => e = .int .i64 21 ∧ Hid (Cs g w3 [.int .i64 7, .int .i64 1, .int .i64 0, .bool false, .int .i64 0, .bool false, .slice a6 0 c6, .slice a7 0 c7, .slice a8 0 c8, .slice a9 1 c9, .slice a10 0 c10, .slice a11 0 c11, .slice a12 0 c12, .slice a13 1 c13, .slice a14 0 c14, .int .i64 1]) ∧ Hid (LisV w3 x1 (.slice a6 0 c6) (.slice a7 0 c7) (.slice a8 0 c8) (.slice a9 1 c9) (.slice a10 0 c10) (.slice a11 0 c11) (.slice a12 0 c12) (.slice a13 1 c13) (.slice a14 0 c14)) ∧ Hid (Below w.heap.size w w3))
  case first =>
    go_wp2_with fail
    refine (pa_to ⟨#[70, 82, 69, 81, 61, 68, 65, 73, 76, 89, 59, 67, 79, 85, 78, 84, 61, 49, 59, 85, 78, 84, 73, 76, 61, 49, 57, 55, 48, 48, 49, 48, 49, 84, 48, 48, 48, 48, 48, 48]⟩ [70, 82, 69, 81, 61, 68, 65, 73, 76, 89, 59, 67, 79, 85, 78, 84, 61, 49, 59, 85, 78, 84, 73, 76, 61, 49, 57, 55, 48, 48, 49, 48, 49, 84, 48, 48, 48, 48, 48, 48] CV.zero 21 _ (TT.out.stays B2.out).1 (TT.out.stays B2.out).2.1 (TT.out.stays B2.out).2.2.1 (TT.out.stays B2.out).2.2.2.1 (by decide) (Lib.hid rfl) (Lib.hid q2) (Lib.hid px2)).mono ?_
    rintro e w3 ⟨u, rfl, hr, k3⟩
    obtain ⟨p6, p7, p8, p9, p10, p11, p12, p13, p14, q6, q7, q8, q9, q10, q11, q12, q13, q14, rfl⟩ := zero_agg hr
    clear hr
    go_wp2
    go_meet
    exact ⟨rfl, Lib.hid ((C2.out.below k3).alloc _), Lib.hid ((L2.out.below k3).below ((Below.refl _ _).alloc (Nat.le_refl _) _)), Lib.hid ((bstep B2.out k3).alloc (bstep B2.out k3).size _)⟩
  case rest =>
  obtain ⟨w3, rfl⟩ : ∃ x : World, x = wc := ⟨_, rfl⟩
  obtain ⟨rfl, C3, L3, B3⟩ := hcut
  clear C2 L2 B2
  obtain ⟨bd, od, cd, hse, hbd, kd⟩ := L3.out.h9.form (by decide)
  injection hse with hse1 hse2 hse3
  subst hse1
  have d0 : w3.cell? ⟨bd, od, Option.none⟩ = some (.int .i64 (-1)) := by have q : w3.cell? ⟨bd, od + 0 * 2, Option.none⟩ = some (.int .i64 (-1)) := (kd 0 (by decide)).1; rwa [Nat.zero_mul, Nat.add_zero] at q
  have l0 := (C3.out.2 0 _ rfl).1
  have l1 := (C3.out.2 1 _ rfl).1
  have l9 := (C3.out.2 9 _ rfl).1
  have l15 := (C3.out.2 15 _ rfl).1
  clear kd hse2 hse3
  go_wp2_with fail
  refine (Rck.ck_to (.slice none 0 0) (.slice none 0 0) (.slice none 0 0) (.slice none 0 0) (.slice none 0 0) (.slice none 0 0) (.slice none 0 0) (.slice none 0 0) (.slice none 0 0) CV.zero 21 _ (TT.out.stays B3.out).2.2.2.1 (by decide) (by decide) (Lib.hid ⟨IntV.none _, IntV.none _, IntV.none _, DayV.none _, IntV.none _, IntV.none _, IntV.none _, IntV.none _, IntV.none _⟩) (Lib.hid ⟨by decide, by decide, by decide, by decide, by decide, by decide, by decide, by decide, by decide⟩) (Lib.hid cz)).mono ?_
  rintro e w4 ⟨rfl, k4⟩
  go_wp2
  go_ret
  exact ⟨rfl, bstep B3.out k4⟩
end Rct
end Go.Proofs.YtbeefhmnoihmcaaGreatDoor
