/-
  RecurBad: texts that are none. (Written by gen/gen_rcba.py.)
-/
import Derived.Test.YtfdamkiocefgmaaDoorRcwL
import Derived.Test.YtfdamkiocefgmaaDoorRcvB
namespace Go.Proofs.YtfdamkiocefgmaaDoor
open Go.RowKit
namespace Rct
open Cel
open Rcp
open Spc
open Rcv (CV IntV DayV LisV RecV)
open Rck (ckE Small)
open Civ (Ahead)
def badL : List (List UInt8) := [[], [66, 89, 77, 79, 78, 84, 72, 61, 51], [70, 82, 69, 81, 61, 68, 65, 73, 76, 89, 59, 70, 82, 69, 81, 61, 68, 65, 73, 76, 89], [70, 82, 69, 81, 61, 68, 65, 73, 76, 89, 59, 66, 89, 77, 79, 78, 84, 72, 61], [70, 82, 69, 81, 61, 68, 65, 73, 76, 89, 59, 73, 78, 84, 69, 82, 86, 65, 76, 61, 48, 48, 48, 48, 48, 48, 49], [70, 82, 69, 81, 61, 68, 65, 73, 76, 89, 59, 88, 61, 49], [70, 82, 69, 81, 61, 68, 65, 73, 76, 89, 59, 66, 89, 77, 79, 78, 84, 72, 61, 43, 51], [70, 82, 69, 81, 61, 68, 65, 73, 76, 89, 59, 67, 79, 85, 78, 84, 61, 48], [70, 82, 69, 81, 61, 68, 65, 73, 76, 89, 59, 66, 89, 68, 65, 89, 61, 48, 77, 79], [70, 82, 69, 81, 61, 68, 65, 73, 76, 89, 59, 66, 89, 68, 65, 89, 61, 88, 88], [70, 82, 69, 81, 61, 68, 65, 73, 76, 89, 59], [70, 82, 69, 81, 61, 68, 65, 73, 76, 89, 59, 85, 78, 84, 73, 76, 61, 49, 57, 55, 48, 48, 49, 48, 49], [70, 82, 69, 81, 61, 59, 67, 79, 85, 78, 84, 61, 49], [70, 82, 69, 81, 61, 68, 65, 73, 76, 89, 59, 66, 89, 77, 79, 78, 84, 72, 68, 65, 89, 61, 49, 44, 49], [70, 82, 69, 81, 61, 68, 65, 73, 76, 89, 59, 66, 89, 72, 79, 85, 82, 61, 50, 52], [70, 82, 69, 81, 61, 68, 65, 73, 76, 89, 32, 67, 79, 85, 78, 84, 61, 49], [70, 82, 69, 81, 61, 68, 65, 73, 76, 89, 59, 87, 75, 83, 84, 61, 49, 77, 79]]
def mbs : List UInt8 := [70, 82, 69, 81, 61, 77, 79, 78, 84, 72, 76, 89, 59, 66, 89, 68, 65, 89, 61, 43, 50, 109, 111, 44, 45, 49, 70, 114, 59, 66, 89, 77, 79, 78, 84, 72, 68, 65, 89, 61, 45, 48, 49, 44, 43, 48, 55]
def xm : CV := ⟨6, 1, 0, false, 0, false, [], [], [], [(2, 1), (-1, 5)], [-1, 7], [], [], [], [], 1⟩
theorem bad_all (k : Nat) (hk : k < 17) : pxP (badL.getD k []) = (CV.zero, 21) ∧ (badL.getD k []).length ≤ 100 ∧ ∀ q ∈ spG 59 [] (badL.getD k []), q.length ≤ 10000 := by
  have hv : k = 0 ∨ k = 1 ∨ k = 2 ∨ k = 3 ∨ k = 4 ∨ k = 5 ∨ k = 6 ∨ k = 7 ∨ k = 8 ∨ k = 9 ∨ k = 10 ∨ k = 11 ∨ k = 12 ∨ k = 13 ∨ k = 14 ∨ k = 15 ∨ k = 16 := by omega
  rcases hv with rfl | rfl | rfl | rfl | rfl | rfl | rfl | rfl | rfl | rfl | rfl | rfl | rfl | rfl | rfl | rfl | rfl
  all_goals exact ⟨by kernel_rfl, by decide, by decide⟩
theorem pxm : pxP mbs = (xm, 0) := by kernel_rfl
theorem qxm : ∀ q ∈ spG 59 [] mbs, q.length ≤ 10000 := by decide
theorem u17 (x : Int) : ∃ k : Nat, (IntKind.u64.wrap x).tmod 17 = (k : Int) ∧ k < 17 := by
  have h1 := Int.tmod_nonneg 17 (show 0 ≤ IntKind.u64.wrap x by rw [IntKind.wrap_u64]; omega)
  have h2 := Int.tmod_lt_of_pos (IntKind.u64.wrap x) (show (0 : Int) < 17 by omega)
  exact ⟨((IntKind.u64.wrap x).tmod 17).toNat, by omega, by omega⟩
/-- A value that reads as a rule, its lists' slices laid out. -/
theorem recv_form {w : World} {v0 : Value} {x : CV} (h : RecV w v0 x) : ∃ (a6 a7 a8 a9 a10 a11 a12 a13 a14 : Option Addr) (c6 c7 c8 c9 c10 c11 c12 c13 c14 : Nat), v0 = .agg #[.int .i64 x.fq, .int .i64 x.iv, .int .i64 x.ct, .bool x.un, .int .i64 x.ua, .bool x.ut, .slice a6 x.sc.length c6, .slice a7 x.mi.length c7, .slice a8 x.hr.length c8, .slice a9 x.dy.length c9, .slice a10 x.md.length c10, .slice a11 x.yd.length c11, .slice a12 x.wn.length c12, .slice a13 x.mo.length c13, .slice a14 x.sp.length c14, .int .i64 x.wk] ∧ LisV w x (.slice a6 x.sc.length c6) (.slice a7 x.mi.length c7) (.slice a8 x.hr.length c8) (.slice a9 x.dy.length c9) (.slice a10 x.md.length c10) (.slice a11 x.yd.length c11) (.slice a12 x.wn.length c12) (.slice a13 x.mo.length c13) (.slice a14 x.sp.length c14) := by
  obtain ⟨s6, s7, s8, s9, s10, s11, s12, s13, s14, rfl, h⟩ := h
  obtain ⟨a6, c6, rfl⟩ := h.h6.slice
  obtain ⟨a7, c7, rfl⟩ := h.h7.slice
  obtain ⟨a8, c8, rfl⟩ := h.h8.slice
  obtain ⟨a9, c9, rfl⟩ := h.h9.slice
  obtain ⟨a10, c10, rfl⟩ := h.h10.slice
  obtain ⟨a11, c11, rfl⟩ := h.h11.slice
  obtain ⟨a12, c12, rfl⟩ := h.h12.slice
  obtain ⟨a13, c13, rfl⟩ := h.h13.slice
  obtain ⟨a14, c14, rfl⟩ := h.h14.slice
  exact ⟨a6, a7, a8, a9, a10, a11, a12, a13, a14, c6, c7, c8, c9, c10, c11, c12, c13, c14, rfl, h⟩
theorem int_two {w : World} {g : Nat} {n m : Int} (h : Cs g w [.int .i64 n, .int .i64 m]) : IntV w (.slice (some ⟨g, 0, none⟩) 2 2) [n, m] := by
  refine ⟨_, _, _, rfl, rfl, fun j hj => ?_⟩
  have hv : j = 0 ∨ j = 1 := by simp at hj; omega
  rcases hv with rfl | rfl
  · exact ⟨g, 0, rfl, h.1, (h.2 0 _ rfl).1⟩
  · exact ⟨g, 0, rfl, h.1, (h.2 1 _ rfl).1⟩
theorem sml_zero : Rcv.SmlC CV.zero := ⟨by decide, by decide, by decide, by decide, by decide, by decide, by decide, by decide, by decide⟩
theorem lis_zero (w : World) : LisV w CV.zero (.slice none 0 0) (.slice none 0 0) (.slice none 0 0) (.slice none 0 0) (.slice none 0 0) (.slice none 0 0) (.slice none 0 0) (.slice none 0 0) (.slice none 0 0) :=
  ⟨IntV.none _, IntV.none _, IntV.none _, DayV.none _, IntV.none _, IntV.none _, IntV.none _, IntV.none _, IntV.none _⟩
set_option maxHeartbeats 12800000 in
set_option maxRecDepth 100000 in
theorem bad_any (how : Int) (w : World) (hT : Tabs w) :
    Calls Tryd.prog 5 #[.int .i64 how] w fun e w' => e = .returned (.bool true) ∧ Below w.heap.size w w' := by
  have TT := Lib.hid hT
  clear hT
  obtain ⟨k, ek, hk⟩ := u17 how
  have HB := Lib.hid (bad_all k hk)
  have hc : (w.alloc (Obj.cells #[.string ⟨#[]⟩, .string ⟨#[66, 89, 77, 79, 78, 84, 72, 61, 51]⟩, .string ⟨#[70, 82, 69, 81, 61, 68, 65, 73, 76, 89, 59, 70, 82, 69, 81, 61, 68, 65, 73, 76, 89]⟩, .string ⟨#[70, 82, 69, 81, 61, 68, 65, 73, 76, 89, 59, 66, 89, 77, 79, 78, 84, 72, 61]⟩, .string ⟨#[70, 82, 69, 81, 61, 68, 65, 73, 76, 89, 59, 73, 78, 84, 69, 82, 86, 65, 76, 61, 48, 48, 48, 48, 48, 48, 49]⟩, .string ⟨#[70, 82, 69, 81, 61, 68, 65, 73, 76, 89, 59, 88, 61, 49]⟩, .string ⟨#[70, 82, 69, 81, 61, 68, 65, 73, 76, 89, 59, 66, 89, 77, 79, 78, 84, 72, 61, 43, 51]⟩, .string ⟨#[70, 82, 69, 81, 61, 68, 65, 73, 76, 89, 59, 67, 79, 85, 78, 84, 61, 48]⟩, .string ⟨#[70, 82, 69, 81, 61, 68, 65, 73, 76, 89, 59, 66, 89, 68, 65, 89, 61, 48, 77, 79]⟩, .string ⟨#[70, 82, 69, 81, 61, 68, 65, 73, 76, 89, 59, 66, 89, 68, 65, 89, 61, 88, 88]⟩, .string ⟨#[70, 82, 69, 81, 61, 68, 65, 73, 76, 89, 59]⟩, .string ⟨#[70, 82, 69, 81, 61, 68, 65, 73, 76, 89, 59, 85, 78, 84, 73, 76, 61, 49, 57, 55, 48, 48, 49, 48, 49]⟩, .string ⟨#[70, 82, 69, 81, 61, 59, 67, 79, 85, 78, 84, 61, 49]⟩, .string ⟨#[70, 82, 69, 81, 61, 68, 65, 73, 76, 89, 59, 66, 89, 77, 79, 78, 84, 72, 68, 65, 89, 61, 49, 44, 49]⟩, .string ⟨#[70, 82, 69, 81, 61, 68, 65, 73, 76, 89, 59, 66, 89, 72, 79, 85, 82, 61, 50, 52]⟩, .string ⟨#[70, 82, 69, 81, 61, 68, 65, 73, 76, 89, 32, 67, 79, 85, 78, 84, 61, 49]⟩, .string ⟨#[70, 82, 69, 81, 61, 68, 65, 73, 76, 89, 59, 87, 75, 83, 84, 61, 49, 77, 79]⟩] 9)).cell? ⟨w.heap.size, k, none⟩ = some (.string ⟨(badL.getD k []).toArray⟩) := by
    rw [World.cell?_alloc_new]
    have hv : k = 0 ∨ k = 1 ∨ k = 2 ∨ k = 3 ∨ k = 4 ∨ k = 5 ∨ k = 6 ∨ k = 7 ∨ k = 8 ∨ k = 9 ∨ k = 10 ∨ k = 11 ∨ k = 12 ∨ k = 13 ∨ k = 14 ∨ k = 15 ∨ k = 16 := by omega
    rcases hv with rfl | rfl | rfl | rfl | rfl | rfl | rfl | rfl | rfl | rfl | rfl | rfl | rfl | rfl | rfl | rfl | rfl <;> rfl
  obtain ⟨Z, hZ⟩ : ∃ Z, badL.getD k [] = Z := ⟨_, rfl⟩
  rw [hZ] at hc HB
  have HZ : Hid ((⟨Z.toArray⟩ : ByteArray).size ≤ 100000) := Lib.hid (by have := HB.out.2.1; show Z.length ≤ 100000; omega)
  have HC := Lib.hid hc
  clear hZ hc
  go_enter Tryd.func5, Tryd.ntmps5
  go_upto_region 1 with fail
  go_cut [3] (fun v wz => v = .slice (some ⟨w.heap.size, 0, none⟩) 17 17 ∧ Hid (wz.cell? ⟨w.heap.size, k, none⟩ = some (.string ⟨Z.toArray⟩)) ∧ Hid (Below w.heap.size w wz))
  case first =>
    go_wp2
    go_meet
    exact ⟨rfl, HC, Lib.hid ((Below.refl _ _).alloc (Nat.le_refl _) _)⟩
  case rest =>
  obtain ⟨w1, rfl⟩ : ∃ x : World, x = wc := ⟨_, rfl⟩
  obtain ⟨rfl, hz, B1⟩ := hcut
  have zc := hz.out
  clear HC hz
  go_upto_region 2 with fail
  go_cut [4, 5] (fun p e wz => e = .int .i64 21 ∧ Hid (BlkX wz p CV.zero) ∧ Hid (Below w.heap.size w wz))
  case first =>
    go_wp2_with fail
    refine (pa_to _ Z CV.zero 21 _ (TT.out.stays B1.out).1 (TT.out.stays B1.out).2.1 (TT.out.stays B1.out).2.2.1 (TT.out.stays B1.out).2.2.2.1 HZ.out (Lib.hid rfl) (Lib.hid HB.out.2.2) (Lib.hid HB.out.1)).mono ?_
    rintro e w2 ⟨u, rfl, hr, k1⟩
    obtain ⟨a6, a7, a8, a9, a10, a11, a12, a13, a14, c6, c7, c8, c9, c10, c11, c12, c13, c14, rfl, hl⟩ := recv_form hr
    have HL := Lib.hid hl
    clear hr hl
    go_wp2
    go_meet
    exact ⟨rfl, Lib.hid (BlkX.new (x := CV.zero) HL.out rfl), Lib.hid ((bstep B1.out k1).alloc (bstep B1.out k1).size _)⟩
  case rest =>
  obtain ⟨w2, rfl⟩ : ∃ x : World, x = wc := ⟨_, rfl⟩
  obtain ⟨rfl, X, B2⟩ := hcut
  obtain ⟨g, t6, t7, t8, t9, t10, t11, t12, t13, t14, rfl, hcs, hls⟩ := X.out
  have C := Lib.hid hcs
  have LZ := Lib.hid hls
  clear hcs hls X B1 zc
  go_upto_region 3 with fail
  go_cut [6, 7] (fun p e wz => e = .int .i64 0 ∧ Hid (BlkX wz p xm) ∧ Hid (Cs g wz [.int .i64 0, .int .i64 0, .int .i64 0, .bool false, .int .i64 0, .bool false, t6, t7, t8, t9, t10, t11, t12, t13, t14, .int .i64 0]) ∧ Hid (LisV wz CV.zero t6 t7 t8 t9 t10 t11 t12 t13 t14) ∧ Hid (Below w.heap.size w wz))
  case first =>
    go_wp2_with fail
    refine (pa_to _ mbs xm 0 _ (TT.out.stays B2.out).1 (TT.out.stays B2.out).2.1 (TT.out.stays B2.out).2.2.1 (TT.out.stays B2.out).2.2.2.1 (by decide) (Lib.hid rfl) (Lib.hid qxm) (Lib.hid pxm)).mono ?_
    rintro e w3 ⟨u, rfl, hr, k1⟩
    obtain ⟨a6, a7, a8, a9, a10, a11, a12, a13, a14, c6, c7, c8, c9, c10, c11, c12, c13, c14, rfl, hl⟩ := recv_form hr
    have HL := Lib.hid hl
    clear hr hl
    go_wp2
    go_meet
    exact ⟨rfl, Lib.hid (BlkX.new (x := xm) HL.out rfl), Lib.hid ((C.out.below k1).alloc _), Lib.hid ((LZ.out.below k1).below ((Below.refl _ _).alloc (Nat.le_refl _) _)), Lib.hid ((bstep B2.out k1).alloc (bstep B2.out k1).size _)⟩
  case rest =>
  obtain ⟨w3, rfl⟩ : ∃ x : World, x = wc := ⟨_, rfl⟩
  obtain ⟨rfl, X, C3, LZ3, B3⟩ := hcut
  obtain ⟨gm, u6, u7, u8, u9, u10, u11, u12, u13, u14, rfl, hcs, hls⟩ := X.out
  have D3 := Lib.hid hcs
  have LM3 := Lib.hid hls
  clear hcs hls X B2 C LZ
  go_upto_region 4 with fail
  go_wp2_with (refine kn_load C3.out rfl (by rfl) (by rfl) (by rfl) ?_; intro K hK; go_simp)
  refine (Rcv.krec_to t6 t7 t8 t9 t10 t11 t12 t13 t14 (.slice none 0 0) (.slice none 0 0) (.slice none 0 0) (.slice none 0 0) (.slice none 0 0) (.slice none 0 0) (.slice none 0 0) (.slice none 0 0) (.slice none 0 0) CV.zero CV.zero _ LZ3.out (lis_zero _) sml_zero sml_zero).mono ?_
  rintro e w4 ⟨b, rfl, hb, k4⟩
  obtain rfl : b = true := hb.2 rfl
  have D4 := Lib.hid (D3.out.below k4)
  have LM4 := Lib.hid (LM3.out.below k4)
  have B4 := Lib.hid (bstep B3.out k4)
  clear hb k4 D3 LM3 B3 C3 LZ3
  obtain ⟨bd, od, cd, hse, hbd, kd⟩ := LM4.out.h9.form (by decide)
  subst hse
  have d1 : w4.cell? ⟨bd, od + 2, Option.none⟩ = some (.int .i64 (-1)) := (kd 1 (by decide)).1
  have d2 : w4.cell? ⟨bd, od + 2 + 1, Option.none⟩ = some (.int .i64 5) := (kd 1 (by decide)).2
  have d3 : w4.cell? ⟨bd, od + 3, Option.none⟩ = some (.int .i64 5) := (kd 1 (by decide)).2
  have l9 := (D4.out.2 9 _ rfl).1
  have l10 := (D4.out.2 10 _ rfl).1
  have xl : xm.dy.length = 2 := rfl
  rw [xl] at l9
  clear kd xl
  go_wp2_with fail
  refine (Rcv.ints_b _ _ [-1, 7] [-1, 7] _ (LM4.out.h10.below ((Below.refl _ _).alloc (Nat.le_refl _) _)) (int_two (Cs.new _ _ _)) (by decide) (by decide) true (Lib.hid rfl)).mono ?_
  rintro e w5 ⟨rfl, k5⟩
  have B5 := Lib.hid (bstep (B4.out.alloc B4.out.size _) k5)
  clear k5
  go_wp2_with fail
  refine (wakes21_any _ (TT.out.stays B5.out)).mono ?_
  rintro e w6 ⟨rfl, k6⟩
  go_wp2
  go_ret
  exact ⟨rfl, bstep B5.out k6⟩
end Rct
end Go.Proofs.YtfdamkiocefgmaaDoor
