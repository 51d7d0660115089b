/-
  RecurBad: texts that are none. (Written by gen/gen_rcba.py.)
-/
import Derived.Test.YtbeefhmnoihmcaaGreatDoorRcwL
import Derived.Test.YtbeefhmnoihmcaaGreatDoorRcvB
namespace Go.Proofs.YtbeefhmnoihmcaaGreatDoor
open Go.RowKit
namespace Rct
open Cel
open Rcp
open Spc
open Rcv (CV IntV DayV LisV RecV)
open Rck (ckE Small)
open Civ (Ahead)
def badL : List (List UInt8) := [[], [66, 89, 77, 79, 78, 84, 72, 61, 51], [70, 82, 69, 81, 61, 68, 65, 73, 76, 89, 59, 70, 82, 69, 81, 61, 68, 65, 73, 76, 89], [70, 82, 69, 81, 61, 68, 65, 73, 76, 89, 59, 66, 89, 77, 79, 78, 84, 72, 61], [70, 82, 69, 81, 61, 68, 65, 73, 76, 89, 59, 73, 78, 84, 69, 82, 86, 65, 76, 61, 48, 48, 48, 48, 48, 48, 49], [70, 82, 69, 81, 61, 68, 65, 73, 76, 89, 59, 88, 61, 49], [70, 82, 69, 81, 61, 68, 65, 73, 76, 89, 59, 66, 89, 77, 79, 78, 84, 72, 61, 43, 51], [70, 82, 69, 81, 61, 68, 65, 73, 76, 89, 59, 67, 79, 85, 78, 84, 61, 48], [70, 82, 69, 81, 61, 68, 65, 73, 76, 89, 59, 66, 89, 68, 65, 89, 61, 48, 77, 79], [70, 82, 69, 81, 61, 68, 65, 73, 76, 89, 59, 66, 89, 68, 65, 89, 61, 88, 88], [70, 82, 69, 81, 61, 68, 65, 73, 76, 89, 59], [70, 82, 69, 81, 61, 68, 65, 73, 76, 89, 59, 85, 78, 84, 73, 76, 61, 49, 57, 55, 48, 48, 49, 48, 49], [70, 82, 69, 81, 61, 59, 67, 79, 85, 78, 84, 61, 49], [70, 82, 69, 81, 61, 68, 65, 73, 76, 89, 59, 66, 89, 77, 79, 78, 84, 72, 68, 65, 89, 61, 49, 44, 49], [70, 82, 69, 81, 61, 68, 65, 73, 76, 89, 59, 66, 89, 72, 79, 85, 82, 61, 50, 52], [70, 82, 69, 81, 61, 68, 65, 73, 76, 89, 32, 67, 79, 85, 78, 84, 61, 49], [70, 82, 69, 81, 61, 68, 65, 73, 76, 89, 59, 87, 75, 83, 84, 61, 49, 77, 79]]
def mbs : List UInt8 := [70, 82, 69, 81, 61, 77, 79, 78, 84, 72, 76, 89, 59, 66, 89, 68, 65, 89, 61, 43, 50, 109, 111, 44, 45, 49, 70, 114, 59, 66, 89, 77, 79, 78, 84, 72, 68, 65, 89, 61, 45, 48, 49, 44, 43, 48, 55]
def xm : CV := ⟨6, 1, 0, false, 0, false, [], [], [], [(2, 1), (-1, 5)], [-1, 7], [], [], [], [], 1⟩
theorem bad_all (k : Nat) (hk : k < 17) : pxP (badL.getD k []) = (CV.zero, 21) ∧ (badL.getD k []).length ≤ 100 ∧ ∀ q ∈ spG 59 [] (badL.getD k []), q.length ≤ 10000 := by
  have hv : k = 0 ∨ k = 1 ∨ k = 2 ∨ k = 3 ∨ k = 4 ∨ k = 5 ∨ k = 6 ∨ k = 7 ∨ k = 8 ∨ k = 9 ∨ k = 10 ∨ k = 11 ∨ k = 12 ∨ k = 13 ∨ k = 14 ∨ k = 15 ∨ k = 16 := by omega
  rcases hv with rfl | rfl | rfl | rfl | rfl | rfl | rfl | rfl | rfl | rfl | rfl | rfl | rfl | rfl | rfl | rfl | rfl
  all_goals exact ⟨by kernel_rfl, by decide, by decide⟩
theorem pxm : pxP mbs = (xm, 0) := by kernel_rfl
theorem qxm : ∀ q ∈ spG 59 [] mbs, q.length ≤ 10000 := by decide
theorem u17 (x : Int) : ∃ k : Nat, (IntKind.u64.wrap x).tmod 17 = (k : Int) ∧ k < 17 := by
  have h1 := Int.tmod_nonneg 17 (show 0 ≤ IntKind.u64.wrap x by rw [IntKind.wrap_u64]; omega)
  have h2 := Int.tmod_lt_of_pos (IntKind.u64.wrap x) (show (0 : Int) < 17 by omega)
  exact ⟨((IntKind.u64.wrap x).tmod 17).toNat, by omega, by omega⟩
/-- A value that reads as a rule, its lists' slices laid out. -/
theorem recv_form {w : World} {v0 : Value} {x : CV} (h : RecV w v0 x) : ∃ (a6 a7 a8 a9 a10 a11 a12 a13 a14 : Option Addr) (c6 c7 c8 c9 c10 c11 c12 c13 c14 : Nat), v0 = .agg #[.int .i64 x.fq, .int .i64 x.iv, .int .i64 x.ct, .bool x.un, .int .i64 x.ua, .bool x.ut, .slice a6 x.sc.length c6, .slice a7 x.mi.length c7, .slice a8 x.hr.length c8, .slice a9 x.dy.length c9, .slice a10 x.md.length c10, .slice a11 x.yd.length c11, .slice a12 x.wn.length c12, .slice a13 x.mo.length c13, .slice a14 x.sp.length c14, .int .i64 x.wk] ∧ LisV w x (.slice a6 x.sc.length c6) (.slice a7 x.mi.length c7) (.slice a8 x.hr.length c8) (.slice a9 x.dy.length c9) (.slice a10 x.md.length c10) (.slice a11 x.yd.length c11) (.slice a12 x.wn.length c12) (.slice a13 x.mo.length c13) (.slice a14 x.sp.length c14) := by
  obtain ⟨s6, s7, s8, s9, s10, s11, s12, s13, s14, rfl, h⟩ := h
  obtain ⟨a6, c6, rfl⟩ := h.h6.slice
  obtain ⟨a7, c7, rfl⟩ := h.h7.slice
  obtain ⟨a8, c8, rfl⟩ := h.h8.slice
  obtain ⟨a9, c9, rfl⟩ := h.h9.slice
  obtain ⟨a10, c10, rfl⟩ := h.h10.slice
  obtain ⟨a11, c11, rfl⟩ := h.h11.slice
  obtain ⟨a12, c12, rfl⟩ := h.h12.slice
  obtain ⟨a13, c13, rfl⟩ := h.h13.slice
  obtain ⟨a14, c14, rfl⟩ := h.h14.slice
  exact ⟨a6, a7, a8, a9, a10, a11, a12, a13, a14, c6, c7, c8, c9, c10, c11, c12, c13, c14, rfl, h⟩
theorem int_two {w : World} {g : Nat} {n m : Int} (h : Cs g w [.int .i64 n, .int .i64 m]) : IntV w (.slice (some ⟨g, 0, none⟩) 2 2) [n, m] := by
  refine ⟨_, _, _, rfl, rfl, fun j hj => ?_⟩
  have hv : j = 0 ∨ j = 1 := by simp at hj; omega
  rcases hv with rfl | rfl
  · exact ⟨g, 0, rfl, h.1, (h.2 0 _ rfl).1⟩
  · exact ⟨g, 0, rfl, h.1, (h.2 1 _ rfl).1⟩
theorem sml_zero : Rcv.SmlC CV.zero := ⟨by decide, by decide, by decide, by decide, by decide, by decide, by decide, by decide, by decide⟩
theorem lis_zero (w : World) : LisV w CV.zero (.slice none 0 0) (.slice none 0 0) (.slice none 0 0) (.slice none 0 0) (.slice none 0 0) (.slice none 0 0) (.slice none 0 0) (.slice none 0 0) (.slice none 0 0) :=
  ⟨IntV.none _, IntV.none _, IntV.none _, DayV.none _, IntV.none _, IntV.none _, IntV.none _, IntV.none _, IntV.none _⟩
end Rct
end Go.Proofs.YtbeefhmnoihmcaaGreatDoor
