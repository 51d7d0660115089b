/-
  recur.listsAreRight: the lists of all numbers of a rule. (Written by gen/gen_rckc.py.)
-/
import Derived.Test.YtfdamkiocefgmaaDoorRckB
namespace Go.Proofs.YtfdamkiocefgmaaDoor
open Go.RowKit
namespace Rck
open Cel
open Rcv (CV IntV DayV LisV RecV)
/-- No list is of a size that no one hands in. -/
structure Small (x : CV) : Prop where
  sc : x.sc.length ≤ 1000000
  mi : x.mi.length ≤ 1000000
  hr : x.hr.length ≤ 1000000
  dy : x.dy.length ≤ 1000000
  md : x.md.length ≤ 1000000
  yd : x.yd.length ≤ 1000000
  wn : x.wn.length ≤ 1000000
  mo : x.mo.length ≤ 1000000
  sp : x.sp.length ≤ 1000000
set_option maxHeartbeats 6400000 in
set_option maxRecDepth 100000 in
theorem ls_to (s6 s7 s8 s9 s10 s11 s12 s13 s14 : Value) (x : CV) (r : Bool) (w : World) (hl : Hid (LisV w x s6 s7 s8 s9 s10 s11 s12 s13 s14)) (hs : Hid (Small x)) (hr : Hid (lsB x = r)) :
    Calls Tryd.prog 24 #[.agg #[.int .i64 x.fq, .int .i64 x.iv, .int .i64 x.ct, .bool x.un, .int .i64 x.ua, .bool x.ut, s6, s7, s8, s9, s10, s11, s12, s13, s14, .int .i64 x.wk]] w fun e w' => e = .returned (.bool r) ∧ Below w.heap.size w w' := by
  obtain ⟨r0, h0⟩ : ∃ b, frB 0 59 x.sc = b := ⟨_, rfl⟩
  have H0 := Lib.hid h0
  obtain ⟨r1, h1⟩ : ∃ b, frB 0 59 x.mi = b := ⟨_, rfl⟩
  have H1 := Lib.hid h1
  obtain ⟨r2, h2⟩ : ∃ b, frB 0 23 x.hr = b := ⟨_, rfl⟩
  have H2 := Lib.hid h2
  obtain ⟨r3, h3⟩ : ∃ b, frB 1 12 x.mo = b := ⟨_, rfl⟩
  have H3 := Lib.hid h3
  obtain ⟨r4, h4⟩ : ∃ b, eiB 31 x.md = b := ⟨_, rfl⟩
  have H4 := Lib.hid h4
  obtain ⟨r5, h5⟩ : ∃ b, eiB 366 x.yd = b := ⟨_, rfl⟩
  have H5 := Lib.hid h5
  obtain ⟨r6, h6⟩ : ∃ b, eiB 53 x.wn = b := ⟨_, rfl⟩
  have H6 := Lib.hid h6
  obtain ⟨r7, h7⟩ : ∃ b, eiB 366 x.sp = b := ⟨_, rfl⟩
  have H7 := Lib.hid h7
  have HR : Hid ((r0 && r1 && r2 && r3 && r4 && r5 && r6 && r7) = r) := Lib.hid (by have := hr.out; unfold lsB at this; rw [h0, h1, h2, h3, h4, h5, h6, h7] at this; exact this)
  clear hr h0 h1 h2 h3 h4 h5 h6 h7
  go_enter Tryd.func24, Tryd.ntmps24
  go_upto_region 0 with fail
  go_cut [1] (fun p w0 => p = .pointer (some ⟨w.heap.size, 0, none⟩) ∧ Hid (Cs w.heap.size w0 [.int .i64 x.fq, .int .i64 x.iv, .int .i64 x.ct, .bool x.un, .int .i64 x.ua, .bool x.ut, s6, s7, s8, s9, s10, s11, s12, s13, s14, .int .i64 x.wk]) ∧ Hid (Below w.heap.size w w0))
  case first =>
    go_wp2
    go_meet
    exact ⟨rfl, Lib.hid (Cs.new w _ _), Lib.hid ((Below.refl _ _).alloc (Nat.le_refl _) _)⟩
  case rest =>
  obtain ⟨w0, rfl⟩ : ∃ x : World, x = wc := ⟨_, rfl⟩
  obtain ⟨rfl, D, B⟩ := hcut
  have LS := Lib.hid (hl.out.below B.out)
  clear hl
  have c0 := (D.out.2 6 _ rfl).1
  go_wp2_with fail
  refine (frm_to _ x.sc 0 59 r0 _ LS.out.h6 hs.out.sc (by decide) (by decide) H0).mono ?_
  rintro e w1 ⟨rfl, k1⟩
  have D := Lib.hid (D.out.below k1)
  have LS := Lib.hid (LS.out.below k1)
  have B := Lib.hid (bstep B.out k1)
  clear c0 k1
  cases r0 with
  | false =>
    have hF : r = false := by have := HR.out; simpa using this.symm
    subst hF
    go_wp2
    go_ret
    exact ⟨rfl, B.out⟩
  | true =>
  have c1 := (D.out.2 7 _ rfl).1
  go_wp2_with fail
  refine (frm_to _ x.mi 0 59 r1 _ LS.out.h7 hs.out.mi (by decide) (by decide) H1).mono ?_
  rintro e w2 ⟨rfl, k2⟩
  have D := Lib.hid (D.out.below k2)
  have LS := Lib.hid (LS.out.below k2)
  have B := Lib.hid (bstep B.out k2)
  clear c1 k2
  cases r1 with
  | false =>
    have hF : r = false := by have := HR.out; simpa using this.symm
    subst hF
    go_wp2
    go_ret
    exact ⟨rfl, B.out⟩
  | true =>
  have c2 := (D.out.2 8 _ rfl).1
  go_wp2_with fail
  refine (frm_to _ x.hr 0 23 r2 _ LS.out.h8 hs.out.hr (by decide) (by decide) H2).mono ?_
  rintro e w3 ⟨rfl, k3⟩
  have D := Lib.hid (D.out.below k3)
  have LS := Lib.hid (LS.out.below k3)
  have B := Lib.hid (bstep B.out k3)
  clear c2 k3
  cases r2 with
  | false =>
    have hF : r = false := by have := HR.out; simpa using this.symm
    subst hF
    go_wp2
    go_ret
    exact ⟨rfl, B.out⟩
  | true =>
  have c3 := (D.out.2 13 _ rfl).1
  go_wp2_with fail
  refine (frm_to _ x.mo 1 12 r3 _ LS.out.h13 hs.out.mo (by decide) (by decide) H3).mono ?_
  rintro e w4 ⟨rfl, k4⟩
  have D := Lib.hid (D.out.below k4)
  have LS := Lib.hid (LS.out.below k4)
  have B := Lib.hid (bstep B.out k4)
  clear c3 k4
  cases r3 with
  | false =>
    have hF : r = false := by have := HR.out; simpa using this.symm
    subst hF
    go_wp2
    go_ret
    exact ⟨rfl, B.out⟩
  | true =>
  have c4 := (D.out.2 10 _ rfl).1
  go_wp2_with fail
  refine (ew_to _ x.md 31 r4 _ LS.out.h10 hs.out.md (by decide) H4).mono ?_
  rintro e w5 ⟨rfl, k5⟩
  have D := Lib.hid (D.out.below k5)
  have LS := Lib.hid (LS.out.below k5)
  have B := Lib.hid (bstep B.out k5)
  clear c4 k5
  cases r4 with
  | false =>
    have hF : r = false := by have := HR.out; simpa using this.symm
    subst hF
    go_wp2
    go_ret
    exact ⟨rfl, B.out⟩
  | true =>
  have c5 := (D.out.2 11 _ rfl).1
  go_wp2_with fail
  refine (ew_to _ x.yd 366 r5 _ LS.out.h11 hs.out.yd (by decide) H5).mono ?_
  rintro e w6 ⟨rfl, k6⟩
  have D := Lib.hid (D.out.below k6)
  have LS := Lib.hid (LS.out.below k6)
  have B := Lib.hid (bstep B.out k6)
  clear c5 k6
  cases r5 with
  | false =>
    have hF : r = false := by have := HR.out; simpa using this.symm
    subst hF
    go_wp2
    go_ret
    exact ⟨rfl, B.out⟩
  | true =>
  have c6 := (D.out.2 12 _ rfl).1
  go_wp2_with fail
  refine (ew_to _ x.wn 53 r6 _ LS.out.h12 hs.out.wn (by decide) H6).mono ?_
  rintro e w7 ⟨rfl, k7⟩
  have D := Lib.hid (D.out.below k7)
  have LS := Lib.hid (LS.out.below k7)
  have B := Lib.hid (bstep B.out k7)
  clear c6 k7
  cases r6 with
  | false =>
    have hF : r = false := by have := HR.out; simpa using this.symm
    subst hF
    go_wp2
    go_ret
    exact ⟨rfl, B.out⟩
  | true =>
  have c7 := (D.out.2 14 _ rfl).1
  go_wp2_with fail
  refine (ew_to _ x.sp 366 r7 _ LS.out.h14 hs.out.sp (by decide) H7).mono ?_
  rintro e w8 ⟨rfl, k8⟩
  have D := Lib.hid (D.out.below k8)
  have LS := Lib.hid (LS.out.below k8)
  have B := Lib.hid (bstep B.out k8)
  clear c7 k8
  have hF : r = r7 := by have := HR.out; simpa using this.symm
  subst hF
  go_wp2
  go_ret
  exact ⟨rfl, B.out⟩
end Rck
end Go.Proofs.YtfdamkiocefgmaaDoor
