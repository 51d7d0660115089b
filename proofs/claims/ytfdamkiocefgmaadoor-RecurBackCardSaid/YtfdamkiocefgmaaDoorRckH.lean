/-
  recur.Check: whether a rule is right. (Written by gen/gen_rckh.py.)
-/
import Derived.Test.YtfdamkiocefgmaaDoorRckD
import Derived.Test.YtfdamkiocefgmaaDoorRckE
import Derived.Test.YtfdamkiocefgmaaDoorRckG
namespace Go.Proofs.YtfdamkiocefgmaaDoor
open Go.RowKit
namespace Rck
open Cel
open Rcv (CV IntV DayV LisV RecV)
open Civ (Ahead dY dM dD dnE)
/-- Whether a rule is right. -/
def ckB (x : CV) : Bool := decide (1 ≤ x.fq) && (decide (x.fq ≤ 7) && (decide (1 ≤ x.iv) && (decide (x.iv ≤ 1000) && (decide (0 ≤ x.ct) && (decide (x.ct ≤ 100000) && (decide (0 ≤ x.wk) && (decide (x.wk ≤ 6) && (endB x.un x.ua x.ut x.ct && (lsB x && (dyB x.dy && gtB x))))))))))
def ckE (x : CV) : Int := if ckB x = true then 0 else 21
set_option maxHeartbeats 12800000 in
set_option maxRecDepth 100000 in
theorem ck_to (s6 s7 s8 s9 s10 s11 s12 s13 s14 : Value) (x : CV) (c : Int) (w : World) (hA : Ahead w) (hu1 : -9223372036854775808 ≤ x.ua) (hu2 : x.ua ≤ 9223372036854775807) (hl : Hid (LisV w x s6 s7 s8 s9 s10 s11 s12 s13 s14)) (hs : Hid (Small x)) (hr : Hid (ckE x = c)) :
    Calls Tryd.prog 11 #[.agg #[.int .i64 x.fq, .int .i64 x.iv, .int .i64 x.ct, .bool x.un, .int .i64 x.ua, .bool x.ut, s6, s7, s8, s9, s10, s11, s12, s13, s14, .int .i64 x.wk]] w fun e w' => e = .returned (.int .i64 c) ∧ Below w.heap.size w w' := by
  have HA := Lib.hid hA
  clear hA
  obtain ⟨r, hb⟩ : ∃ r, ckB x = r := ⟨_, rfl⟩
  have HC : Hid (c = if r = true then 0 else 21) := Lib.hid (by rw [← hr.out, ckE, hb])
  have HR := Lib.hid (by have q := hb; unfold ckB at q; exact q)
  clear hr hb
  go_enter Tryd.func11, Tryd.ntmps11
  go_upto_region 0 with fail
  go_cut [1] (fun p w0 => p = .pointer (some ⟨w.heap.size, 0, none⟩) ∧ Hid (Cs w.heap.size w0 [.int .i64 x.fq, .int .i64 x.iv, .int .i64 x.ct, .bool x.un, .int .i64 x.ua, .bool x.ut, s6, s7, s8, s9, s10, s11, s12, s13, s14, .int .i64 x.wk]) ∧ Hid (Below w.heap.size w w0))
  case first =>
    go_wp2
    go_meet
    exact ⟨rfl, Lib.hid (Cs.new w _ _), Lib.hid ((Below.refl _ _).alloc (Nat.le_refl _) _)⟩
  case rest =>
  obtain ⟨w0, rfl⟩ : ∃ x : World, x = wc := ⟨_, rfl⟩
  obtain ⟨rfl, C, B⟩ := hcut
  have LS := Lib.hid (hl.out.below B.out)
  have HA0 := Lib.hid (HA.out.stays B.out)
  clear hl HA
  go_upto_region 1 with fail
  go_cut [3] (fun b w1 => b = .bool r ∧ Hid (Below w.heap.size w w1))
  case first =>
    have l0 := (C.out.2 0 _ rfl).1
    have l1 := (C.out.2 1 _ rfl).1
    have l2 := (C.out.2 2 _ rfl).1
    have l3 := (C.out.2 3 _ rfl).1
    have l4 := (C.out.2 4 _ rfl).1
    have l5 := (C.out.2 5 _ rfl).1
    have l6 := (C.out.2 6 _ rfl).1
    have l7 := (C.out.2 7 _ rfl).1
    have l8 := (C.out.2 8 _ rfl).1
    have l9 := (C.out.2 9 _ rfl).1
    have l10 := (C.out.2 10 _ rfl).1
    have l11 := (C.out.2 11 _ rfl).1
    have l12 := (C.out.2 12 _ rfl).1
    have l13 := (C.out.2 13 _ rfl).1
    have l14 := (C.out.2 14 _ rfl).1
    have l15 := (C.out.2 15 _ rfl).1
    by_cases t0 : 1 ≤ x.fq
    case neg =>
      have e : r = false := by rw [← HR.out, decide_eq_false t0, Bool.false_and]
      subst e
      clear HR
      go_wp2
      go_meet
      exact ⟨rfl, B⟩
    have HR := Lib.hid (by have q := HR.out; rw [decide_eq_true t0, Bool.true_and] at q; exact q)
    by_cases t1 : x.fq ≤ 7
    case neg =>
      have e : r = false := by rw [← HR.out, decide_eq_false t1, Bool.false_and]
      subst e
      clear HR
      go_wp2
      go_meet
      exact ⟨rfl, B⟩
    have HR := Lib.hid (by have q := HR.out; rw [decide_eq_true t1, Bool.true_and] at q; exact q)
    by_cases t2 : 1 ≤ x.iv
    case neg =>
      have e : r = false := by rw [← HR.out, decide_eq_false t2, Bool.false_and]
      subst e
      clear HR
      go_wp2
      go_meet
      exact ⟨rfl, B⟩
    have HR := Lib.hid (by have q := HR.out; rw [decide_eq_true t2, Bool.true_and] at q; exact q)
    by_cases t3 : x.iv ≤ 1000
    case neg =>
      have e : r = false := by rw [← HR.out, decide_eq_false t3, Bool.false_and]
      subst e
      clear HR
      go_wp2
      go_meet
      exact ⟨rfl, B⟩
    have HR := Lib.hid (by have q := HR.out; rw [decide_eq_true t3, Bool.true_and] at q; exact q)
    by_cases t4 : 0 ≤ x.ct
    case neg =>
      have e : r = false := by rw [← HR.out, decide_eq_false t4, Bool.false_and]
      subst e
      clear HR
      go_wp2
      go_meet
      exact ⟨rfl, B⟩
    have HR := Lib.hid (by have q := HR.out; rw [decide_eq_true t4, Bool.true_and] at q; exact q)
    by_cases t5 : x.ct ≤ 100000
    case neg =>
      have e : r = false := by rw [← HR.out, decide_eq_false t5, Bool.false_and]
      subst e
      clear HR
      go_wp2
      go_meet
      exact ⟨rfl, B⟩
    have HR := Lib.hid (by have q := HR.out; rw [decide_eq_true t5, Bool.true_and] at q; exact q)
    by_cases t6 : 0 ≤ x.wk
    case neg =>
      have e : r = false := by rw [← HR.out, decide_eq_false t6, Bool.false_and]
      subst e
      clear HR
      go_wp2
      go_meet
      exact ⟨rfl, B⟩
    have HR := Lib.hid (by have q := HR.out; rw [decide_eq_true t6, Bool.true_and] at q; exact q)
    by_cases t7 : x.wk ≤ 6
    case neg =>
      have e : r = false := by rw [← HR.out, decide_eq_false t7, Bool.false_and]
      subst e
      clear HR
      go_wp2
      go_meet
      exact ⟨rfl, B⟩
    have HR := Lib.hid (by have q := HR.out; rw [decide_eq_true t7, Bool.true_and] at q; exact q)
    obtain ⟨b0, h0⟩ : ∃ b, endB x.un x.ua x.ut x.ct = b := ⟨_, rfl⟩
    have HR := Lib.hid (by have q := HR.out; rw [h0] at q; exact q)
    have H0 := Lib.hid h0
    clear h0
    go_wp2_with fail
    refine (en_to x.fq x.iv x.ua x.ct x.un x.ut b0 s6 s7 s8 s9 s10 s11 s12 s13 s14 (.int .i64 x.wk) _ HA0.out hu1 hu2 H0).mono ?_
    rintro e w1 ⟨rfl, k1⟩
    have C := Lib.hid (C.out.below k1)
    have LS := Lib.hid (LS.out.below k1)
    have B := Lib.hid (bstep B.out k1)
    clear l0 l1 l2 l3 l4 l5 l6 l7 l8 l9 l10 l11 l12 l13 l14 l15 k1
    cases b0 with
    | false =>
      have e : r = false := by rw [← HR.out, Bool.false_and]
      subst e
      clear HR
      go_wp2
      go_meet
      exact ⟨rfl, B⟩
    | true =>
    have HR := Lib.hid (by have q := HR.out; rw [Bool.true_and] at q; exact q)
    have l0 := (C.out.2 0 _ rfl).1
    have l1 := (C.out.2 1 _ rfl).1
    have l2 := (C.out.2 2 _ rfl).1
    have l3 := (C.out.2 3 _ rfl).1
    have l4 := (C.out.2 4 _ rfl).1
    have l5 := (C.out.2 5 _ rfl).1
    have l6 := (C.out.2 6 _ rfl).1
    have l7 := (C.out.2 7 _ rfl).1
    have l8 := (C.out.2 8 _ rfl).1
    have l9 := (C.out.2 9 _ rfl).1
    have l10 := (C.out.2 10 _ rfl).1
    have l11 := (C.out.2 11 _ rfl).1
    have l12 := (C.out.2 12 _ rfl).1
    have l13 := (C.out.2 13 _ rfl).1
    have l14 := (C.out.2 14 _ rfl).1
    have l15 := (C.out.2 15 _ rfl).1
    obtain ⟨b1, h1⟩ : ∃ b, lsB x = b := ⟨_, rfl⟩
    have HR := Lib.hid (by have q := HR.out; rw [h1] at q; exact q)
    have H1 := Lib.hid h1
    clear h1
    go_wp2_with fail
    refine (ls_to s6 s7 s8 s9 s10 s11 s12 s13 s14 x b1 _ LS hs H1).mono ?_
    rintro e w2 ⟨rfl, k2⟩
    have C := Lib.hid (C.out.below k2)
    have LS := Lib.hid (LS.out.below k2)
    have B := Lib.hid (bstep B.out k2)
    clear l0 l1 l2 l3 l4 l5 l6 l7 l8 l9 l10 l11 l12 l13 l14 l15 k2
    cases b1 with
    | false =>
      have e : r = false := by rw [← HR.out, Bool.false_and]
      subst e
      clear HR
      go_wp2
      go_meet
      exact ⟨rfl, B⟩
    | true =>
    have HR := Lib.hid (by have q := HR.out; rw [Bool.true_and] at q; exact q)
    have l0 := (C.out.2 0 _ rfl).1
    have l1 := (C.out.2 1 _ rfl).1
    have l2 := (C.out.2 2 _ rfl).1
    have l3 := (C.out.2 3 _ rfl).1
    have l4 := (C.out.2 4 _ rfl).1
    have l5 := (C.out.2 5 _ rfl).1
    have l6 := (C.out.2 6 _ rfl).1
    have l7 := (C.out.2 7 _ rfl).1
    have l8 := (C.out.2 8 _ rfl).1
    have l9 := (C.out.2 9 _ rfl).1
    have l10 := (C.out.2 10 _ rfl).1
    have l11 := (C.out.2 11 _ rfl).1
    have l12 := (C.out.2 12 _ rfl).1
    have l13 := (C.out.2 13 _ rfl).1
    have l14 := (C.out.2 14 _ rfl).1
    have l15 := (C.out.2 15 _ rfl).1
    obtain ⟨b2, h2⟩ : ∃ b, dyB x.dy = b := ⟨_, rfl⟩
    have HR := Lib.hid (by have q := HR.out; rw [h2] at q; exact q)
    have H2 := Lib.hid h2
    clear h2
    go_wp2_with fail
    refine (dy_to _ x.dy b2 _ LS.out.h9 hs.out.dy H2).mono ?_
    rintro e w3 ⟨rfl, k3⟩
    have C := Lib.hid (C.out.below k3)
    have LS := Lib.hid (LS.out.below k3)
    have B := Lib.hid (bstep B.out k3)
    clear l0 l1 l2 l3 l4 l5 l6 l7 l8 l9 l10 l11 l12 l13 l14 l15 k3
    cases b2 with
    | false =>
      have e : r = false := by rw [← HR.out, Bool.false_and]
      subst e
      clear HR
      go_wp2
      go_meet
      exact ⟨rfl, B⟩
    | true =>
    have HR := Lib.hid (by have q := HR.out; rw [Bool.true_and] at q; exact q)
    have l0 := (C.out.2 0 _ rfl).1
    have l1 := (C.out.2 1 _ rfl).1
    have l2 := (C.out.2 2 _ rfl).1
    have l3 := (C.out.2 3 _ rfl).1
    have l4 := (C.out.2 4 _ rfl).1
    have l5 := (C.out.2 5 _ rfl).1
    have l6 := (C.out.2 6 _ rfl).1
    have l7 := (C.out.2 7 _ rfl).1
    have l8 := (C.out.2 8 _ rfl).1
    have l9 := (C.out.2 9 _ rfl).1
    have l10 := (C.out.2 10 _ rfl).1
    have l11 := (C.out.2 11 _ rfl).1
    have l12 := (C.out.2 12 _ rfl).1
    have l13 := (C.out.2 13 _ rfl).1
    have l14 := (C.out.2 14 _ rfl).1
    have l15 := (C.out.2 15 _ rfl).1
    go_wp2_with fail
    refine (gt_to s6 s7 s8 s9 s10 s11 s12 s13 s14 x r _ LS hs HR).mono ?_
    rintro e w4 ⟨rfl, k4⟩
    have C := Lib.hid (C.out.below k4)
    have LS := Lib.hid (LS.out.below k4)
    have B := Lib.hid (bstep B.out k4)
    clear l0 l1 l2 l3 l4 l5 l6 l7 l8 l9 l10 l11 l12 l13 l14 l15 k4
    go_wp2
    go_meet
    exact ⟨rfl, B⟩
  case rest =>
  obtain ⟨w1, rfl⟩ : ∃ x : World, x = wc := ⟨_, rfl⟩
  obtain ⟨rfl, B1⟩ := hcut
  cases r with
  | false =>
    have hc : c = 21 := by rw [HC.out]; rfl
    subst hc
    go_wp2
    go_ret
    exact ⟨rfl, B1.out⟩
  | true =>
    have hc : c = 0 := by rw [HC.out]; rfl
    subst hc
    go_wp2
    go_ret
    exact ⟨rfl, B1.out⟩
end Rck
end Go.Proofs.YtfdamkiocefgmaaDoor
