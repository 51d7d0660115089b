/-
  Several texts in one (Rgt, RcbH).
-/
import Derived.Test.YtpbbnkgfheafpaaGreatDoorBdK1
/-
  What is known of a right rule; rules whose lists have at most a thousand.
-/
namespace Go.Proofs.YtpbbnkgfheafpaaGreatDoor
namespace Rct
open Rcv (CV)
open Rck (frB eiB)
theorem ei_fr {m : Int} {L : List Int} (h : eiB m L = true) : frB (-m) m L = true := by
  rw [eiB, Bool.and_eq_true] at h
  exact h.2
/-- Each list of at most a thousand. -/
structure Len3 (x : CV) : Prop where
  sc : x.sc.length ≤ 1000
  mi : x.mi.length ≤ 1000
  hr : x.hr.length ≤ 1000
  dy : x.dy.length ≤ 1000
  md : x.md.length ≤ 1000
  yd : x.yd.length ≤ 1000
  wn : x.wn.length ≤ 1000
  mo : x.mo.length ≤ 1000
  sp : x.sp.length ≤ 1000
end Rct
namespace Rcb
open Rct (ei_fr)
open Rcv (CV)
open Rck (Small ckE ckB frB eiB dyB lsB endB gtB frB_iff dyB_iff)
theorem ck_un {x : CV} (h : ckE x = 0) : ckB x = true := by
  cases hc : ckB x with
  | true => rfl
  | false => rw [ckE, hc] at h; exact absurd h (by decide)
/-- What is known of a right rule. -/
structure Rgt (x : CV) : Prop where
  f1 : 1 ≤ x.fq
  f2 : x.fq ≤ 7
  i1 : 1 ≤ x.iv
  i2 : x.iv ≤ 1000
  c1 : 0 ≤ x.ct
  c2 : x.ct ≤ 100000
  k1 : 0 ≤ x.wk
  k2 : x.wk ≤ 6
  en : endB x.un x.ua x.ut x.ct = true
  sc : ∀ n ∈ x.sc, 0 ≤ n ∧ n ≤ 59
  mi : ∀ n ∈ x.mi, 0 ≤ n ∧ n ≤ 59
  hr : ∀ n ∈ x.hr, 0 ≤ n ∧ n ≤ 23
  mo : ∀ n ∈ x.mo, 1 ≤ n ∧ n ≤ 12
  md : ∀ n ∈ x.md, -31 ≤ n ∧ n ≤ 31
  yd : ∀ n ∈ x.yd, -366 ≤ n ∧ n ≤ 366
  wn : ∀ n ∈ x.wn, -53 ≤ n ∧ n ≤ 53
  sp : ∀ n ∈ x.sp, -366 ≤ n ∧ n ≤ 366
  dy : ∀ d ∈ x.dy, 0 ≤ d.2 ∧ d.2 ≤ 6 ∧ -53 ≤ d.1 ∧ d.1 ≤ 53
theorem Rgt.of {x : CV} (h : ckE x = 0) : Rgt x := by
  have hb := ck_un h
  unfold ckB at hb
  simp only [Bool.and_eq_true, decide_eq_true_eq] at hb
  obtain ⟨f1, f2, i1, i2, c1, c2, k1, k2, en, hls, hdy, _⟩ := hb
  unfold lsB at hls
  simp only [Bool.and_eq_true] at hls
  obtain ⟨⟨⟨⟨⟨⟨⟨hsc, hmi⟩, hhr⟩, hmo⟩, hmd⟩, hyd⟩, hwn⟩, hsp⟩ := hls
  exact ⟨f1, f2, i1, i2, c1, c2, k1, k2, en, (frB_iff.1 hsc).1, (frB_iff.1 hmi).1, (frB_iff.1 hhr).1, (frB_iff.1 hmo).1, (frB_iff.1 (ei_fr hmd)).1, (frB_iff.1 (ei_fr hyd)).1, (frB_iff.1 (ei_fr hwn)).1, (frB_iff.1 (ei_fr hsp)).1, (dyB_iff.1 hdy).1⟩
end Rcb
end Go.Proofs.YtpbbnkgfheafpaaGreatDoor
/-
  RecurBack: what is more than is played. (Written by gen/gen_rcbb.py.)
-/
namespace Go.Proofs.YtpbbnkgfheafpaaGreatDoor
open Go.RowKit
namespace Rct
open Cel
open Rcv (CV IntV DayV LisV RecV)
open Rck (ckE Small)
open Civ (Ahead)
end Rct
end Go.Proofs.YtpbbnkgfheafpaaGreatDoor
