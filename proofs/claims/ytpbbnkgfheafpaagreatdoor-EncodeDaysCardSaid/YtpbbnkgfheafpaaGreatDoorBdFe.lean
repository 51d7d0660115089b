/-
  Several texts in one (FilAA, FilAC, FilAD, FilAE).
-/
import Derived.Test.YtpbbnkgfheafpaaGreatDoorBdFn
import Derived.Test.YtpbbnkgfheafpaaGreatDoorBdRg
import Derived.Test.YtpbbnkgfheafpaaGreatDoorBdFf
/-
  Plain words: the so-many-th weekday, by its place from the beginning and from the end.
-/
namespace Go.Proofs.YtpbbnkgfheafpaaGreatDoor
open Go.RowKit
namespace Fil
open Rcv (CV)
open Civ (dY dM dD ydV)
open Wk (nthB nthV)
/-- A day's place among those of its weekday, from the beginning and from the end, of its month or its year. -/
def plF (x : CV) (d : Int) : Int := if mthB x = true then (dD d - 1) / 7 + 1 else (ydV d - 1) / 7 + 1
def plB (x : CV) (d : Int) : Int := if mthB x = true then (Cal.mlen (dY d) (dM d) - dD d) / 7 + 1 else (ylen (dY d) - ydV d) / 7 + 1
theorem from_all {x : CV} {d : Int} (hd : -719162 ≤ d ∧ d < 2932897) : fromV x d ≤ d ∧ d ≤ behV x d - 1 ∧ (d - fromV x d) / 7 + 1 = plF x d ∧ (behV x d - 1 - d) / 7 + 1 = plB x d := by
  obtain ⟨Y, M, D, h1, h2, h3, y, mm, dd, e, a, b⟩ := dy_bounds hd
  have yd : ydV d = d - Cal.ny Y + 1 := by
    have e' : -719528 ≤ d ∧ d ≤ 2933262 := by omega
    rw [dY, if_pos e'] at h1
    rw [ydV, if_pos e', h1]
  have yl : ylen Y = 365 + Cal.lp Y := by
    rw [ylen, Cal.lp]
    by_cases c : Cal.long Y = true
    · rw [if_pos c, if_pos c]; rfl
    · rw [if_neg c, if_neg c]; rfl
  have s := Cal.ny_succ Y
  rw [fromV, behV, plF, plB, h1, h2, h3, yd, yl]
  by_cases c : mthB x = true
  · rw [if_pos c, if_pos c, if_pos c, if_pos c, mf_at (by omega) mm, mf_next (by omega) mm]
    refine ⟨by omega, by omega, ?_, ?_⟩
    · rw [show d - (Cal.ny Y + Cal.cum Y M) = D - 1 by omega]
    · rw [show Cal.ny Y + Cal.cum Y M + Cal.mlen Y M - 1 - d = Cal.mlen Y M - D by omega]
  · rw [if_neg c, if_neg c, if_neg c, if_neg c, yf_at (by omega), yf_at (by omega)]
    refine ⟨by omega, by omega, ?_, ?_⟩
    · omega
    · omega
theorem nth_place {x : CV} {d n k : Int} (hd : -719162 ≤ d ∧ d < 2932897) (hk : 0 ≤ k ∧ k ≤ 6) (hn : n ≠ 0 ∧ -53 ≤ n ∧ n ≤ 53) (hw : Cal.wday d = k) : nthIs x d (n, k) = (decide (n = plF x d) || decide (n = -plB x d)) := by
  obtain ⟨f1, f2, f3, f4⟩ := from_all (x := x) hd
  rw [nthIs]
  show (nthB (fromV x d) (behV x d - 1) n k && decide (nthV (fromV x d) (behV x d - 1) n k = d)) = _
  have g : 1 ≤ plF x d ∧ 1 ≤ plB x d := by omega
  by_cases c : 0 < n
  · rw [nth_fore hk (by omega) f1 f2 hw, f3, decide_eq_false (show ¬ n = -plB x d by omega), Bool.or_false]
    exact decide_eq_decide.2 eq_comm
  · obtain ⟨m, hm⟩ : ∃ m, n = -m := ⟨-n, by omega⟩
    subst hm
    rw [nth_back hk (by omega) f1 f2 hw, f4, decide_eq_false (show ¬ -m = plF x d by omega), Bool.false_or]
    exact decide_eq_decide.2 (by omega)
end Fil
end Go.Proofs.YtpbbnkgfheafpaaGreatDoor
/-
  Plain words: what the reference lets of a day is what the program lets.
-/
namespace Go.Proofs.YtpbbnkgfheafpaaGreatDoor
open Go.RowKit
namespace Fil
open Rcv (CV)
open Rck (ckB ckE)
open Civ (dY dM dD ydV)
/-- A weekday of a rule, by the places. -/
def rdayB (x : CV) (d : Int) (q : Int × Int) : Bool := decide (q.2 = Cal.wday d) && (decide (q.1 = 0) || (decide (q.1 = plF x d) || decide (q.1 = -plB x d)))
theorem rday_is {x : CV} {d : Int} (hc : ckB x = true) (hd : -719162 ≤ d ∧ d < 2932897) : x.dy.any (rdayB x d) = x.dy.any (dayB x d) := by
  have R := Rcb.Rgt.of (x := x) (by rw [ckE, if_pos hc])
  have e : ∀ q ∈ x.dy, rdayB x d q = dayB x d q := fun q hq => by
    have b := R.dy q hq
    rw [rdayB, dayB]
    by_cases hw : q.2 = Cal.wday d
    · by_cases h0 : q.1 = 0
      · simp [h0]
      · have n := nth_place (x := x) (n := q.1) (k := q.2) hd ⟨b.1, b.2.1⟩ ⟨h0, b.2.2.1, b.2.2.2⟩ hw.symm
        rw [show q = (q.1, q.2) from rfl, n]
    · rw [decide_eq_false hw, Bool.false_and, Bool.false_and]
  rw [Bool.eq_iff_iff, List.any_eq_true, List.any_eq_true]
  constructor
  · rintro ⟨q, hq, h⟩
    exact ⟨q, hq, by rw [← e q hq]; exact h⟩
  · rintro ⟨q, hq, h⟩
    exact ⟨q, hq, by rw [e q hq]; exact h⟩
/-- What is left of a day when the lists of months, weeks and numbers have let it. -/
def rlastB (x : CV) (c d : Int) : Bool := if x.dy ≠ [] then x.dy.any (rdayB x d) else if x.yd ≠ [] ∨ x.md ≠ [] then true else if x.wn ≠ [] ∨ x.fq = 5 then decide (Cal.wday d = Cal.wday c) else if x.fq = 6 ∨ x.fq = 7 then decide (dD d = dD c) && (decide (x.fq = 6) || (decide (x.mo ≠ []) || decide (dM d = dM c))) else true
theorem rlast_is {x : CV} {c d : Int} (hc : ckB x = true) (hd : -719162 ≤ d ∧ d < 2932897) : rlastB x c d = (ldB x d && llB x c d) := by
  rw [rlastB, ldB, llB]
  by_cases h1 : x.dy = []
  · rw [if_neg (not_not_intro h1), decide_eq_true h1, Bool.true_or, Bool.true_and]
    by_cases h2 : x.yd ≠ [] ∨ x.md ≠ []
    · rw [if_pos h2, if_pos (show x.yd ≠ [] ∨ x.md ≠ [] ∨ x.dy ≠ [] from h2.elim Or.inl (fun h => Or.inr (Or.inl h)))]
    · rw [if_neg h2, if_neg (show ¬ (x.yd ≠ [] ∨ x.md ≠ [] ∨ x.dy ≠ []) from fun q => q.elim (fun h => h2 (Or.inl h)) (fun q => q.elim (fun h => h2 (Or.inr h)) (fun h => h h1)))]
      by_cases h3 : x.wn ≠ [] ∨ x.fq = 5
      · rw [if_pos h3, if_pos h3]
      · rw [if_neg h3, if_neg h3]
        by_cases h6 : x.fq = 6
        · have h7 : x.fq ≠ 7 := by omega
          rw [if_pos (show x.fq = 6 ∨ x.fq = 7 from Or.inl h6), if_neg (show ¬ (x.fq = 7 ∧ x.mo = []) from fun h => h7 h.1), decide_eq_true h6]
          simp [h6]
        · by_cases h7 : x.fq = 7
          · rw [if_pos (show x.fq = 6 ∨ x.fq = 7 from Or.inr h7), decide_eq_false h6, Bool.false_or]
            by_cases hm : x.mo = []
            · rw [if_pos ⟨h7, hm⟩, decide_eq_false (not_not_intro hm), Bool.false_or, Bool.decide_and]
            · rw [if_neg (show ¬ (x.fq = 7 ∧ x.mo = []) from fun h => hm h.2), decide_eq_true hm, Bool.true_or, Bool.and_true, if_pos (show x.fq = 6 ∨ x.fq = 7 from Or.inr h7)]
          · rw [if_neg (show ¬ (x.fq = 6 ∨ x.fq = 7) by omega), if_neg (show ¬ (x.fq = 7 ∧ x.mo = []) from fun h => h7 h.1), if_neg (show ¬ (x.fq = 6 ∨ x.fq = 7) by omega)]
  · rw [if_pos h1, rday_is hc hd, decide_eq_false h1, Bool.false_or, if_pos (Or.inr (Or.inr h1)), Bool.and_true]
/-- The reference's Day, W being how many weeks the week's year has. -/
def dayR (x : CV) (c d W : Int) : Bool := (decide (x.mo = []) || x.mo.contains (dM d)) && ((decide (x.wn = []) || ewB x.wn (Wk.noN d x.wk) W) && ((decide (x.yd = []) || ewB x.yd (ydV d) (ylen (dY d))) && ((decide (x.md = []) || ewB x.md (dD d) (Cal.mlen (dY d) (dM d))) && rlastB x c d)))
theorem dayR_is {x : CV} {c d W : Int} (hc : ckB x = true) (hd : -719162 ≤ d ∧ d < 2932897) (hW : x.wn ≠ [] → W = Wk.wkV (wkY x d) x.wk) : dayR x c d W = (lnB x d && (ldB x d && llB x c d)) := by
  rw [dayR, rlast_is hc hd, lnB, lwB]
  have e : (decide (x.wn = []) || ewB x.wn (Wk.noN d x.wk) W) = (decide (x.wn = []) || ewB x.wn (Wk.noN d x.wk) (Wk.wkV (wkY x d) x.wk)) := by
    by_cases h : x.wn = []
    · rw [decide_eq_true h, Bool.true_or, Bool.true_or]
    · rw [hW h]
  rw [e]
  have key : ∀ a b c d e f : Bool, (a && (b && (c && (d && (e && f))))) = ((a && (d && (c && b))) && (e && f)) := by decide
  exact key _ _ _ _ _ _
end Fil
end Go.Proofs.YtpbbnkgfheafpaaGreatDoor
/-
  Plain words: the weeks of the years 0 and 10000 are those of the year 400.
-/
namespace Go.Proofs.YtpbbnkgfheafpaaGreatDoor
namespace Fil
open Rcv (CV)
open Wk (fw wkV noY)
/-- A year's weeks as the reference counts them, of any year. -/
def wkN (y k : Int) : Int := (fw (y + 1) k - fw y k) / 7
theorem fw_ny (y k : Int) : fw y k = Cal.ny y + 3 - (Cal.wday (Cal.ny y + 3) - k) % 7 := by
  have e : Wk.n4 y = Cal.ny y + 3 := by unfold Wk.n4 Cal.num; rw [Cal.cum_1]; omega
  unfold Wk.fw Wk.since Cal.wday
  rw [e]
  omega
theorem wkN_0 (k : Int) : wkN 0 k = wkN 400 k := by
  rw [wkN, wkN, fw_ny, fw_ny, fw_ny, fw_ny, show Cal.ny (0 + 1) = -719162 by decide, show Cal.ny 0 = -719528 by decide, show Cal.ny (400 + 1) = -573065 by decide, show Cal.ny 400 = -573431 by decide]
  unfold Cal.wday
  omega
theorem wkN_10000 (k : Int) : wkN 10000 k = wkN 400 k := by
  rw [wkN, wkN, fw_ny, fw_ny, fw_ny, fw_ny, show Cal.ny (10000 + 1) = 2933263 by decide, show Cal.ny 10000 = 2932897 by decide, show Cal.ny (400 + 1) = -573065 by decide, show Cal.ny 400 = -573431 by decide]
  unfold Cal.wday
  omega
theorem wkN_in {y k : Int} (h0 : 1 ≤ y) (h1 : y ≤ 9999) (hk : 0 ≤ k ∧ k ≤ 6) : wkN y k = wkV y k := by
  rw [wkN, wkV, if_pos ⟨hk, h0, h1⟩]
/-- What the reference's Weeks counts of the week's year is what the program counts. -/
theorem wkN_is {x : CV} {d : Int} (hk : 0 ≤ x.wk ∧ x.wk ≤ 6) (hd : -719162 ≤ d ∧ d < 2932897) : wkN (noY d x.wk) x.wk = wkV (wkY x d) x.wk := by
  obtain ⟨a, b, _, _⟩ := no_span hk hd
  rw [wkY]
  by_cases h : 1 ≤ noY d x.wk ∧ noY d x.wk ≤ 9999
  · rw [if_pos h]
    exact wkN_in h.1 h.2 hk
  · rw [if_neg h, ← wkN_in (y := 400) (by omega) (by omega) hk]
    rcases Int.lt_or_le (noY d x.wk) 1 with c | c
    · rw [show noY d x.wk = 0 by omega]
      exact wkN_0 _
    · rw [show noY d x.wk = 10000 by omega]
      exact wkN_10000 _
end Fil
end Go.Proofs.YtpbbnkgfheafpaaGreatDoor
/-
  Contracts of the reference's Number, FirstWeek and Weeks up to the year 10001 (Weeks: 0 to 10000).
-/
namespace Go.Proofs.YtpbbnkgfheafpaaGreatDoor
open Go.RowKit
namespace Civ
end Civ
namespace Wk
open Civ
end Wk
end Go.Proofs.YtpbbnkgfheafpaaGreatDoor
