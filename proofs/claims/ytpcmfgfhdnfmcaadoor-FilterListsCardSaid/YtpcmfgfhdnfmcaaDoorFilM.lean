/-
  Package filter, plain words: what a rule lets, a time's period, a period's span.
-/
import Derived.Test.YtpcmfgfhdnfmcaaDoorFilB
import Derived.Test.YtpcmfgfhdnfmcaaDoorBdT
import Derived.Test.YtpcmfgfhdnfmcaaDoorBdK1
namespace Go.Proofs.YtpcmfgfhdnfmcaaDoor
open Go.RowKit
namespace Fil
open Rcv (CV)
open Rck (ckE ckB)
open Civ (numV numE dY dM dD dnE ydV)
open Wk (noY noN noE wkV wkE nthV nthB)
/-- How many days a year has. -/
def ylen (y : Int) : Int := if Cal.long y = true then 366 else 365
/-- The first day of a month that is counted from year 0 on; of a year; of a year's first week. -/
def mfV (p : Int) : Int := numV (p / 12) (p - 12 * (p / 12) + 1) 1
def mfO (p : Int) : Bool := decide (numE (p / 12) (p - 12 * (p / 12) + 1) 1 = 0)
def yfV (y : Int) : Int := numV y 1 1
def yfO (y : Int) : Bool := decide (numE y 1 1 = 0)
def wfV (y k : Int) : Int := numV y 1 4 - (Cal.wday (numV y 1 4) - k + 7) % 7
def wfO (y : Int) : Bool := decide (numE y 1 4 = 0)
/-- A day is the so-many-th of its weekday, which a number says. -/
def mthB (x : CV) : Bool := decide (x.fq = 6) || decide (x.mo ≠ [])
def fromV (x : CV) (d : Int) : Int := if mthB x = true then mfV (12 * dY d + dM d - 1) else yfV (dY d)
def behV (x : CV) (d : Int) : Int := if mthB x = true then mfV (12 * dY d + dM d - 1 + 1) else yfV (dY d + 1)
def nthIs (x : CV) (d : Int) (q : Int × Int) : Bool := nthB (fromV x d) (behV x d - 1) q.1 q.2 && decide (nthV (fromV x d) (behV x d - 1) q.1 q.2 = d)
/-- The year whose weeks are counted. -/
def wkY (x : CV) (d : Int) : Int := if 1 ≤ noY d x.wk ∧ noY d x.wk ≤ 9999 then noY d x.wk else 400
def lwB (x : CV) (d : Int) : Bool := ewB x.wn (noN d x.wk) (wkV (wkY x d) x.wk)
def lnB (x : CV) (d : Int) : Bool := (decide (x.mo = []) || x.mo.contains (dM d)) && ((decide (x.md = []) || ewB x.md (dD d) (Cal.mlen (dY d) (dM d))) && ((decide (x.yd = []) || ewB x.yd (ydV d) (ylen (dY d))) && (decide (x.wn = []) || lwB x d)))
def dayB (x : CV) (d : Int) (q : Int × Int) : Bool := decide (q.2 = Cal.wday d) && (decide (q.1 = 0) || nthIs x d q)
def ldB (x : CV) (d : Int) : Bool := decide (x.dy = []) || x.dy.any (dayB x d)
def llB (x : CV) (c d : Int) : Bool := if x.yd ≠ [] ∨ x.md ≠ [] ∨ x.dy ≠ [] then true else if x.wn ≠ [] ∨ x.fq = 5 then decide (Cal.wday d = Cal.wday c) else if x.fq = 7 ∧ x.mo = [] then decide (dD d = dD c ∧ dM d = dM c) else if x.fq = 6 ∨ x.fq = 7 then decide (dD d = dD c) else true
def lcB (x : CV) (s t : Int) : Bool := onB x.sc (decide (1 < x.fq)) (s % 86400 % 60) (t % 86400 % 60) && (onB x.mi (decide (2 < x.fq)) (s % 86400 / 60 % 60) (t % 86400 / 60 % 60) && onB x.hr (decide (3 < x.fq)) (s % 86400 / 3600) (t % 86400 / 3600))
/-- What a right rule lets of two times that count. -/
def letQ (x : CV) (s t : Int) : Bool := lcB x s t && (lnB x (t / 86400) && (ldB x (t / 86400) && llB x (s / 86400) (t / 86400)))
def letP (x : CV) (s t : Int) : Bool := ckB x && (moO s && (moO t && letQ x s t))
/-- A time's period, by the frequency. -/
def perQ (x : CV) (t : Int) : Int := if x.fq = 1 then t else if x.fq = 2 then t / 60 else if x.fq = 3 then t / 3600 else if x.fq = 4 then t / 86400 else if x.fq = 5 then (t / 86400 + 4 - x.wk) / 7 else if x.fq = 6 then 12 * dY (t / 86400) + dM (t / 86400) - 1 else if x.wn = [] then dY (t / 86400) else noY (t / 86400) x.wk
def perV (x : CV) (t : Int) : Int := if ckB x = true ∧ moO t = true then perQ x t else 0
def perE (x : CV) (t : Int) : Int := if ckB x = true then (if moO t = true then 0 else 23) else 21
/-- A period's first time, the one behind its last, and whether both are days of the calendar. -/
def spA (x : CV) (p : Int) : Int := if x.fq = 1 then p else if x.fq = 2 then p * 60 else if x.fq = 3 then p * 3600 else if x.fq = 4 then p * 86400 else if x.fq = 5 then (p * 7 - 4 + x.wk) * 86400 else if x.fq = 6 then mfV p * 86400 else if x.wn = [] then yfV p * 86400 else wfV p x.wk * 86400
def spZ (x : CV) (p : Int) : Int := if x.fq = 1 then p + 1 else if x.fq = 2 then (p + 1) * 60 else if x.fq = 3 then (p + 1) * 3600 else if x.fq = 4 then (p + 1) * 86400 else if x.fq = 5 then (p * 7 - 4 + x.wk + 7) * 86400 else if x.fq = 6 then mfV (p + 1) * 86400 else if x.wn = [] then yfV (p + 1) * 86400 else wfV (p + 1) x.wk * 86400
def spO (x : CV) (p : Int) : Bool := if x.fq ≤ 5 then true else if x.fq = 6 then mfO p && mfO (p + 1) else if x.wn = [] then yfO p && yfO (p + 1) else wfO p && wfO (p + 1)
def farB (p : Int) : Bool := decide (p < -1099511627776 ∨ 1099511627776 < p)
def spQ (x : CV) (p : Int) : Bool := !farB p && (spO x p && (moO (spA x p) && moO (spZ x p - 1)))
def spE (x : CV) (p : Int) : Int := if ckB x = true then (if spQ x p = true then 0 else 23) else 21
def spF (x : CV) (p : Int) : Int := if ckB x = true ∧ spQ x p = true then spA x p else 0
def spT (x : CV) (p : Int) : Int := if ckB x = true ∧ spQ x p = true then spZ x p - 1 else 0
theorem numV_bd (y m d : Int) : -719528 ≤ numV y m d ∧ numV y m d ≤ 2933262 := by
  rw [numV]
  split
  · rename_i h
    have h := of_decide_eq_true h
    have m12 := Cal.mlen_pos (y := y) (m := m) (by omega)
    obtain ⟨_, _, _, _, a, b⟩ := Civ.num_bd h.1 h.2.1 m12.1 m12.2 h.2.2.1 h.2.2.2
    exact ⟨a, b⟩
  · omega
theorem mo_bd {t : Int} (h : moO t = true) : -719162 ≤ t / 86400 ∧ t / 86400 < 2932897 ∧ dnE (t / 86400) = 0 ∧ 1 ≤ dY (t / 86400) ∧ dY (t / 86400) ≤ 9999 := by
  have q := of_decide_eq_true h
  have e : -719528 ≤ t / 86400 ∧ t / 86400 ≤ 2933262 := by
    have := q.1
    rw [dnE] at this
    by_cases c : -719528 ≤ t / 86400 ∧ t / 86400 ≤ 2933262
    · exact c
    · rw [if_neg c] at this; omega
  have y := q.2
  rw [dY, if_pos e] at y
  obtain ⟨a, b, _, _⟩ := Cal.yr_spec e.1 e.2
  have k1 := Cal.ny_mono (a := 1) (b := Cal.yr (t / 86400)) y.1
  have k2 := Cal.ny_mono (a := Cal.yr (t / 86400) + 1) (b := 10000) (by omega)
  have c1 : Cal.ny 1 = -719162 := by decide +kernel
  have c2 : Cal.ny 10000 = 2932897 := by decide +kernel
  exact ⟨by omega, by omega, q.1, q.2⟩
theorem mo_of {t : Int} (h1 : -719162 ≤ t / 86400) (h2 : t / 86400 < 2932897) : moO t = true := by
  have e : -719528 ≤ t / 86400 ∧ t / 86400 ≤ 2933262 := by omega
  obtain ⟨a, b, _, _⟩ := Cal.yr_spec e.1 e.2
  have c1 : Cal.ny 1 = -719162 := by decide +kernel
  have c2 : Cal.ny 10000 = 2932897 := by decide +kernel
  have y1 := Cal.yr_le (n := t / 86400) (y := 1) e.1 e.2 (by omega)
  have y2 := Cal.yr_lt (n := t / 86400) (y := 10000) e.1 e.2 (by omega)
  exact decide_eq_true (by rw [dnE, if_pos e, dY, if_pos e]; omega)
theorem mo_iff (t : Int) : moO t = decide (-719162 ≤ t / 86400 ∧ t / 86400 < 2932897) := by
  by_cases h : -719162 ≤ t / 86400 ∧ t / 86400 < 2932897
  · rw [mo_of h.1 h.2, decide_eq_true h]
  · rw [decide_eq_false h]
    rw [← Bool.not_eq_true]
    intro q
    have := mo_bd q
    omega
end Fil
end Go.Proofs.YtpcmfgfhdnfmcaaDoor
