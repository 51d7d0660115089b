/-
  Package rrule, plain words: a rule by months without lists: of a month that has the start's day that day's time alone, of another one none.
-/
import Derived.Test.YtgaolaafjiiehaaDoorRruYE
namespace Go.Proofs.YtgaolaafjiiehaaDoor
open Go.RowKit
namespace Rru
open Rcv (CV)
open Rck (ckB endB lsB gtB)
open Civ (dY dM dD)
open Fil (moO mo_bd mo_of spA spZ spQ spO spE spF spT perQ perV perE letP letQ lcB lnB ldB llB v6 mfV mf_at mf_next dy_bounds)
def mnR (iv n : Int) : CV := ⟨6, iv, n, false, 0, false, [], [], [], [], [], [], [], [], [], 1⟩
theorem mn_ck {iv n : Int} (hi : 1 ≤ iv ∧ iv ≤ 1000) (hn : 0 ≤ n ∧ n ≤ 100000) : ckB (mnR iv n) = true := by
  have a : lsB (mnR iv n) = true := by kernel_rfl
  have b : Rck.dyB (mnR iv n).dy = true := by kernel_rfl
  have c : gtB (mnR iv n) = true := by kernel_rfl
  have d : endB (mnR iv n).un (mnR iv n).ua (mnR iv n).ut (mnR iv n).ct = true := by rfl
  unfold ckB
  simp only [Bool.and_eq_true, decide_eq_true_eq]
  exact ⟨show (1 : Int) ≤ 6 by decide, show (6 : Int) ≤ 7 by decide, hi.1, hi.2, hn.1, hn.2, show (0 : Int) ≤ 1 by decide, show (1 : Int) ≤ 6 by decide, d, a, b, c⟩
theorem mn_let {iv n st t : Int} (hc : ckB (mnR iv n) = true) (hs : moO st = true) (ht : moO t = true) : letP (mnR iv n) st t = true ↔ t % 86400 = st % 86400 ∧ dD (t / 86400) = dD (st / 86400) := by
  have e1 : lcB (mnR iv n) st t = (decide (t % 86400 % 60 = st % 86400 % 60) && (decide (t % 86400 / 60 % 60 = st % 86400 / 60 % 60) && decide (t % 86400 / 3600 = st % 86400 / 3600))) := by rfl
  have e2 : lnB (mnR iv n) (t / 86400) = true := by rfl
  have e3 : ldB (mnR iv n) (t / 86400) = true := by rfl
  have e4 : llB (mnR iv n) (st / 86400) (t / 86400) = decide (dD (t / 86400) = dD (st / 86400)) := by rfl
  rw [letP, letQ, hc, hs, ht, e1, e2, e3, e4]
  simp only [Bool.true_and, Bool.and_eq_true, decide_eq_true_eq]
  constructor
  · rintro ⟨⟨a, b, c⟩, d⟩
    exact ⟨by omega, d⟩
  · rintro ⟨a, d⟩
    rw [a]
    exact ⟨⟨rfl, rfl, rfl⟩, d⟩
/-- The days of a period's span. -/
theorem mn_day {iv n Y M t : Int} (hm : 1 ≤ M ∧ M ≤ 12) (h : spE (mnR iv n) (12 * Y + M - 1) = 0) : (spA (mnR iv n) (12 * Y + M - 1) ≤ t ∧ t < spZ (mnR iv n) (12 * Y + M - 1)) ↔ 0 ≤ t / 86400 - mfV (12 * Y + M - 1) ∧ t / 86400 - mfV (12 * Y + M - 1) < Cal.mlen Y M := by
  obtain ⟨_, a, z, o⟩ := v6 (x := mnR iv n) rfl 0 (12 * Y + M - 1)
  have oo := (spe_at h).2.1
  rw [o, Bool.and_eq_true] at oo
  have p1 := mfO_in oo.1
  have p2 := mfO_in oo.2
  have z2 : mfV (12 * Y + M - 1 + 1) = mfV (12 * Y + M - 1) + Cal.mlen Y M := by
    rw [mf_at (by omega) hm]
    by_cases e : M = 12
    · subst e
      have c := Cal.cum_12 Y
      have s := Cal.ny_succ Y
      rw [show 12 * Y + 12 - 1 + 1 = 12 * (Y + 1) + 1 - 1 by omega, mf_at (by omega) (by decide), Cal.cum_1]
      omega
    · have c := Cal.cum_succ (y := Y) (m := M) hm.1 (by omega)
      rw [show 12 * Y + M - 1 + 1 = 12 * Y + (M + 1) - 1 by omega, mf_at (by omega) (by omega)]
      omega
  rw [a, z, z2]
  constructor
  · rintro ⟨h1, h2⟩; omega
  · rintro ⟨h1, h2⟩; omega
theorem mn_gP {iv n st Y M : Int} (hc : ckB (mnR iv n) = true) (hs : moO st = true) (hm : 1 ≤ M ∧ M ≤ 12) (h : spE (mnR iv n) (12 * Y + M - 1) = 0) : gP (mnR iv n) st (12 * Y + M - 1) = if dD (st / 86400) ≤ Cal.mlen Y M then [(mfV (12 * Y + M - 1) + dD (st / 86400) - 1) * 86400 + st % 86400] else [] := by
  have bs := mo_bd hs
  obtain ⟨Y0, M0, D0, _, _, hD, _, _, hD0, _, _, _⟩ := dy_bounds ⟨bs.1, bs.2.1⟩
  rw [hD]
  have yb : 0 ≤ Y ∧ Y ≤ 10000 := by
    have oo := (spe_at h).2.1
    obtain ⟨_, _, _, o⟩ := v6 (x := mnR iv n) rfl 0 (12 * Y + M - 1)
    rw [o, Bool.and_eq_true] at oo
    have p1 := mfO_in oo.1
    have p2 := mfO_in oo.2
    omega
  have key : ∀ t, t ∈ gP (mnR iv n) st (12 * Y + M - 1) ↔ (D0 ≤ Cal.mlen Y M ∧ t = (mfV (12 * Y + M - 1) + D0 - 1) * 86400 + st % 86400) := fun t => by
    rw [gP_mem hs rfl h, mn_day hm h]
    have dt : 0 ≤ t / 86400 - mfV (12 * Y + M - 1) ∧ t / 86400 - mfV (12 * Y + M - 1) < Cal.mlen Y M → moO t = true ∧ dD (t / 86400) = t / 86400 - mfV (12 * Y + M - 1) + 1 := fun g => by
      have k := (mn_day hm h).2 g
      obtain ⟨q, _, _, mt⟩ := per_in h k.1 k.2
      have bt := mo_bd mt
      obtain ⟨Y1, M1, D1, h1, h2, h3, _, hm1, _, e, _, _⟩ := dy_bounds ⟨bt.1, bt.2.1⟩
      rw [(v6 (x := mnR iv n) rfl t 0).1, h1, h2] at q
      have ey : Y1 = Y := by omega
      have em : M1 = M := by omega
      subst ey em
      rw [mf_at yb hm, h3]
      exact ⟨mt, by omega⟩
    constructor
    · rintro ⟨g, l⟩
      obtain ⟨mt, e⟩ := dt g
      have l := (mn_let hc hs mt).1 l
      rw [hD, e] at l
      exact ⟨by omega, by omega⟩
    · rintro ⟨g, rfl⟩
      have e0 : ((mfV (12 * Y + M - 1) + D0 - 1) * 86400 + st % 86400) / 86400 = mfV (12 * Y + M - 1) + D0 - 1 := by omega
      have g2 : 0 ≤ ((mfV (12 * Y + M - 1) + D0 - 1) * 86400 + st % 86400) / 86400 - mfV (12 * Y + M - 1) ∧ ((mfV (12 * Y + M - 1) + D0 - 1) * 86400 + st % 86400) / 86400 - mfV (12 * Y + M - 1) < Cal.mlen Y M := by rw [e0]; omega
      obtain ⟨mt, e⟩ := dt g2
      refine ⟨g2, (mn_let hc hs mt).2 ⟨by omega, ?_⟩⟩
      rw [hD, e, e0]
      omega
  split
  · rename_i g
    exact single_of (gP_up _ _ _) (fun t => by rw [key]; exact ⟨fun k => k.2, fun k => ⟨g, k⟩⟩)
  · rename_i g
    cases hg : gP (mnR iv n) st (12 * Y + M - 1) with
    | nil => rfl
    | cons b r => exact absurd ((key b).1 (by rw [hg]; simp)).1 g
end Rru
end Go.Proofs.YtgaolaafjiiehaaDoor
