/-
  Package rrule, plain words: without places, a period's times are those of its span that the rule lets.
-/
import Derived.Test.YtpbbnkgfheafpaaGreatDoorBdU6
namespace Go.Proofs.YtpbbnkgfheafpaaGreatDoor
open Go.RowKit
namespace Rru
open Rcv (CV)
open Rck (ckB)
open Fil (moO mo_bd mo_of mo_iff spA spZ spQ spO spE spF spT letP letQ lcB lnB ldB llB dayB onB ck_fq)
theorem on_or {L : List Int} {n a : Int} : a ∈ orS L n ↔ onB L true n a = true := by
  rw [orS, onB]
  by_cases e : L = []
  · subst e; simp
  · rw [if_neg e, if_neg (by rwa [List.length_eq_zero_iff]), srt, List.mem_mergeSort, List.contains_iff_mem]
/-- A second of a day is among the rule's where its hour, minute and second are. -/
theorem sc_iff {x : CV} (hc : ckB x = true) {st s : Int} (hs : 0 ≤ s ∧ s < 86400) : s ∈ scL x st ↔ s / 3600 ∈ hrL x st ∧ s / 60 % 60 ∈ miL x st ∧ s % 60 ∈ seL x st := by
  rw [scL, List.mem_flatMap]
  constructor
  · rintro ⟨h, hh, hs⟩
    obtain ⟨m, hm, hs⟩ := List.mem_flatMap.1 hs
    obtain ⟨c, hc1, rfl⟩ := List.mem_map.1 hs
    have h1 := (hr_bd hc st).1 h hh
    have h2 := (mi_bd hc st).1 m hm
    have h3 := (se_bd hc st).1 c hc1
    rw [fS] at *
    rw [show (h * 3600 + m * 60 + c) / 3600 = h by omega, show (h * 3600 + m * 60 + c) / 60 % 60 = m by omega, show (h * 3600 + m * 60 + c) % 60 = c by omega]
    exact ⟨hh, hm, hc1⟩
  · rintro ⟨h1, h2, h3⟩
    refine ⟨_, h1, List.mem_flatMap.2 ⟨_, h2, List.mem_map.2 ⟨_, h3, ?_⟩⟩⟩
    rw [fS]; omega
/-- What is asked of a base's clock. -/
def hiP (x : CV) (st b : Int) : Prop := (x.fq ≤ 1 → onB x.sc false (st % 86400 % 60) (b % 86400 % 60) = true) ∧ (x.fq ≤ 2 → onB x.mi false (st % 86400 / 60 % 60) (b % 86400 / 60 % 60) = true) ∧ (x.fq ≤ 3 → onB x.hr false (st % 86400 / 3600) (b % 86400 / 3600) = true)
theorem lc_iff {x : CV} (hc : ckB x = true) {st j s : Int} (hs : 0 ≤ s ∧ s < uN x) : lcB x st (j * uN x + s) = true ↔ s ∈ scL x st ∧ hiP x st (j * uN x) := by
  have f := ck_fq hc
  have hd : 0 ≤ s ∧ s < 86400 := by
    have : uN x ≤ 86400 := by rw [uN]; split; decide; split; decide; split <;> decide
    omega
  rw [lcB, Bool.and_eq_true, Bool.and_eq_true, sc_iff hc hd, hiP, hrL, miL, seL]
  by_cases f1 : x.fq = 1
  · have u : uN x = 1 := by rw [uN, if_pos f1]
    rw [u] at hs ⊢
    have s0 : s = 0 := by omega
    subst s0
    rw [decide_eq_false (show ¬ 1 < x.fq by omega), decide_eq_false (show ¬ 2 < x.fq by omega), decide_eq_false (show ¬ 3 < x.fq by omega), if_neg (show ¬ 1 < x.fq by omega), if_neg (show ¬ 2 < x.fq by omega), if_neg (show ¬ 3 < x.fq by omega), Int.add_zero]
    constructor
    · rintro ⟨a, b, c⟩; exact ⟨by decide, fun _ => a, fun _ => b, fun _ => c⟩
    · rintro ⟨_, a, b, c⟩; exact ⟨a (by omega), b (by omega), c (by omega)⟩
  by_cases f2 : x.fq = 2
  · have u : uN x = 60 := by rw [uN, if_neg f1, if_pos f2]
    rw [u] at hs ⊢
    rw [decide_eq_true (show 1 < x.fq by omega), decide_eq_false (show ¬ 2 < x.fq by omega), decide_eq_false (show ¬ 3 < x.fq by omega), if_pos (show 1 < x.fq by omega), if_neg (show ¬ 2 < x.fq by omega), if_neg (show ¬ 3 < x.fq by omega), on_or]
    rw [show s / 3600 = 0 by omega, show s / 60 % 60 = 0 by omega, show (j * 60 + s) % 86400 % 60 = s % 60 by omega, show (j * 60 + s) % 86400 / 60 % 60 = (j * 60) % 86400 / 60 % 60 by omega, show (j * 60 + s) % 86400 / 3600 = (j * 60) % 86400 / 3600 by omega]
    constructor
    · rintro ⟨a, b, c⟩; exact ⟨⟨by decide, by decide, a⟩, fun h => by omega, fun _ => b, fun _ => c⟩
    · rintro ⟨⟨_, _, a⟩, _, b, c⟩; exact ⟨a, b (by omega), c (by omega)⟩
  by_cases f3 : x.fq = 3
  · have u : uN x = 3600 := by rw [uN, if_neg f1, if_neg f2, if_pos f3]
    rw [u] at hs ⊢
    rw [decide_eq_true (show 1 < x.fq by omega), decide_eq_true (show 2 < x.fq by omega), decide_eq_false (show ¬ 3 < x.fq by omega), if_pos (show 1 < x.fq by omega), if_pos (show 2 < x.fq by omega), if_neg (show ¬ 3 < x.fq by omega), on_or, on_or]
    rw [show s / 3600 = 0 by omega, show (j * 3600 + s) % 86400 % 60 = s % 60 by omega, show (j * 3600 + s) % 86400 / 60 % 60 = s / 60 % 60 by omega, show (j * 3600 + s) % 86400 / 3600 = (j * 3600) % 86400 / 3600 by omega]
    constructor
    · rintro ⟨a, b, c⟩; exact ⟨⟨by decide, b, a⟩, fun h => by omega, fun h => by omega, fun _ => c⟩
    · rintro ⟨⟨_, b, a⟩, _, _, c⟩; exact ⟨a, b, c (by omega)⟩
  · have u : uN x = 86400 := uN_day (by omega)
    rw [u] at hs ⊢
    rw [decide_eq_true (show 1 < x.fq by omega), decide_eq_true (show 2 < x.fq by omega), decide_eq_true (show 3 < x.fq by omega), if_pos (show 1 < x.fq by omega), if_pos (show 2 < x.fq by omega), if_pos (show 3 < x.fq by omega), on_or, on_or, on_or]
    rw [show (j * 86400 + s) % 86400 = s by omega]
    constructor
    · rintro ⟨a, b, c⟩; exact ⟨⟨c, b, a⟩, fun h => by omega, fun h => by omega, fun h => by omega⟩
    · rintro ⟨⟨c, b, a⟩, _⟩; exact ⟨a, b, c⟩
theorem day_of {x : CV} {j s : Int} (hs : 0 ≤ s ∧ s < uN x) : (j * uN x + s) / 86400 = j * uN x / 86400 := by
  revert hs
  rw [uN]
  split
  · intro h; omega
  · split
    · intro h; omega
    · split
      · intro h; omega
      · intro h; omega
def dayR (x : CV) (st d : Int) : Bool := lnB x d && (ldB x d && llB x (st / 86400) d)
theorem let_iff {x : CV} (hc : ckB x = true) {st j s : Int} (hm : moO st = true) (hs : 0 ≤ s ∧ s < uN x) : letP x st (j * uN x + s) = true ↔ s ∈ scL x st ∧ hiP x st (j * uN x) ∧ moO (j * uN x) = true ∧ dayR x st (j * uN x / 86400) = true := by
  have e : moO (j * uN x + s) = moO (j * uN x) := by rw [mo_iff, mo_iff, day_of hs]
  rw [letP, letQ, hc, hm, e, day_of hs, Bool.and_eq_true, Bool.and_eq_true, Bool.and_eq_true, Bool.and_eq_true, lc_iff hc hs]
  constructor
  · rintro ⟨_, _, a, ⟨b, c⟩, d⟩; exact ⟨b, c, a, d⟩
  · rintro ⟨b, c, a, d⟩; exact ⟨rfl, rfl, a, ⟨b, c⟩, d⟩
theorem s0_in (x : CV) (st : Int) : s0F x st ∈ scL x st := by
  rw [s0F]
  cases h : scL x st with
  | nil => exact absurd h (sc_ne st)
  | cons a r => simp
theorem da_iff {x : CV} {st s0 a b e : Int} : e ∈ daL x st s0 a b ↔ ∃ d, e = d * 86400 ∧ (a ≤ d ∧ d < b) ∧ dyB x st s0 d = true := by
  rw [daL, List.mem_map]
  constructor
  · rintro ⟨d, hd, rfl⟩
    rw [List.mem_filter, List.mem_map] at hd
    obtain ⟨⟨i, hi, rfl⟩, hd⟩ := hd
    rw [List.mem_range] at hi
    exact ⟨_, rfl, by omega, hd⟩
  · rintro ⟨d, rfl, h, hd⟩
    refine ⟨d, List.mem_filter.2 ⟨List.mem_map.2 ⟨(d - a).toNat, List.mem_range.2 (by omega), by omega⟩, hd⟩, rfl⟩
theorem mb_of {x : CV} {d : Int} (h : ldB x d = true) : mbB x (Cal.wday d) = true := by
  rw [ldB, Bool.or_eq_true] at h
  rw [mbB, Bool.or_eq_true]
  rcases h with h | h
  · exact Or.inl h
  · rw [List.any_eq_true] at h
    obtain ⟨q, hq, h⟩ := h
    rw [dayB, Bool.and_eq_true] at h
    exact Or.inr (List.any_eq_true.2 ⟨q, hq, h.1⟩)
theorem fl_mem {x : CV} {st p t : Int} (hm : moO st = true) (h : spE x p = 0) : t ∈ flF (bsL x st (s0F x st) (spA x p) (spZ x p - 1)) (scL x st) ↔ (spA x p ≤ t ∧ t < spZ x p) ∧ letP x st t = true := by
  obtain ⟨hc, o, ma, mz, _, _, _⟩ := spe_at h
  have f := ck_fq hc
  have z := s0_in x st
  have zb := sc_bd hc st _ z
  rw [flF, List.mem_flatMap]
  by_cases f4 : x.fq < 4
  · obtain ⟨u1, u2⟩ := sp_unit (x := x) ⟨f.1, f4⟩ p
    have li := let_iff (x := x) (st := st) (j := p) hc hm zb
    rw [bsL, if_pos f4, u1, u2]
    constructor
    · rintro ⟨b, hb, ht⟩
      obtain ⟨s, hs, rfl⟩ := List.mem_map.1 ht
      have sb := sc_bd hc st s hs
      split at hb
      · rename_i k
        rw [List.mem_singleton] at hb
        subst hb
        exact ⟨by omega, (let_iff hc hm sb).2 ⟨hs, (li.1 k).2⟩⟩
      · exact absurd hb (by simp)
    · rintro ⟨⟨t1, t2⟩, hl⟩
      obtain ⟨s, rfl⟩ : ∃ s, t = p * uN x + s := ⟨t - p * uN x, by omega⟩
      have k := (let_iff hc hm (by omega)).1 hl
      exact ⟨_, by rw [if_pos (li.2 ⟨z, k.2⟩)]; exact List.mem_singleton.2 rfl, List.mem_map.2 ⟨s, k.1, rfl⟩⟩
  · have ud := uN_day (x := x) (by omega)
    obtain ⟨⟨A, hA⟩, Z, hZ⟩ := sp_day (x := x) (by omega) p
    rw [bsL, if_neg f4, hA, hZ]
    rw [ud] at zb
    constructor
    · rintro ⟨b, hb, ht⟩
      obtain ⟨s, hs, rfl⟩ := List.mem_map.1 ht
      have sb := sc_bd hc st s hs
      obtain ⟨d, rfl, hd, hy⟩ := da_iff.1 hb
      rw [dyB, Bool.and_eq_true] at hy
      have k := hy.2
      rw [show d * 86400 = d * uN x by rw [ud]] at k ⊢
      rw [← ud] at zb
      have k := (let_iff hc hm zb).1 k
      refine ⟨by rw [ud] at sb ⊢; omega, (let_iff hc hm sb).2 ⟨hs, k.2⟩⟩
    · rintro ⟨⟨t1, t2⟩, hl⟩
      obtain ⟨d, s, rfl, sb⟩ : ∃ d s, t = d * uN x + s ∧ 0 ≤ s ∧ s < uN x := ⟨t / 86400, t % 86400, by rw [ud]; omega, by omega, by rw [ud]; omega⟩
      have k := (let_iff hc hm sb).1 hl
      refine ⟨d * uN x, da_iff.2 ⟨d, by rw [ud], by rw [ud] at sb t1 t2; omega, ?_⟩, List.mem_map.2 ⟨s, k.1, rfl⟩⟩
      have hd := k.2.2.2
      rw [show d * uN x / 86400 = d by rw [ud]; omega, dayR, Bool.and_eq_true, Bool.and_eq_true] at hd
      rw [dyB, mb_of hd.2.1, Bool.true_and]
      rw [show d * 86400 = d * uN x by rw [ud]]
      exact (let_iff hc hm (by rw [ud]; exact zb)).2 ⟨z, k.2⟩
theorem gP_mem {x : CV} {st p t : Int} (hm : moO st = true) (hp : x.sp = []) (h : spE x p = 0) : t ∈ gP x st p ↔ (spA x p ≤ t ∧ t < spZ x p) ∧ letP x st t = true := by
  rw [ga_eq h, tiL, if_pos hp]
  exact fl_mem hm h
theorem gP_let {x : CV} {st p t : Int} (hm : moO st = true) (h : t ∈ gP x st p) : letP x st t = true := by
  have e := gP_sp h
  rw [ga_eq e] at h
  exact ((fl_mem hm e).1 (ti_sub (sc_ne st) h)).2
end Rru
end Go.Proofs.YtpbbnkgfheafpaaGreatDoor
