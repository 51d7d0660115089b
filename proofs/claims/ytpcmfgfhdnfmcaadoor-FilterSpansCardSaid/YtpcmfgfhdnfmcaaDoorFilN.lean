/-
  Plain words: a time is within its period's span, each time of a span is of that period, the next one begins right behind.
-/
import Derived.Test.YtpcmfgfhdnfmcaaDoorFilT
import Derived.Test.YtpcmfgfhdnfmcaaDoorFilX1
namespace Go.Proofs.YtpcmfgfhdnfmcaaDoor
open Go.RowKit
namespace Fil
open Rcv (CV)
open Rck (ckE ckB)
open Civ (numV numE dY dM dD dnE)
open Wk (noY noN noE mid fw since)
/-- The next period begins right behind. -/
theorem sp_next {x : CV} (p : Int) (hf : 1 ≤ x.fq ∧ x.fq ≤ 7) : spA x (p + 1) = spZ x p := by
  unfold spA spZ
  have : x.fq = 1 ∨ x.fq = 2 ∨ x.fq = 3 ∨ x.fq = 4 ∨ x.fq = 5 ∨ x.fq = 6 ∨ x.fq = 7 := by omega
  rcases this with h | h | h | h | h | h | h <;> simp [h]
  omega
theorem mfO_at {p : Int} (h : 0 ≤ p ∧ p < 120012) : mfO p = true := by
  have l := Cal.mlen_28 (y := p / 12) (m := p - 12 * (p / 12) + 1) (by omega) (by omega)
  exact decide_eq_true (Civ.num_bd (Y := p / 12) (M := p - 12 * (p / 12) + 1) (D := 1) (by omega) (by omega) (by omega) (by omega) (by decide) (by omega)).1
theorem yfO_at {y : Int} (h : 0 ≤ y ∧ y ≤ 10000) : yfO y = true := by
  have l := Cal.mlen_28 (y := y) (m := 1) (by decide) (by decide)
  exact decide_eq_true (Civ.num_bd (Y := y) (M := 1) (D := 1) h.1 h.2 (by decide) (by decide) (by decide) (by omega)).1
theorem wf_at {y k : Int} (h : 0 ≤ y ∧ y ≤ 10000) : wfO y = true ∧ wfV y k = fw y k := by
  obtain ⟨a, b, _, _⟩ := Wk.n4_ok h.1 h.2
  refine ⟨decide_eq_true b, ?_⟩
  rw [wfV, a]
  unfold fw since
  omega
/-- A month counted from year 0 on: the days of it, and of it alone. -/
theorem mf_day {d d2 : Int} (h : -719162 ≤ d ∧ d < 2932897) (h2 : mfV (12 * dY d + dM d - 1) ≤ d2) (h3 : d2 < mfV (12 * dY d + dM d - 1 + 1)) : 12 * dY d2 + dM d2 - 1 = 12 * dY d + dM d - 1 := by
  obtain ⟨Y, M, D, e1, e2, e3, y, mm, dd, e, a, b⟩ := dy_bounds h
  rw [e1, e2] at h2 h3 ⊢
  rw [mf_at (by omega) mm] at h2
  rw [mf_next (by omega) mm] at h3
  have c := Cal.cum_bd (y := Y) mm.1 mm.2
  have s := Cal.ny_succ Y
  have n1 := Cal.ny_mono (a := 1) (b := Y) y.1
  have n2 := Cal.ny_mono (a := Y + 1) (b := 10000) (by omega)
  have c1 : Cal.ny 1 = -719162 := by decide +kernel
  have c2 : Cal.ny 10000 = 2932897 := by decide +kernel
  have yr := Cal.yr_of (n := d2) (y := Y) (by omega) (by omega) (by omega) (by omega)
  have mo := Cal.mon_of (y := Y) (r := d2 - Cal.ny Y) mm.1 mm.2 (by omega) (by omega)
  rw [dY, dM, if_pos (by omega), if_pos (by omega), yr, mo]
theorem yf_day {d d2 : Int} (h : -719162 ≤ d ∧ d < 2932897) (h2 : yfV (dY d) ≤ d2) (h3 : d2 < yfV (dY d + 1)) : dY d2 = dY d := by
  obtain ⟨Y, M, D, e1, e2, e3, y, mm, dd, e, a, b⟩ := dy_bounds h
  rw [e1] at h2 h3 ⊢
  rw [yf_at (by omega)] at h2 h3
  have n1 := Cal.ny_mono (a := 1) (b := Y) y.1
  have n2 := Cal.ny_mono (a := Y + 1) (b := 10000) (by omega)
  have c1 : Cal.ny 1 = -719162 := by decide +kernel
  have c2 : Cal.ny 10000 = 2932897 := by decide +kernel
  have yr := Cal.yr_of (n := d2) (y := Y) (by omega) (by omega) (by omega) (by omega)
  rw [dY, if_pos (by omega), yr]
/-- A day's week's year: its weeks begin at or ahead of the day, the next one's behind it. -/
theorem no_span {d k : Int} (hk : 0 ≤ k ∧ k ≤ 6) (h : -719162 ≤ d ∧ d < 2932897) : 0 ≤ noY d k ∧ noY d k ≤ 10000 ∧ fw (noY d k) k ≤ d ∧ d < fw (noY d k + 1) k := by
  have ok := wk_ok hk h
  obtain ⟨z, hz⟩ : ∃ z, mid d k = z := ⟨_, rfl⟩
  have sb := Wk.since_bd k d
  have zb : d - 3 ≤ z ∧ z ≤ d + 3 := by rw [← hz]; unfold mid; omega
  obtain ⟨a1, a2, a3, a4⟩ := Cal.yr_spec (n := z) (by omega) (by omega)
  have e1 : noY d k = Cal.yr z := by rw [noY, if_pos ok, hz]
  rw [e1]
  obtain ⟨y, hy⟩ : ∃ y, Cal.yr z = y := ⟨_, rfl⟩
  rw [hy] at a1 a2 a3 a4 ⊢
  have f1 := fw_in y k
  have f2 := fw_in (y + 1) k
  have m1 := fw_mod (y := y) hk
  have m2 := fw_mod (y := y + 1) hk
  have m3 := mid_mod (n := d) hk
  rw [hz] at m3
  have hm : z = d - since k d + 3 := by rw [← hz]; rfl
  have hs : since k d = (Cal.wday d - k + 7) % 7 := rfl
  unfold Cal.wday at m1 m2 m3 hs
  exact ⟨a3, a4, by omega, by omega⟩
theorem no_of {d d2 k : Int} (hk : 0 ≤ k ∧ k ≤ 6) (h : -719162 ≤ d ∧ d < 2932897) (h0 : -719162 ≤ d2 ∧ d2 < 2932897) (h2 : fw (noY d k) k ≤ d2) (h3 : d2 < fw (noY d k + 1) k) : noY d2 k = noY d k := by
  obtain ⟨a1, a2, a3, a4⟩ := no_span hk h0
  obtain ⟨b1, b2, b3, b4⟩ := no_span hk h
  obtain ⟨p, hp⟩ : ∃ p, noY d k = p := ⟨_, rfl⟩
  obtain ⟨q, hq⟩ : ∃ q, noY d2 k = q := ⟨_, rfl⟩
  rw [hp] at h2 h3 ⊢
  rw [hq] at a3 a4 ⊢
  have mono : ∀ a b : Int, a + 1 ≤ b → fw (a + 1) k ≤ fw b k := fun a b hab => by
    by_cases e : a + 1 = b
    · rw [e]; exact Int.le_refl _
    · have f1 := fw_in (a + 1) k
      have f2 := fw_in b k
      have n := Cal.ny_mono (a := a + 1) (b := b) hab
      omega
  have c1 := mono p q
  have c2 := mono q p
  omega
theorem v1 {x : CV} (h : x.fq = 1) (t p : Int) : perQ x t = t ∧ spA x p = p ∧ spZ x p = p + 1 ∧ spO x p = true := ⟨by rw [perQ, h]; rfl, by rw [spA, h]; rfl, by rw [spZ, h]; rfl, by rw [spO, h]; rfl⟩
theorem v2 {x : CV} (h : x.fq = 2) (t p : Int) : perQ x t = t / 60 ∧ spA x p = p * 60 ∧ spZ x p = (p + 1) * 60 ∧ spO x p = true := ⟨by rw [perQ, h]; rfl, by rw [spA, h]; rfl, by rw [spZ, h]; rfl, by rw [spO, h]; rfl⟩
theorem v3 {x : CV} (h : x.fq = 3) (t p : Int) : perQ x t = t / 3600 ∧ spA x p = p * 3600 ∧ spZ x p = (p + 1) * 3600 ∧ spO x p = true := ⟨by rw [perQ, h]; rfl, by rw [spA, h]; rfl, by rw [spZ, h]; rfl, by rw [spO, h]; rfl⟩
theorem v4 {x : CV} (h : x.fq = 4) (t p : Int) : perQ x t = t / 86400 ∧ spA x p = p * 86400 ∧ spZ x p = (p + 1) * 86400 ∧ spO x p = true := ⟨by rw [perQ, h]; rfl, by rw [spA, h]; rfl, by rw [spZ, h]; rfl, by rw [spO, h]; rfl⟩
theorem v5 {x : CV} (h : x.fq = 5) (t p : Int) : perQ x t = (t / 86400 + 4 - x.wk) / 7 ∧ spA x p = (p * 7 - 4 + x.wk) * 86400 ∧ spZ x p = (p * 7 - 4 + x.wk + 7) * 86400 ∧ spO x p = true := ⟨by rw [perQ, h]; rfl, by rw [spA, h]; rfl, by rw [spZ, h]; rfl, by rw [spO, h]; rfl⟩
theorem v6 {x : CV} (h : x.fq = 6) (t p : Int) : perQ x t = 12 * dY (t / 86400) + dM (t / 86400) - 1 ∧ spA x p = mfV p * 86400 ∧ spZ x p = mfV (p + 1) * 86400 ∧ spO x p = (mfO p && mfO (p + 1)) := ⟨by rw [perQ, h]; rfl, by rw [spA, h]; rfl, by rw [spZ, h]; rfl, by rw [spO, h]; rfl⟩
theorem v7 {x : CV} (h : x.fq = 7) (hn : x.wn = []) (t p : Int) : perQ x t = dY (t / 86400) ∧ spA x p = yfV p * 86400 ∧ spZ x p = yfV (p + 1) * 86400 ∧ spO x p = (yfO p && yfO (p + 1)) := ⟨by rw [perQ, h, hn]; rfl, by rw [spA, h, hn]; rfl, by rw [spZ, h, hn]; rfl, by rw [spO, h, hn]; rfl⟩
theorem v8 {x : CV} (h : x.fq = 7) (hn : x.wn ≠ []) (t p : Int) : perQ x t = noY (t / 86400) x.wk ∧ spA x p = wfV p x.wk * 86400 ∧ spZ x p = wfV (p + 1) x.wk * 86400 ∧ spO x p = (wfO p && wfO (p + 1)) := ⟨by rw [perQ, h, if_neg hn]; rfl, by rw [spA, h, if_neg hn]; rfl, by rw [spZ, h, if_neg hn]; rfl, by rw [spO, h, if_neg hn]; rfl⟩
theorem wfO_in {y : Int} (h : wfO y = true) : 0 ≤ y ∧ y ≤ 10000 := by
  have q := of_decide_eq_true h
  rw [numE] at q
  split at q
  · rename_i v
    have v := of_decide_eq_true v
    omega
  · omega
theorem spQ_iff {x : CV} {p : Int} : spQ x p = true ↔ farB p = false ∧ spO x p = true ∧ moO (spA x p) = true ∧ moO (spZ x p - 1) = true := by
  rw [spQ]
  simp
/-- The span of a time's period, in days and seconds, whatever the frequency. -/
theorem sp_all {x : CV} {t : Int} (hc : ckB x = true) (ht : moO t = true) (ho : spO x (perQ x t) = true) :
    (spA x (perQ x t) ≤ t ∧ t < spZ x (perQ x t)) ∧ (-33000000 ≤ spA x (perQ x t) - t ∧ spZ x (perQ x t) - t ≤ 33000000) ∧
      ∀ u, (-719162 ≤ u / 86400 ∧ u / 86400 < 2932897) → spA x (perQ x t) ≤ u → u < spZ x (perQ x t) → perQ x u = perQ x t := by
  have hf := ck_fq hc
  have hk := ck_wk hc
  have b := mo_bd ht
  have b' : -719162 ≤ t / 86400 ∧ t / 86400 < 2932897 := ⟨b.1, b.2.1⟩
  obtain ⟨p, hp⟩ : ∃ p, perQ x t = p := ⟨_, rfl⟩
  rw [hp] at ho ⊢
  have : x.fq = 1 ∨ x.fq = 2 ∨ x.fq = 3 ∨ x.fq = 4 ∨ x.fq = 5 ∨ x.fq = 6 ∨ x.fq = 7 := by omega
  rcases this with h | h | h | h | h | h | h
  · rw [(v1 h t p).1] at hp
    rw [(v1 h t p).2.1, (v1 h t p).2.2.1]
    exact ⟨by omega, by omega, fun u _ u1 u2 => by rw [(v1 h u p).1]; omega⟩
  · rw [(v2 h t p).1] at hp
    rw [(v2 h t p).2.1, (v2 h t p).2.2.1]
    exact ⟨by omega, by omega, fun u _ u1 u2 => by rw [(v2 h u p).1]; omega⟩
  · rw [(v3 h t p).1] at hp
    rw [(v3 h t p).2.1, (v3 h t p).2.2.1]
    exact ⟨by omega, by omega, fun u _ u1 u2 => by rw [(v3 h u p).1]; omega⟩
  · rw [(v4 h t p).1] at hp
    rw [(v4 h t p).2.1, (v4 h t p).2.2.1]
    exact ⟨by omega, by omega, fun u _ u1 u2 => by rw [(v4 h u p).1]; omega⟩
  · rw [(v5 h t p).1] at hp
    rw [(v5 h t p).2.1, (v5 h t p).2.2.1]
    exact ⟨by omega, by omega, fun u _ u1 u2 => by rw [(v5 h u p).1]; omega⟩
  · rw [(v6 h t p).1] at hp
    rw [(v6 h t p).2.1, (v6 h t p).2.2.1]
    obtain ⟨Y, M, D, e1, e2, e3, y, mm, dd, e, _, _⟩ := dy_bounds b'
    have hp' : 12 * Y + M - 1 = p := by rw [← hp, e1, e2]
    have m1 : mfV p = Cal.ny Y + Cal.cum Y M := by rw [← hp', mf_at (by omega) mm]
    have m2 : mfV (p + 1) = Cal.ny Y + Cal.cum Y M + Cal.mlen Y M := by rw [← hp', mf_next (by omega) mm]
    have l := Cal.mlen_bd Y M
    refine ⟨by rw [m1, m2]; omega, by rw [m1, m2]; omega, fun u ub u1 u2 => ?_⟩
    rw [(v6 h u p).1, ← hp]
    exact mf_day b' (by rw [hp]; omega) (by rw [hp]; omega)
  · by_cases hn : x.wn = []
    · rw [(v7 h hn t p).1] at hp
      rw [(v7 h hn t p).2.1, (v7 h hn t p).2.2.1]
      obtain ⟨Y, M, D, e1, e2, e3, y, mm, dd, e, a1, a2⟩ := dy_bounds b'
      have hp' : Y = p := by rw [← hp, e1]
      have m1 : yfV p = Cal.ny Y := by rw [← hp', yf_at (by omega)]
      have m2 : yfV (p + 1) = Cal.ny (Y + 1) := by rw [← hp', yf_at (by omega)]
      have s := Cal.ny_succ Y
      have l := Cal.lp_01 Y
      refine ⟨by rw [m1, m2]; omega, by rw [m1, m2]; omega, fun u ub u1 u2 => ?_⟩
      rw [(v7 h hn u p).1, ← hp]
      exact yf_day b' (by rw [hp]; omega) (by rw [hp]; omega)
    · rw [(v8 h hn t p).1] at hp
      rw [(v8 h hn t p).2.2.2, Bool.and_eq_true] at ho
      have o1 := wfO_in ho.1
      have o2 := wfO_in ho.2
      rw [(v8 h hn t p).2.1, (v8 h hn t p).2.2.1, (wf_at (k := x.wk) o1).2, (wf_at (k := x.wk) o2).2]
      obtain ⟨a1, a2, a3, a4⟩ := no_span (k := x.wk) hk b'
      have f1 := fw_in p x.wk
      have f2 := fw_in (p + 1) x.wk
      have s := Cal.ny_succ p
      have l := Cal.lp_01 p
      rw [hp] at a3 a4
      refine ⟨by omega, by omega, fun u ub u1 u2 => ?_⟩
      rw [(v8 h hn u p).1, ← hp]
      exact no_of hk b' ub (by rw [hp]; omega) (by rw [hp]; omega)
/-- Far from the ends of the years a time's period has a span. -/
theorem sp_far {x : CV} {t : Int} (hc : ckB x = true) (ht : moO t = true) (hy : 3 ≤ dY (t / 86400) ∧ dY (t / 86400) ≤ 9997) : spQ x (perQ x t) = true := by
  have hf := ck_fq hc
  have hk := ck_wk hc
  have b := mo_bd ht
  have b' : -719162 ≤ t / 86400 ∧ t / 86400 < 2932897 := ⟨b.1, b.2.1⟩
  obtain ⟨Y, M, D, e1, e2, e3, y, mm, dd, e, a1, a2⟩ := dy_bounds b'
  rw [e1] at hy
  have n1 := Cal.ny_mono (a := 3) (b := Y) hy.1
  have n2 := Cal.ny_mono (a := Y + 1) (b := 9998) (by omega)
  have c1 : Cal.ny 3 = -718432 := by decide +kernel
  have c2 : Cal.ny 9998 = 2932167 := by decide +kernel
  have ho : spO x (perQ x t) = true ∧ -300000000000 ≤ perQ x t ∧ perQ x t ≤ 300000000000 := by
    have : x.fq = 1 ∨ x.fq = 2 ∨ x.fq = 3 ∨ x.fq = 4 ∨ x.fq = 5 ∨ x.fq = 6 ∨ x.fq = 7 := by omega
    rcases this with h | h | h | h | h | h | h
    · exact ⟨(v1 h t _).2.2.2, by rw [(v1 h t 0).1]; omega⟩
    · exact ⟨(v2 h t _).2.2.2, by rw [(v2 h t 0).1]; omega⟩
    · exact ⟨(v3 h t _).2.2.2, by rw [(v3 h t 0).1]; omega⟩
    · exact ⟨(v4 h t _).2.2.2, by rw [(v4 h t 0).1]; omega⟩
    · exact ⟨(v5 h t _).2.2.2, by rw [(v5 h t 0).1]; omega⟩
    · rw [(v6 h t _).2.2.2, (v6 h t 0).1, e1, e2, mfO_at (by omega), mfO_at (by omega)]
      exact ⟨rfl, by omega⟩
    · by_cases hn : x.wn = []
      · rw [(v7 h hn t _).2.2.2, (v7 h hn t 0).1, e1, yfO_at (by omega), yfO_at (by omega)]
        exact ⟨rfl, by omega⟩
      · obtain ⟨b1, b2, b3, b4⟩ := no_span (k := x.wk) hk b'
        obtain ⟨q, hq⟩ : ∃ q, noY (t / 86400) x.wk = q := ⟨_, rfl⟩
        have f1 := fw_in q x.wk
        have f2 := fw_in (q + 1) x.wk
        have s := Cal.ny_succ q
        have l := Cal.lp_01 q
        have h9 : q + 1 ≤ 10000 := by
          rw [hq] at b3
          by_cases g : q ≤ 9999
          · omega
          · have n3 := Cal.ny_mono (a := 10000) (b := q) (by omega)
            have c3 : Cal.ny 10000 = 2932897 := by decide +kernel
            omega
        rw [(v8 h hn t _).2.2.2, (v8 h hn t 0).1, hq]
        rw [hq] at b1 b2
        rw [(wf_at (k := x.wk) (y := q) (by omega)).1, (wf_at (k := x.wk) (y := q + 1) (by omega)).1]
        exact ⟨rfl, by omega⟩
  obtain ⟨ho, p1, p2⟩ := ho
  obtain ⟨⟨s1, s2⟩, ⟨s3, s4⟩, _⟩ := sp_all hc ht ho
  refine spQ_iff.2 ⟨decide_eq_false (by omega), ho, mo_of (by omega) (by omega), mo_of (by omega) (by omega)⟩
/-- What the law asks of a time's period that has a span. -/
theorem sp_law {x : CV} {t : Int} (hc : ckB x = true) (ht : moO t = true) (hq : spQ x (perQ x t) = true) :
    (spA x (perQ x t) ≤ t ∧ t < spZ x (perQ x t)) ∧ spZ x (perQ x t) - spA x (perQ x t) ≤ 66000000 ∧ ∀ u, spA x (perQ x t) ≤ u → u < spZ x (perQ x t) → perV x u = perQ x t ∧ perE x u = 0 := by
  obtain ⟨q1, q2, q3, q4⟩ := spQ_iff.1 hq
  obtain ⟨⟨s1, s2⟩, ⟨s3, s4⟩, s5⟩ := sp_all hc ht q2
  have m1 := mo_bd q3
  have m2 := mo_bd q4
  refine ⟨⟨s1, s2⟩, by omega, fun u u1 u2 => ?_⟩
  have hu : moO u = true := mo_of (by omega) (by omega)
  have bu := mo_bd hu
  exact ⟨by rw [perV, if_pos ⟨hc, hu⟩]; exact s5 u ⟨bu.1, bu.2.1⟩ u1 u2, by rw [perE, if_pos hc, if_pos hu]⟩
theorem sp_beyond {x : CV} {p : Int} (hf : 1 ≤ x.fq ∧ x.fq ≤ 7) (hc : ckB x = true) (h : spE x (p + 1) = 0) : spF x (p + 1) = spZ x p := by
  rw [spE, if_pos hc] at h
  by_cases hq : spQ x (p + 1) = true
  · rw [spF, if_pos ⟨hc, hq⟩, sp_next p hf]
  · rw [if_neg hq] at h
    exact absurd h (by decide)
end Fil
end Go.Proofs.YtpcmfgfhdnfmcaaDoor
