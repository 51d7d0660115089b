/-
  Package rrule, plain words: a rule without lists, by seconds, minutes, hours, days or weeks, with a count.
-/
import Derived.Test.YtbdakbjlgljahaaDoorRruYE
namespace Go.Proofs.YtbdakbjlgljahaaDoor
open Go.RowKit
namespace Rru
open Rcv (CV)
open Rck (ckB endB lsB gtB)
open Fil (moO mo_bd mo_of mo_iff spA spZ spQ spO spE spF spT perQ perV perE letP letQ lcB lnB ldB llB v1 v2 v3 v4 v5 spQ_iff)
def plR (fq iv n : Int) : CV := ⟨fq, iv, n, false, 0, false, [], [], [], [], [], [], [], [], [], 1⟩
def stU (fq : Int) : Int := if fq = 1 then 1 else if fq = 2 then 60 else if fq = 3 then 3600 else if fq = 4 then 86400 else 604800
def ofU (fq : Int) : Int := if fq = 5 then -259200 else 0
theorem fq_5 {fq : Int} (h : 1 ≤ fq ∧ fq ≤ 5) : fq = 1 ∨ fq = 2 ∨ fq = 3 ∨ fq = 4 ∨ fq = 5 := by omega
theorem stU_bd (fq : Int) : 1 ≤ stU fq ∧ stU fq ≤ 604800 := by
  rw [stU]; split
  · decide
  · split
    · decide
    · split
      · decide
      · split <;> decide
theorem pl_ck {fq iv n : Int} (hf : 1 ≤ fq ∧ fq ≤ 5) (hi : 1 ≤ iv ∧ iv ≤ 1000) (hn : 0 ≤ n ∧ n ≤ 100000) : ckB (plR fq iv n) = true := by
  have a : lsB (plR fq iv n) = true := by kernel_rfl
  have b : Rck.dyB (plR fq iv n).dy = true := by kernel_rfl
  have c : gtB (plR fq iv n) = true := by
    rcases fq_5 hf with h | h | h | h | h <;> subst h <;> kernel_rfl
  have d : endB (plR fq iv n).un (plR fq iv n).ua (plR fq iv n).ut (plR fq iv n).ct = true := by rfl
  unfold ckB
  simp only [Bool.and_eq_true, decide_eq_true_eq]
  exact ⟨hf.1, show fq ≤ 7 by omega, hi.1, hi.2, hn.1, hn.2, show (0 : Int) ≤ 1 by decide, show (1 : Int) ≤ 6 by decide, d, a, b, c⟩
theorem wd_fwd {A B : Int} (d : (A + 4) % 7 = (B + 4) % 7) : (A - B) * 86400 % 604800 = 0 := by
  obtain ⟨q, hq⟩ : ∃ q, A - B = 7 * q := ⟨(A - B) / 7, by omega⟩
  rw [hq]
  omega
theorem wd_bwd {A B : Int} (h : (A - B) * 86400 % 604800 = 0) : (A + 4) % 7 = (B + 4) % 7 := by
  obtain ⟨c, hc⟩ : ∃ c, (A - B) * 86400 = 604800 * c := ⟨(A - B) * 86400 / 604800, by omega⟩
  have : A - B = 7 * c := by omega
  omega
theorem pl_let {fq iv n st t : Int} (hf : 1 ≤ fq ∧ fq ≤ 5) (hc : ckB (plR fq iv n) = true) (hs : moO st = true) (ht : moO t = true) : letP (plR fq iv n) st t = true ↔ (t - st) % stU fq = 0 := by
  have e2 : lnB (plR fq iv n) (t / 86400) = true := by rfl
  have e3 : ldB (plR fq iv n) (t / 86400) = true := by rfl
  rw [letP, letQ, hc, hs, ht, e2, e3]
  simp only [Bool.true_and, Bool.and_eq_true]
  rcases fq_5 hf with h | h | h | h | h <;> subst h
  · have e1 : lcB (plR 1 iv n) st t = true := by rfl
    have e4 : llB (plR 1 iv n) (st / 86400) (t / 86400) = true := by rfl
    have u : stU 1 = 1 := rfl
    rw [e1, e4, u]
    simp only [true_and]
    constructor
    · intro _; omega
    · intro _; trivial
  · have e1 : lcB (plR 2 iv n) st t = (decide (t % 86400 % 60 = st % 86400 % 60) && (true && true)) := by rfl
    have e4 : llB (plR 2 iv n) (st / 86400) (t / 86400) = true := by rfl
    have u : stU 2 = 60 := rfl
    rw [e1, e4, u]
    simp only [Bool.and_true, and_true, decide_eq_true_eq]
    omega
  · have e1 : lcB (plR 3 iv n) st t = (decide (t % 86400 % 60 = st % 86400 % 60) && (decide (t % 86400 / 60 % 60 = st % 86400 / 60 % 60) && true)) := by rfl
    have e4 : llB (plR 3 iv n) (st / 86400) (t / 86400) = true := by rfl
    have u : stU 3 = 3600 := rfl
    rw [e1, e4, u]
    simp only [Bool.and_true, and_true, Bool.and_eq_true, decide_eq_true_eq]
    omega
  · have e1 : lcB (plR 4 iv n) st t = (decide (t % 86400 % 60 = st % 86400 % 60) && (decide (t % 86400 / 60 % 60 = st % 86400 / 60 % 60) && decide (t % 86400 / 3600 = st % 86400 / 3600))) := by rfl
    have e4 : llB (plR 4 iv n) (st / 86400) (t / 86400) = true := by rfl
    have u : stU 4 = 86400 := rfl
    rw [e1, e4, u]
    simp only [and_true, Bool.and_eq_true, decide_eq_true_eq]
    omega
  · have e1 : lcB (plR 5 iv n) st t = (decide (t % 86400 % 60 = st % 86400 % 60) && (decide (t % 86400 / 60 % 60 = st % 86400 / 60 % 60) && decide (t % 86400 / 3600 = st % 86400 / 3600))) := by rfl
    have e4 : llB (plR 5 iv n) (st / 86400) (t / 86400) = decide (Cal.wday (t / 86400) = Cal.wday (st / 86400)) := by rfl
    have u : stU 5 = 604800 := rfl
    rw [e1, e4, u]
    simp only [Bool.and_eq_true, decide_eq_true_eq, Cal.wday]
    constructor
    · rintro ⟨⟨a, b, c⟩, d⟩
      have k : t % 86400 = st % 86400 := by omega
      have e : t - st = (t / 86400 - st / 86400) * 86400 := by omega
      rw [e]
      exact wd_fwd (of_decide_eq_true d)
    · intro h
      have k : t % 86400 = st % 86400 := by omega
      have e : t - st = (t / 86400 - st / 86400) * 86400 := by omega
      rw [e] at h
      rw [k]
      exact ⟨⟨rfl, rfl, rfl⟩, decide_eq_true (wd_bwd h)⟩
theorem pl_sp {fq iv n : Int} (hf : 1 ≤ fq ∧ fq ≤ 5) (p t : Int) : spA (plR fq iv n) p = p * stU fq + ofU fq ∧ spZ (plR fq iv n) p = p * stU fq + ofU fq + stU fq ∧ spO (plR fq iv n) p = true ∧ perQ (plR fq iv n) t * stU fq + ofU fq ≤ t ∧ t < perQ (plR fq iv n) t * stU fq + ofU fq + stU fq := by
  rcases fq_5 hf with h | h | h | h | h <;> subst h
  · obtain ⟨a, b, c, d⟩ := v1 (x := plR 1 iv n) rfl t p
    rw [a, b, c, show stU 1 = 1 from rfl, show ofU 1 = 0 from rfl]
    exact ⟨by omega, by omega, d, by omega, by omega⟩
  · obtain ⟨a, b, c, d⟩ := v2 (x := plR 2 iv n) rfl t p
    rw [a, b, c, show stU 2 = 60 from rfl, show ofU 2 = 0 from rfl]
    exact ⟨by omega, by omega, d, by omega, by omega⟩
  · obtain ⟨a, b, c, d⟩ := v3 (x := plR 3 iv n) rfl t p
    rw [a, b, c, show stU 3 = 3600 from rfl, show ofU 3 = 0 from rfl]
    exact ⟨by omega, by omega, d, by omega, by omega⟩
  · obtain ⟨a, b, c, d⟩ := v4 (x := plR 4 iv n) rfl t p
    rw [a, b, c, show stU 4 = 86400 from rfl, show ofU 4 = 0 from rfl]
    exact ⟨by omega, by omega, d, by omega, by omega⟩
  · obtain ⟨a, b, c, d⟩ := v5 (x := plR 5 iv n) rfl t p
    rw [a, b, c, show stU 5 = 604800 from rfl, show ofU 5 = -259200 from rfl, show (plR 5 iv n).wk = 1 from rfl]
    exact ⟨by omega, by omega, d, by omega, by omega⟩
/-- Where a time so many units behind the start lies: its period has a span, and it alone is told of it. -/
theorem pl_one {fq iv n st k : Int} (hf : 1 ≤ fq ∧ fq ≤ 5) (hc : ckB (plR fq iv n) = true) (hs : -62135596800 ≤ st ∧ st < 200000000000) (hk : 0 ≤ k ∧ k ≤ 2000) : spE (plR fq iv n) (perQ (plR fq iv n) st + k) = 0 ∧ gP (plR fq iv n) st (perQ (plR fq iv n) st + k) = [st + k * stU fq] ∧ spF (plR fq iv n) (perQ (plR fq iv n) st + k) ≤ 300000000000 := by
  have ms : moO st = true := mo_of (by omega) (by omega)
  obtain ⟨a, z, o, h1, h2⟩ := pl_sp (iv := iv) (n := n) hf (perQ (plR fq iv n) st + k) st
  obtain ⟨p0, hp0⟩ : ∃ p, perQ (plR fq iv n) st = p := ⟨_, rfl⟩
  rw [hp0] at a z o h1 h2 ⊢
  have bd : -62135596800 ≤ (p0 + k) * stU fq + ofU fq ∧ (p0 + k) * stU fq + ofU fq + stU fq ≤ 210000000000 ∧ -1099511627776 ≤ p0 + k ∧ p0 + k ≤ 1099511627776 ∧ (p0 + k) * stU fq = p0 * stU fq + k * stU fq := by
    rcases fq_5 hf with h | h | h | h | h <;> subst h
    · rw [show stU 1 = 1 from rfl, show ofU 1 = 0 from rfl] at *; omega
    · rw [show stU 2 = 60 from rfl, show ofU 2 = 0 from rfl] at *; omega
    · rw [show stU 3 = 3600 from rfl, show ofU 3 = 0 from rfl] at *; omega
    · rw [show stU 4 = 86400 from rfl, show ofU 4 = 0 from rfl] at *; omega
    · rw [show stU 5 = 604800 from rfl, show ofU 5 = -259200 from rfl] at *; omega
  obtain ⟨b1, b2, b3, b4, b5⟩ := bd
  have ub := stU_bd fq
  have e : spE (plR fq iv n) (p0 + k) = 0 := spe_iff.2 ⟨hc, spQ_iff.2 ⟨decide_eq_false (by omega), o, by rw [a]; exact mo_of (by omega) (by omega), by rw [z]; exact mo_of (by omega) (by omega)⟩⟩
  obtain ⟨_, _, _, _, sf, _, _⟩ := spe_at e
  refine ⟨e, single_of (gP_up _ _ _) (fun t => ?_), by rw [sf, a]; omega⟩
  rw [gP_mem ms rfl e, a, z]
  constructor
  · rintro ⟨⟨g1, g2⟩, g3⟩
    have m := (per_in e (by rw [a]; exact g1) (by rw [z]; exact g2)).2.2.2
    have r := (pl_let hf hc ms m).1 g3
    clear a z o sf e g3 m
    rcases fq_5 hf with h | h | h | h | h <;> subst h
    · rw [show stU 1 = 1 from rfl, show ofU 1 = 0 from rfl] at *; omega
    · rw [show stU 2 = 60 from rfl, show ofU 2 = 0 from rfl] at *; omega
    · rw [show stU 3 = 3600 from rfl, show ofU 3 = 0 from rfl] at *; omega
    · rw [show stU 4 = 86400 from rfl, show ofU 4 = 0 from rfl] at *; omega
    · rw [show stU 5 = 604800 from rfl, show ofU 5 = -259200 from rfl] at *; omega
  · intro et
    subst et
    have g1 : (p0 + k) * stU fq + ofU fq ≤ st + k * stU fq := by omega
    have g2 : st + k * stU fq < (p0 + k) * stU fq + ofU fq + stU fq := by omega
    have m := (per_in e (by rw [a]; exact g1) (by rw [z]; exact g2)).2.2.2
    refine ⟨⟨g1, g2⟩, (pl_let hf hc ms m).2 ?_⟩
    rw [show st + k * stU fq - st = k * stU fq by omega]
    exact Int.mul_emod_left _ _
theorem cost_1 {x : CV} {st p a : Int} (h : spE x p = 0) (hp : x.sp = []) (g : gP x st p = [a]) : 1 + ((bsL x st (s0F x st) (spF x p) (spT x p)).length : Int) * ((scL x st).length : Int) = 2 := by
  obtain ⟨_, _, _, _, f, t, _⟩ := spe_at h
  rw [ga_eq h, tiL, if_pos hp] at g
  have l := congrArg List.length g
  have fl := fl_len (bsL x st (s0F x st) (spA x p) (spZ x p - 1)) (scL x st)
  rw [flF, l] at fl
  rw [f, t, ← Int.natCast_mul, ← fl]
  rfl
theorem go_count {x : CV} {st tt f p0 : Int} {N : Nat} {tj : Nat → Int} (hN : x.ct = (N : Int)) (hN1 : 1 ≤ N) (hu : x.un = false) (hp : x.sp = []) (h : ∀ j : Nat, j < N → spE x (p0 + (j : Int) * x.iv) = 0 ∧ gP x st (p0 + (j : Int) * x.iv) = [tj j] ∧ spF x (p0 + (j : Int) * x.iv) ≤ tt ∧ tj j ≤ tt ∧ (1 ≤ j → st < tj j)) (hf : 2 * (N : Int) ≤ f) : ∀ (i m j : Nat), j + i = N → 1 ≤ j → i < m → goT x st st tt f m (p0 + (j : Int) * x.iv) (2 * (j : Int)) ((j : Int), (List.range j).map tj) = some (2 * (N : Int), (List.range N).map tj)
  | _, 0, _, _, _, h => absurd h (by omega)
  | 0, m + 1, j, hj, _, _ => by
    obtain rfl : j = N := by omega
    rw [goT, if_pos (by rw [fuB, hN]; simp; omega)]
  | i + 1, m + 1, j, hj, j1, hm => by
    obtain ⟨e, g, s, t1, t2⟩ := h j (by omega)
    have fu : fuB x (j : Int) = false := by rw [fuB, hN, decide_eq_false (show ¬ (N : Int) ≤ (j : Int) by omega), Bool.and_false]
    have be : beB x tt (p0 + (j : Int) * x.iv) = false := by rw [beB, hu, e, decide_eq_false (show ¬ tt < spF x (p0 + (j : Int) * x.iv) by omega)]; rfl
    have gg : gaL x st (spF x (p0 + (j : Int) * x.iv)) (spT x (p0 + (j : Int) * x.iv)) = [tj j] := by rw [← g, gP, if_pos e]
    have ps : perS x st st tt [tj j] ((j : Int), (List.range j).map tj) = (((j + 1 : Nat) : Int), (List.range (j + 1)).map tj) := by
      rw [perS, if_neg (by rw [hN, hu]; simp; omega), if_pos (t2 j1), perS, tkL, if_pos ⟨by have := t2 j1; omega, t1⟩, List.range_succ, List.map_append]
      rfl
    rw [goT, if_neg (by rw [fu]; decide), if_neg (by rw [be]; decide), cost_1 e hp g, if_neg (by omega), gg, ps]
    have ih := go_count hN hN1 hu hp h hf i m (j + 1) (by omega) (by omega) (by omega)
    rw [show p0 + (j : Int) * x.iv + x.iv = p0 + ((j + 1 : Nat) : Int) * x.iv by rw [Int.natCast_add, Int.add_mul]; omega, show 2 * (j : Int) + 2 = 2 * ((j + 1 : Nat) : Int) by omega]
    exact ih
/-- The times of such a rule. -/
theorem days_1 {fq iv n st : Int} (hf : 1 ≤ fq ∧ fq ≤ 5) (hi : 1 ≤ iv ∧ iv ≤ 50) (hn : 1 ≤ n ∧ n ≤ 30) (hs : -62135596800 ≤ st ∧ st < 200000000000) : ∃ c, tmX (plR fq iv n) st st 4611686018427387904 3000 = (0, c, (List.range n.toNat).map (fun j : Nat => st + (j : Int) * iv * stU fq)) := by
  have hc := pl_ck (fq := fq) (iv := iv) (n := n) hf ⟨hi.1, by omega⟩ ⟨by omega, by omega⟩
  have ms : moO st = true := mo_of (by omega) (by omega)
  have ub := stU_bd fq
  obtain ⟨N, rfl⟩ : ∃ N : Nat, n = N := ⟨n.toNat, by omega⟩
  have ar : arB st 4611686018427387904 3000 = false := by
    rw [arB, wiB, wiB, decide_eq_false (show ¬ (4611686018427387904 : Int) < st by omega), decide_eq_true (show -4611686018427387904 ≤ st ∧ st ≤ 4611686018427387904 by omega)]
    rfl
  have pe : perE (plR fq iv N) st = 0 := by rw [perE, if_pos hc, if_pos ms]
  have pv : perV (plR fq iv N) st = perQ (plR fq iv N) st := by rw [perV, if_pos ⟨hc, ms⟩]
  have H : ∀ j : Nat, j < N → spE (plR fq iv N) (perQ (plR fq iv N) st + (j : Int) * (plR fq iv N).iv) = 0 ∧ gP (plR fq iv N) st (perQ (plR fq iv N) st + (j : Int) * (plR fq iv N).iv) = [st + (j : Int) * iv * stU fq] ∧ spF (plR fq iv N) (perQ (plR fq iv N) st + (j : Int) * (plR fq iv N).iv) ≤ 4611686018427387904 ∧ st + (j : Int) * iv * stU fq ≤ 4611686018427387904 ∧ (1 ≤ j → st < st + (j : Int) * iv * stU fq) := fun j hj => by
    have b0 : 0 ≤ (j : Int) * iv := Int.mul_nonneg (Int.natCast_nonneg _) (by omega)
    have b1 : (j : Int) * iv ≤ 30 * 50 := Int.mul_le_mul (by omega) hi.2 (by omega) (by decide)
    have b2 : (j : Int) * iv * stU fq ≤ 1500 * 604800 := Int.mul_le_mul (by omega) ub.2 (by omega) (by decide)
    obtain ⟨e, g, s⟩ := pl_one (iv := iv) (n := N) (st := st) (k := (j : Int) * iv) hf hc hs ⟨b0, by omega⟩
    refine ⟨e, g, by have : spF (plR fq iv N) (perQ (plR fq iv N) st + (j : Int) * (plR fq iv N).iv) ≤ 300000000000 := s; omega, by omega, fun j1 => ?_⟩
    have c1 : 1 * iv ≤ (j : Int) * iv := Int.mul_le_mul_of_nonneg_right (by omega) (by omega)
    have c2 : 1 * 1 ≤ (j : Int) * iv * stU fq := Int.mul_le_mul (by omega) ub.1 (by decide) (by omega)
    omega
  have fs : fsF (plR fq iv N) (perQ (plR fq iv N) st) st = (perQ (plR fq iv N) st, true) := by
    have e0 := (H 0 (by omega)).1
    simp only [Int.natCast_zero, Int.zero_mul, Int.add_zero] at e0
    rw [fsF, if_neg (by rw [e0]; decide), if_pos (show 0 < (plR fq iv N).ct ∨ st ≤ spT (plR fq iv N) (perQ (plR fq iv N) st) from Or.inl (show (0 : Int) < N by omega))]
  have tk : tkL st 4611686018427387904 st [] = [st] := by rw [tkL, if_pos ⟨Int.le_refl _, by omega⟩]; rfl
  rw [tm_ok pe ar, tmR, pv, fs, if_pos rfl, tk]
  show ∃ c, outX (goT (plR fq iv N) st st 4611686018427387904 3000 (3001 + 1) (perQ (plR fq iv N) st) 0 (1, [st])) = _
  by_cases n1 : N = 1
  · subst n1
    refine ⟨0, ?_⟩
    rw [goT, if_pos (by rfl)]
    simp [outX]
  · obtain ⟨e, g, s, _, _⟩ := H 0 (by omega)
    simp only [Int.natCast_zero, Int.zero_mul, Int.add_zero] at e g s
    refine ⟨2 * (N : Int), ?_⟩
    have fu : fuB (plR fq iv N) 1 = false := by
      rw [fuB, show (plR fq iv N).ct = (N : Int) from rfl, decide_eq_false (show ¬ (N : Int) ≤ 1 by omega), Bool.and_false]
    have be : beB (plR fq iv N) 4611686018427387904 (perQ (plR fq iv N) st) = false := by rw [beB, show (plR fq iv N).un = false from rfl, e, decide_eq_false (show ¬ 4611686018427387904 < spF (plR fq iv N) (perQ (plR fq iv N) st) by omega)]; rfl
    have gg : gaL (plR fq iv N) st (spF (plR fq iv N) (perQ (plR fq iv N) st)) (spT (plR fq iv N) (perQ (plR fq iv N) st)) = [st] := by rw [← g, gP, if_pos e]
    have ps : perS (plR fq iv N) st st 4611686018427387904 [st] (1, [st]) = (1, [st]) := by
      rw [perS, if_neg (by rw [show (plR fq iv N).ct = (N : Int) from rfl, show (plR fq iv N).un = false from rfl]; simp; omega), if_neg (by omega), perS]
    rw [goT, if_neg (by rw [fu]; decide), if_neg (by rw [be]; decide), cost_1 e rfl g, if_neg (by decide), gg, ps]
    have k := go_count (x := plR fq iv N) (st := st) (tt := 4611686018427387904) (f := 3000) (p0 := perQ (plR fq iv N) st) (N := N) (tj := fun j : Nat => st + (j : Int) * iv * stU fq) rfl (by omega) rfl rfl H (by omega) (N - 1) 3001 1 (by omega) (by omega) (by omega)
    have k1 : (List.range 1).map (fun j : Nat => st + (j : Int) * iv * stU fq) = [st] := by simp
    rw [k1] at k
    have k2 : perQ (plR fq iv N) st + ((1 : Nat) : Int) * (plR fq iv N).iv = perQ (plR fq iv N) st + (plR fq iv N).iv := by simp
    rw [k2] at k
    have k3 : goT (plR fq iv N) st st 4611686018427387904 3000 3001 (perQ (plR fq iv N) st + (plR fq iv N).iv) (0 + 2) (1, [st]) = some (2 * (N : Int), (List.range N).map (fun j : Nat => st + (j : Int) * iv * stU fq)) := k
    rw [k3]
    rfl
end Rru
end Go.Proofs.YtbdakbjlgljahaaDoor
