/-
  Package rrule, plain words: a rule by days with an end.
-/
import Derived.Test.YtpbbnkgfheafpaaGreatDoorBdU6
import Derived.Test.YtpbbnkgfheafpaaGreatDoorRruZ
namespace Go.Proofs.YtpbbnkgfheafpaaGreatDoor
open Go.RowKit
namespace Rru
open Rcv (CV)
open Rck (ckB endB lsB dyB gtB)
open Fil (moO mo_bd mo_of mo_iff spA spZ spQ spO spE spF spT perQ perV perE letP letQ lcB lnB ldB llB v4 spQ_iff)
theorem single_of {a : Int} : ∀ {L : List Int}, L.Pairwise (· < ·) → (∀ t, t ∈ L ↔ t = a) → L = [a]
  | [], _, h => absurd ((h a).2 rfl) (by simp)
  | [b], _, h => by rw [(h b).1 (by simp)]
  | b :: c :: r, hp, h => by
    have e1 := (h b).1 (by simp)
    have e2 := (h c).1 (by simp)
    have := (List.pairwise_cons.1 hp).1 c (by simp)
    omega
theorem sorted_ext : ∀ {L M : List Int}, L.Pairwise (· < ·) → M.Pairwise (· < ·) → (∀ t, t ∈ L ↔ t ∈ M) → L = M
  | [], [], _, _, _ => rfl
  | [], b :: r, _, _, h => absurd ((h b).2 (by simp)) (by simp)
  | a :: r, [], _, _, h => absurd ((h a).1 (by simp)) (by simp)
  | a :: r, b :: s, hp, hq, h => by
    obtain ⟨p1, p2⟩ := List.pairwise_cons.1 hp
    obtain ⟨q1, q2⟩ := List.pairwise_cons.1 hq
    have e : a = b := by
      have x1 := (h a).1 (by simp)
      have x2 := (h b).2 (by simp)
      rcases List.mem_cons.1 x1 with x1 | x1
      · exact x1
      · rcases List.mem_cons.1 x2 with x2 | x2
        · exact x2.symm
        · have := p1 b x2
          have := q1 a x1
          omega
    subst e
    rw [sorted_ext p2 q2 (fun t => ?_)]
    constructor
    · intro ht
      rcases List.mem_cons.1 ((h t).1 (List.mem_cons_of_mem _ ht)) with k | k
      · have := p1 t ht; omega
      · exact k
    · intro ht
      rcases List.mem_cons.1 ((h t).2 (List.mem_cons_of_mem _ ht)) with k | k
      · have := q1 t ht; omega
      · exact k
def dyR (iv ua : Int) : CV := ⟨4, iv, 0, true, ua, false, [], [], [], [], [], [], [], [], [], 1⟩
theorem dy_ck {iv ua : Int} (hi : 1 ≤ iv ∧ iv ≤ 1000) (hu : moO ua = true) : ckB (dyR iv ua) = true := by
  have b := mo_bd hu
  unfold ckB
  simp only [Bool.and_eq_true, decide_eq_true_eq]
  refine ⟨show (1 : Int) ≤ 4 by decide, show (4 : Int) ≤ 7 by decide, hi.1, hi.2, show (0 : Int) ≤ 0 by decide, show (0 : Int) ≤ 100000 by decide, show (0 : Int) ≤ 1 by decide, show (1 : Int) ≤ 6 by decide, ?_, by kernel_rfl, by kernel_rfl, by kernel_rfl⟩
  show endB true ua false 0 = true
  rw [endB, if_pos rfl, b.2.2.1, decide_eq_true b.2.2.2.1, decide_eq_true b.2.2.2.2]
  rfl
theorem dy_let {iv ua st t : Int} (hc : ckB (dyR iv ua) = true) (hs : moO st = true) (ht : moO t = true) : letP (dyR iv ua) st t = true ↔ (t - st) % 86400 = 0 := by
  have e1 : lcB (dyR iv ua) st t = (decide (t % 86400 % 60 = st % 86400 % 60) && (decide (t % 86400 / 60 % 60 = st % 86400 / 60 % 60) && decide (t % 86400 / 3600 = st % 86400 / 3600))) := by rfl
  have e2 : lnB (dyR iv ua) (t / 86400) = true := by rfl
  have e3 : ldB (dyR iv ua) (t / 86400) = true := by rfl
  have e4 : llB (dyR iv ua) (st / 86400) (t / 86400) = true := by rfl
  rw [letP, letQ, hc, hs, ht, e1, e2, e3, e4]
  simp only [Bool.true_and, Bool.and_true, Bool.and_eq_true, decide_eq_true_eq]
  omega
theorem dy_sp {iv ua p : Int} (hc : ckB (dyR iv ua) = true) (h : -719162 ≤ p ∧ p < 2932897) : spE (dyR iv ua) p = 0 ∧ spF (dyR iv ua) p = p * 86400 ∧ spT (dyR iv ua) p = (p + 1) * 86400 - 1 ∧ spA (dyR iv ua) p = p * 86400 ∧ spZ (dyR iv ua) p = (p + 1) * 86400 := by
  obtain ⟨_, a, z, o⟩ := v4 (x := dyR iv ua) rfl 0 p
  have e : spE (dyR iv ua) p = 0 := spe_iff.2 ⟨hc, spQ_iff.2 ⟨decide_eq_false (by omega), o, by rw [a]; exact mo_of (by omega) (by omega), by rw [z]; exact mo_of (by omega) (by omega)⟩⟩
  obtain ⟨_, _, _, _, f, t, _⟩ := spe_at e
  exact ⟨e, by rw [f, a], by rw [t, z], a, z⟩
theorem dy_gP {iv ua st p : Int} (hc : ckB (dyR iv ua) = true) (hs : moO st = true) (h : spE (dyR iv ua) p = 0) : gP (dyR iv ua) st p = [p * 86400 + st % 86400] := by
  refine single_of (gP_up _ _ _) (fun t => ?_)
  obtain ⟨_, a, z, _⟩ := v4 (x := dyR iv ua) rfl 0 p
  rw [gP_mem hs rfl h]
  constructor
  · rintro ⟨⟨h1, h2⟩, h3⟩
    have m := (per_in h h1 h2).2.2.2
    rw [a] at h1
    rw [z] at h2
    have := (dy_let hc hs m).1 h3
    omega
  · intro e
    have h1 : spA (dyR iv ua) p ≤ t := by rw [a]; omega
    have h2 : t < spZ (dyR iv ua) p := by rw [z]; omega
    exact ⟨⟨h1, h2⟩, (dy_let hc hs (per_in h h1 h2).2.2.2).2 (by omega)⟩
theorem dy_cost {iv ua st p : Int} (hc : ckB (dyR iv ua) = true) (hs : moO st = true) (h : spE (dyR iv ua) p = 0) : 1 + ((bsL (dyR iv ua) st (s0F (dyR iv ua) st) (spF (dyR iv ua) p) (spT (dyR iv ua) p)).length : Int) * ((scL (dyR iv ua) st).length : Int) = 2 := by
  obtain ⟨_, _, _, _, f, t, _⟩ := spe_at h
  have g := dy_gP hc hs h
  have k : (dyR iv ua).sp = [] := rfl
  rw [ga_eq h, tiL, if_pos k] at g
  have l := congrArg List.length g
  have fl := fl_len (bsL (dyR iv ua) st (s0F (dyR iv ua) st) (spA (dyR iv ua) p) (spZ (dyR iv ua) p - 1)) (scL (dyR iv ua) st)
  rw [flF, l] at fl
  rw [f, t, ← Int.natCast_mul, ← fl]
  rfl
theorem go_some {x : CV} {st fr tt f : Int} (hcost : ∀ p, spE x p = 0 → 1 + ((bsL x st (s0F x st) (spF x p) (spT x p)).length : Int) * ((scL x st).length : Int) ≤ 2) : ∀ (k m : Nat) (p c : Int) (s : Int × List Int), beB x tt (p + (k : Int) * x.iv) = true → c + 2 * (k : Int) ≤ f → k < m → ∃ r, goT x st fr tt f m p c s = some r ∧ r.1 ≤ c + 2 * (k : Int)
  | k, 0, _, _, _, _, _, h => absurd h (by omega)
  | 0, m + 1, p, c, s, hb, hf, _ => by
    rw [goT]
    split
    · exact ⟨_, rfl, by simp⟩
    · rw [if_pos (by simpa using hb)]
      exact ⟨_, rfl, by simp⟩
  | k + 1, m + 1, p, c, s, hb, hf, hm => by
    rw [goT]
    split
    · exact ⟨_, rfl, by simp only; omega⟩
    · split
      · exact ⟨_, rfl, by simp only; omega⟩
      · rename_i h2
        have q := hcost p (be_sp h2)
        have cp := cost_pos x st p
        rw [if_neg (by omega)]
        obtain ⟨r, h1, h2⟩ := go_some (x := x) (st := st) (fr := fr) (tt := tt) (f := f) hcost k m (p + x.iv) (c + (1 + ((bsL x st (s0F x st) (spF x p) (spT x p)).length : Int) * ((scL x st).length : Int))) (perS x st fr tt (gaL x st (spF x p) (spT x p)) s) (by
          rw [show p + x.iv + (k : Int) * x.iv = p + ((k + 1 : Nat) : Int) * x.iv by rw [Int.natCast_add, Int.add_mul]; omega]
          exact hb) (by omega) (by omega)
        exact ⟨r, h1, by omega⟩
theorem dy_be {iv ua tt p : Int} (hc : ckB (dyR iv ua) = true) (h : -719162 ≤ p ∧ p < 2932897) (hu : ua < p * 86400) : beB (dyR iv ua) tt p = true := by
  have s := (dy_sp hc h).2.1
  rw [beB, s, show (dyR iv ua).un = true from rfl, show (dyR iv ua).ua = ua from rfl, decide_eq_true hu]
  simp
/-- It is told, at small cost. -/
theorem dy_told {iv ua st fr : Int} {k : Nat} (hc : ckB (dyR iv ua) = true) (hs : moO st = true) (hf : fr ≤ st) (hf2 : -4611686018427387904 ≤ fr) (h : -719162 ≤ st / 86400 + (k : Int) * iv ∧ st / 86400 + (k : Int) * iv < 2932897) (hu : ua < (st / 86400 + (k : Int) * iv) * 86400) (hk : k ≤ 100) : arB fr 4611686018427387904 3000 = false ∧ ∃ c O, tmX (dyR iv ua) st fr 4611686018427387904 3000 = (0, c, O) ∧ c ≤ 2 * (k : Int) := by
  have b := mo_bd hs
  have ar : arB fr 4611686018427387904 3000 = false := by
    rw [arB, wiB, wiB, decide_eq_false (show ¬ (4611686018427387904 : Int) < fr by omega), decide_eq_true (show -4611686018427387904 ≤ fr ∧ fr ≤ 4611686018427387904 by omega)]
    rfl
  have pe : perE (dyR iv ua) st = 0 := by rw [perE, if_pos hc, if_pos hs]
  have pv : perV (dyR iv ua) st = st / 86400 := by rw [perV, if_pos ⟨hc, hs⟩, (v4 (x := dyR iv ua) rfl st 0).1]
  obtain ⟨e0, _, t0, _⟩ := dy_sp (p := st / 86400) hc ⟨b.1, b.2.1⟩
  have ef : fsF (dyR iv ua) (st / 86400) fr = (st / 86400, true) := by
    rw [fsF, if_neg (by rw [e0]; decide), if_pos (Or.inr (by rw [t0]; omega))]
  obtain ⟨r, hr, hr2⟩ := go_some (x := dyR iv ua) (st := st) (fr := fr) (tt := 4611686018427387904) (f := 3000) (fun p hp => Int.le_of_eq (dy_cost hc hs hp)) k 3002 (st / 86400) 0 (1, tkL fr 4611686018427387904 st []) (dy_be hc h hu) (by omega) (by omega)
  refine ⟨ar, r.1, r.2, ?_, by omega⟩
  rw [tm_ok pe ar, tmR, pv, ef, if_pos rfl]
  show outX (goT (dyR iv ua) st fr 4611686018427387904 3000 3002 (st / 86400) 0 (1, tkL fr 4611686018427387904 st [])) = _
  rw [hr]
  rfl
/-- The times of a rule by days with an end. -/
theorem until_1 {iv n more st ua : Int} (hs : -62000000000 ≤ st ∧ st ≤ 200000000000) (hi : 1 ≤ iv ∧ iv ≤ 10) (hn : 0 ≤ n ∧ n ≤ 19) (hm : 0 ≤ more ∧ more < 86400) (hua : ua = st + n * iv * 86400 + more) : ∃ c O, tmX (dyR iv ua) st st 4611686018427387904 3000 = (0, c, O) ∧ O = (List.range (n.toNat + 1)).map (fun j : Nat => st + (j : Int) * iv * 86400) := by
  have ni : 0 ≤ n * iv ∧ n * iv ≤ 190 := ⟨Int.mul_nonneg (by omega) (by omega), by
    have := Int.mul_le_mul hn.2 hi.2 (by omega) (by omega)
    omega⟩
  have ms : moO st = true := mo_of (by omega) (by omega)
  have mu : moO ua = true := mo_of (by omega) (by omega)
  have hc := dy_ck (iv := iv) (ua := ua) ⟨hi.1, by omega⟩ mu
  have pv : perV (dyR iv ua) st = st / 86400 := by rw [perV, if_pos ⟨hc, ms⟩, (v4 (x := dyR iv ua) rfl st 0).1]
  have k2 : ((n.toNat + 2 : Nat) : Int) * iv = n * iv + 2 * iv := by rw [show ((n.toNat + 2 : Nat) : Int) = n + 2 by omega, Int.add_mul]
  obtain ⟨ar, c, O, hX, _⟩ := dy_told (fr := st) (k := n.toNat + 2) hc ms (Int.le_refl _) (by omega) (by rw [k2]; omega) (by rw [k2]; omega) (by omega)
  refine ⟨c, O, hX, ?_⟩
  obtain ⟨k0, hk⟩ := tm_all hc ms ar hX
  have hO := hk (k0 + n.toNat + 1) (by omega)
  have up : O.Pairwise (· < ·) := by rw [hO]; exact (aL_up (x := dyR iv ua) hi.1 _).filter _
  have tj : ∀ j : Nat, (st / 86400 + (j : Int) * iv) * 86400 + st % 86400 = st + (j : Int) * iv * 86400 := fun j => by rw [Int.add_mul]; omega
  have spj : ∀ j : Nat, j ≤ n.toNat → spE (dyR iv ua) (st / 86400 + (j : Int) * iv) = 0 ∧ (j : Int) * iv ≤ n * iv := fun j hj => by
    have a : (j : Int) * iv ≤ n * iv := Int.mul_le_mul_of_nonneg_right (by omega) (by omega)
    have b : 0 ≤ (j : Int) * iv := Int.mul_nonneg (Int.natCast_nonneg _) (by omega)
    exact ⟨(dy_sp hc ⟨by omega, by omega⟩).1, a⟩
  refine sorted_ext up ?_ (fun t => ?_)
  · rw [List.pairwise_map]
    refine List.pairwise_lt_range.imp (fun {i j} h => ?_)
    have : ((i : Int) + 1) * iv ≤ (j : Int) * iv := Int.mul_le_mul_of_nonneg_right (by omega) (by omega)
    rw [Int.add_mul] at this
    omega
  · rw [hO, List.mem_filter, List.mem_map]
    have e0 := (dy_sp (p := st / 86400) hc ⟨by omega, by omega⟩).1
    have un : (dyR iv ua).un = true := rfl
    have uu : (dyR iv ua).ua = ua := rfl
    have ivv : (dyR iv ua).iv = iv := rfl
    constructor
    · rintro ⟨h, hin⟩
      rcases aL_mem h with e | ⟨e, ok⟩
      · exact ⟨0, List.mem_range.2 (by omega), by rw [e]; simp⟩
      · rw [uL, pv, if_pos e0] at e
        obtain ⟨j, _, hj⟩ := uG_mem.1 e
        rw [ivv] at hj
        rw [dy_gP hc ms (gP_sp hj), List.mem_singleton, tj] at hj
        rw [okU, un, uu, Bool.and_eq_true] at ok
        have ok2 := ok.2
        simp only [Bool.true_and, Bool.not_eq_true', decide_eq_false_iff_not] at ok2
        refine ⟨j, List.mem_range.2 ?_, hj.symm⟩
        by_cases g : j ≤ n.toNat
        · omega
        · have : (n + 1) * iv ≤ (j : Int) * iv := Int.mul_le_mul_of_nonneg_right (by omega) (by omega)
          rw [Int.add_mul] at this
          omega
    · rintro ⟨j, hj, rfl⟩
      rw [List.mem_range] at hj
      obtain ⟨sj, lj⟩ := spj j (by omega)
      have b : 0 ≤ (j : Int) * iv := Int.mul_nonneg (Int.natCast_nonneg _) (by omega)
      refine ⟨?_, by rw [inS, decide_eq_true (show st ≤ st + (j : Int) * iv * 86400 by omega), decide_eq_true (show st + (j : Int) * iv * 86400 ≤ 4611686018427387904 by omega)]; rfl⟩
      by_cases j0 : j = 0
      · subst j0
        rw [aL]
        simp
      · have pos : 1 * iv ≤ (j : Int) * iv := Int.mul_le_mul_of_nonneg_right (by omega) (by omega)
        rw [aL, tkN_off (show ¬ 0 < (dyR iv ua).ct from (by decide : ¬ (0 : Int) < 0))]
        refine List.mem_cons_of_mem _ (List.mem_filter.2 ⟨?_, ?_⟩)
        · rw [uL, pv, if_pos e0]
          refine uG_mem.2 ⟨j, by omega, ?_⟩
          rw [ivv, dy_gP hc ms sj, List.mem_singleton, tj]
        · rw [okU, un, uu, decide_eq_true (show st < st + (j : Int) * iv * 86400 by omega), decide_eq_false (show ¬ ua < st + (j : Int) * iv * 86400 by omega)]
          rfl
/-- An end ahead of the start. -/
theorem until_2 {iv st : Int} (hs : -62000000000 ≤ st ∧ st ≤ 200000000000) (hi : 1 ≤ iv ∧ iv ≤ 10) : ∃ c, tmX (dyR iv (st - 1)) st (st - 86400) 4611686018427387904 3000 = (0, c, [st]) ∧ c ≤ 2 := by
  have ms : moO st = true := mo_of (by omega) (by omega)
  have mu : moO (st - 1) = true := mo_of (by omega) (by omega)
  have hc := dy_ck (iv := iv) (ua := st - 1) ⟨hi.1, by omega⟩ mu
  obtain ⟨ar, c, O, hX, hc2⟩ := dy_told (fr := st - 86400) (k := 1) hc ms (by omega) (by omega) (by omega) (by omega) (by decide)
  obtain ⟨k0, hk⟩ := tm_all hc ms ar hX
  have hO := hk k0 (Nat.le_refl _)
  have up : O.Pairwise (· < ·) := by rw [hO]; exact (aL_up (x := dyR iv (st - 1)) hi.1 _).filter _
  have e : O = [st] := by
    refine single_of up (fun t => ?_)
    rw [hO, List.mem_filter]
    constructor
    · rintro ⟨h, _⟩
      rcases aL_mem h with e | ⟨_, ok⟩
      · exact e
      · rw [okU, show (dyR iv (st - 1)).un = true from rfl, show (dyR iv (st - 1)).ua = st - 1 from rfl, Bool.and_eq_true, decide_eq_true_eq] at ok
        have ok2 := ok.2
        simp only [Bool.true_and, Bool.not_eq_true', decide_eq_false_iff_not] at ok2
        omega
    · intro e
      rw [e]
      refine ⟨by rw [aL]; simp, by rw [inS, decide_eq_true (show st - 86400 ≤ st by omega), decide_eq_true (show st ≤ 4611686018427387904 by omega)]; rfl⟩
  exact ⟨c, by rw [hX, e], by omega⟩
end Rru
end Go.Proofs.YtpbbnkgfheafpaaGreatDoor
