/-
  Package rrule, plain words: a rule by months without lists, with a count: its times are those of the months that have the start's day; a yearly one of February 29.
-/
import Derived.Test.YtgaolaafjiiehaaDoorRruYH
import Derived.Test.YtgaolaafjiiehaaDoorRruYW
namespace Go.Proofs.YtgaolaafjiiehaaDoor
open Go.RowKit
namespace Rru
open Rcv (CV)
open Rck (ckB)
open Civ (dY dM dD)
open Fil (moO mo_bd mo_of spA spZ spQ spO spE spF spT perQ perV perE mfV mfO mf_at v6 spQ_iff mfO_at)
theorem dd_num {Y M D : Int} (hy : 1 ≤ Y ∧ Y ≤ 9999) (hm : 1 ≤ M ∧ M ≤ 12) (hd : 1 ≤ D ∧ D ≤ Cal.mlen Y M) : (-719162 ≤ Cal.ny Y + Cal.cum Y M + D - 1 ∧ Cal.ny Y + Cal.cum Y M + D - 1 < 2932897) ∧ dY (Cal.ny Y + Cal.cum Y M + D - 1) = Y ∧ dM (Cal.ny Y + Cal.cum Y M + D - 1) = M ∧ dD (Cal.ny Y + Cal.cum Y M + D - 1) = D := by
  have c1 : Cal.ny 1 = -719162 := by decide +kernel
  have c2 : Cal.ny 10000 = 2932897 := by decide +kernel
  have s := Cal.ny_succ Y
  have cb := Cal.cum_bd (y := Y) hm.1 hm.2
  have m1 := Cal.ny_mono (a := 1) (b := Y) hy.1
  have m2 := Cal.ny_mono (a := Y + 1) (b := 10000) (by omega)
  obtain ⟨N, hN⟩ : ∃ N, Cal.ny Y + Cal.cum Y M + D - 1 = N := ⟨_, rfl⟩
  rw [hN]
  have yr := Cal.yr_of (n := N) (y := Y) (by omega) (by omega) (by omega) (by omega)
  have mo := Cal.mon_of (y := Y) (r := N - Cal.ny Y) hm.1 hm.2 (by omega) (by omega)
  obtain ⟨a, b, c⟩ := Civ.dd_yes (n := N) ⟨by omega, by omega⟩
  rw [yr] at a b c
  rw [mo] at b c
  exact ⟨⟨by omega, by omega⟩, a, b, by rw [c]; omega⟩
theorem mf_12 : mfV 12 = -719162 := by
  have c1 : Cal.ny 1 = -719162 := by decide +kernel
  have k := mf_at (Y := 1) (M := 1) (by decide) (by decide)
  rw [Cal.cum_1, c1] at k
  exact k
theorem mf_z : mfV 120000 = 2932897 := by
  have c1 : Cal.ny 10000 = 2932897 := by decide +kernel
  have k := mf_at (Y := 10000) (M := 1) (by decide) (by decide)
  rw [Cal.cum_1, c1] at k
  exact k
theorem mn_spe {iv n p : Int} (hc : ckB (mnR iv n) = true) : spE (mnR iv n) p = 0 ↔ 12 ≤ p ∧ p < 120000 := by
  obtain ⟨_, a, z, o⟩ := v6 (x := mnR iv n) rfl 0 p
  have k1 := mf_12
  have k2 := mf_z
  constructor
  · intro h
    obtain ⟨_, ho, m1, m2, _⟩ := spe_at h
    rw [o, Bool.and_eq_true] at ho
    have p1 := mfO_in ho.1
    have p2 := mfO_in ho.2
    rw [a] at m1
    rw [z] at m2
    have b1 := mo_bd m1
    have b2 := mo_bd m2
    have st := mf_step (p := p) (by omega) (by omega)
    constructor
    · by_cases g : 12 ≤ p
      · exact g
      · have m := mf_mono (p := p + 1) (q := 12) (by omega) (by omega) (by omega)
        omega
    · by_cases g : p < 120000
      · exact g
      · have m := mf_mono (p := 120000) (q := p) (by omega) (by omega) (by omega)
        omega
  · intro h
    have m1 := mf_mono (p := 12) (q := p) (by omega) h.1 (by omega)
    have m2 := mf_step (p := p) (by omega) (by omega)
    have m3 := mf_mono (p := p + 1) (q := 120000) (by omega) (by omega) (by omega)
    refine spe_iff.2 ⟨hc, spQ_iff.2 ⟨decide_eq_false (by omega), ?_, ?_, ?_⟩⟩
    · rw [o, mfO_at (by omega), mfO_at (by omega)]; rfl
    · rw [a]; exact mo_of (by omega) (by omega)
    · rw [z]; exact mo_of (by omega) (by omega)
/-- A month's time, if it has the day. -/
def mnU (p D : Int) : Option Int := if D ≤ Cal.mlen (p / 12) (p % 12 + 1) then some ((Cal.ny (p / 12) + Cal.cum (p / 12) (p % 12 + 1) + D - 1) * 86400) else none
def mnW (P iv D : Int) (j : Nat) : Option Int := mnU (P + (j : Int) * iv) D
theorem mn_gU {iv n st D p : Int} (hc : ckB (mnR iv n) = true) (hs : moO st = true) (hD : dD (st / 86400) = D) (h0 : st % 86400 = 0) (hp : 12 ≤ p ∧ p < 120000) : gP (mnR iv n) st p = (mnU p D).toList := by
  have e := (mn_spe (n := n) hc).2 hp
  obtain ⟨Y, M, ep, hy, hm, eY, eM⟩ : ∃ Y M : Int, p = 12 * Y + M - 1 ∧ (0 ≤ Y ∧ Y ≤ 10000) ∧ (1 ≤ M ∧ M ≤ 12) ∧ p / 12 = Y ∧ p % 12 + 1 = M := ⟨p / 12, p % 12 + 1, by omega, by omega, by omega, rfl, rfl⟩
  rw [mnU, eY, eM]
  subst ep
  rw [mn_gP hc hs hm e, hD, h0, mf_at hy hm]
  split
  · rw [Int.add_zero]; rfl
  · rfl
theorem mn_uG {iv n st D P : Int} (hc : ckB (mnR iv n) = true) (hs : moO st = true) (hD : dD (st / 86400) = D) (h0 : st % 86400 = 0) : ∀ k : Nat, (∀ j : Nat, j < k → spE (mnR iv n) (P + (j : Int) * iv) = 0) → uG (mnR iv n) st k P = wL (mnW P iv D) k
  | 0, _ => rfl
  | k + 1, h => by
    have g := mn_gU hc hs hD h0 ((mn_spe (n := n) hc).1 (h k (by omega)))
    rw [uG_add _ _ k 1 P, mn_uG hc hs hD h0 k (fun j hj => h j (by omega)), wL, uG, uG, List.append_nil]
    show _ ++ gP (mnR iv n) st (P + (k : Int) * iv) = _
    rw [g]; rfl
/-- Of any so many rounds one at least has the day. -/
theorem mn_many {Y M D iv : Int} (hm : 1 ≤ M ∧ M ≤ 12) (hd : D ≤ Cal.mlen Y M) (hi : 1 ≤ iv ∧ iv ≤ 20) : 12 ≤ (wL (mnW (12 * Y + M - 1) iv D) (96 * 12)).length := by
  refine wL_many 12 (fun s _ => ?_)
  obtain ⟨a, ha⟩ : ∃ a, (s : Int) * iv = a := ⟨_, rfl⟩
  have e1 : 12 * Y + M - 1 + ((96 * s : Nat) : Int) * iv = 12 * (Y + 8 * a) + M - 1 := by
    rw [Int.natCast_mul, Int.mul_assoc, ha]; omega
  have e2 : 12 * Y + M - 1 + ((96 * s + 48 : Nat) : Int) * iv = 12 * (Y + 8 * a + 4 * iv) + M - 1 := by
    rw [Int.natCast_add, Int.add_mul, Int.natCast_mul, Int.mul_assoc, ha]; omega
  have one : ∀ {i : Nat} {Z : Int}, 12 * Y + M - 1 + (i : Int) * iv = 12 * Z + M - 1 → D ≤ Cal.mlen Z M → ∃ b, mnW (12 * Y + M - 1) iv D i = some b := fun {i Z} h1 h2 => by
    rw [mnW, h1, mnU, show (12 * Z + M - 1) / 12 = Z by omega, show (12 * Z + M - 1) % 12 + 1 = M by omega, if_pos h2]
    exact ⟨_, rfl⟩
  by_cases m2 : M = 2
  · subst m2
    have l1 : ∀ z, Cal.mlen z 2 = 28 + Cal.lp z := fun z => by rw [Cal.mlen, if_pos rfl]
    have lg : ∀ z, Cal.lp z = if z % 4 = 0 ∧ (z % 100 ≠ 0 ∨ z % 400 = 0) then 1 else 0 := fun z => by
      rw [Cal.lp]
      by_cases h : z % 4 = 0 ∧ (z % 100 ≠ 0 ∨ z % 400 = 0)
      · rw [if_pos h, if_pos (by simp [Cal.long]; omega)]
      · rw [if_neg h, if_neg (by simp [Cal.long]; omega)]
    by_cases g : D ≤ Cal.mlen (Y + 8 * a) 2
    · obtain ⟨b, hb⟩ := one e1 g
      exact ⟨96 * s, b, by omega, by omega, hb⟩
    · have g2 : D ≤ Cal.mlen (Y + 8 * a + 4 * iv) 2 := by
        rw [l1, lg] at hd g ⊢
        split at hd
        · split at g
          · omega
          · rw [if_pos (by omega)]; omega
        · split at g
          · omega
          · omega
      obtain ⟨b, hb⟩ := one e2 g2
      exact ⟨96 * s + 48, b, by omega, by omega, hb⟩
  · have l1 : ∀ z, Cal.mlen z M = Cal.mlen Y M := fun z => by rw [Cal.mlen, Cal.mlen, if_neg m2, if_neg m2]
    obtain ⟨b, hb⟩ := one e1 (by rw [l1]; exact hd)
    exact ⟨96 * s, b, by omega, by omega, hb⟩
/-- The times of such a rule. -/
theorem mons_1 {Y M D iv c st : Int} {N : Nat} {O : List Int} (hy : 1 ≤ Y ∧ Y ≤ 5003) (hm : 1 ≤ M ∧ M ≤ 12) (hd : 1 ≤ D ∧ D ≤ Cal.mlen Y M) (hi : 1 ≤ iv ∧ iv ≤ 20) (hN : 1 ≤ N ∧ N ≤ 12) (hst : st = (Cal.ny Y + Cal.cum Y M + D - 1) * 86400) (h : tmX (mnR iv N) st st 4611686018427387904 3000 = (0, c, O)) (i : Nat) (h1 : ∀ j : Nat, j < i → (wL (mnW (12 * Y + M - 1) iv D) j).length < N) (h2 : N ≤ (wL (mnW (12 * Y + M - 1) iv D) i).length ∨ 2000 ≤ i) : O = wL (mnW (12 * Y + M - 1) iv D) i := by
  have hc := mn_ck (iv := iv) (n := N) ⟨hi.1, by omega⟩ ⟨by omega, by omega⟩
  obtain ⟨db, d1, d2, d3⟩ := dd_num (Y := Y) (M := M) (D := D) ⟨hy.1, by omega⟩ hm hd
  have sd : st / 86400 = Cal.ny Y + Cal.cum Y M + D - 1 := by omega
  have s0 : st % 86400 = 0 := by omega
  rw [← sd] at db d1 d2 d3
  have ms : moO st = true := mo_of db.1 db.2
  have ar : arB st 4611686018427387904 3000 = false := by
    rw [arB, wiB, wiB, decide_eq_false (show ¬ (4611686018427387904 : Int) < st by omega), decide_eq_true (show -4611686018427387904 ≤ st ∧ st ≤ 4611686018427387904 by omega)]
    rfl
  obtain ⟨P, hP⟩ : ∃ P, 12 * Y + M - 1 = P := ⟨_, rfl⟩
  have Pb : 12 ≤ P ∧ P < 60048 := by omega
  have many := mn_many hm hd.2 hi
  rw [hP] at h1 h2 many ⊢
  have pq : perQ (mnR iv N) st = P := by rw [(v6 (x := mnR iv N) rfl st 0).1, d1, d2, hP]
  have pe : perE (mnR iv N) st = 0 := by rw [perE, if_pos hc, if_pos ms]
  have pv : perV (mnR iv N) st = P := by rw [perV, if_pos ⟨hc, ms⟩, pq]
  have e0 : spE (mnR iv N) P = 0 := (mn_spe hc).2 ⟨Pb.1, by omega⟩
  have fs : fsF (mnR iv N) P st = (P, true) := by
    rw [fsF, if_neg (by rw [e0]; decide), if_pos (show 0 < (mnR iv N).ct ∨ st ≤ spT (mnR iv N) P from Or.inl (show (0 : Int) < N by omega))]
  have tk : tkL st 4611686018427387904 st [] = [st] := by rw [tkL, if_pos ⟨Int.le_refl _, by omega⟩]; rfl
  rw [tm_ok pe ar] at h
  have h := out_ok h
  rw [tmR, pv, fs, if_pos rfl, tk] at h
  obtain ⟨k, k1, k2, k3⟩ := go_eq (fun p => gP_up (mnR iv N) st p) _ _ _ _ _ h
  have k1 : ∀ j : Nat, j < k → spE (mnR iv N) (P + (j : Int) * iv) = 0 := fun j hj => be_sp (by rw [show P + (j : Int) * iv = P + (j : Int) * (mnR iv N).iv from rfl, k1 j hj]; decide)
  rw [mn_uG hc ms d3 s0 k k1] at k2 k3
  obtain ⟨T, hT⟩ : ∃ T, mnW P iv D = T := ⟨_, rfl⟩
  have g0 : T 0 = some st := by
    rw [← hT, mnW, mnU, show P + ((0 : Nat) : Int) * iv = P by simp, show P / 12 = Y by omega, show P % 12 + 1 = M by omega, if_pos hd.2, hst]
  have up : ∀ k, (∀ j : Nat, j < k → spE (mnR iv N) (P + (j : Int) * iv) = 0) → (wL T k).Pairwise (· < ·) ∧ ∀ t ∈ wL T k, moO t = true := fun k hk => by
    rw [← hT, ← mn_uG hc ms d3 s0 k hk]
    refine ⟨uG_up hi.1 k P, fun t ht => ?_⟩
    obtain ⟨j, _, hj⟩ := uG_mem.1 ht
    exact (gP_per hj).2.2.2
  rw [hT] at h1 h2 k2 k3 many ⊢
  have key : ∃ k', O = (wL T k').take N ∧ N ≤ (wL T k').length := by
    have w1 : wL T 1 = [st] := by rw [wL, wL, g0]; rfl
    cases k with
    | zero =>
      rw [wL, List.filter_nil, tkN_nil] at k2 k3
      simp only [List.filter_nil, List.append_nil, List.length_nil] at k2 k3
      have n1 : N = 1 := by
        rcases k3 with k3 | k3
        · rw [fuB, Bool.and_eq_true, decide_eq_true_eq, decide_eq_true_eq] at k3
          have := k3.2
          have e : (mnR iv N).ct = (N : Int) := rfl
          rw [e] at this
          omega
        · rw [beB, show (mnR iv N).un = false from rfl] at k3
          simp only [Int.natCast_zero, Int.zero_mul, Int.add_zero] at k3
          rw [e0] at k3
          obtain ⟨_, _, _, _, f, _, _⟩ := spe_at e0
          rw [f, (v6 (x := mnR iv N) rfl st P).2.1] at k3
          have m := mf_mono (p := P) (q := 120000) (by omega) (by omega) (by omega)
          rw [mf_z] at m
          rw [decide_eq_false (show ¬ (4611686018427387904 : Int) < mfV P * 86400 by omega)] at k3
          simp at k3
      subst n1
      exact ⟨1, by rw [w1, k2]; rfl, by rw [w1]; exact Nat.le_refl 1⟩
    | succ k =>
      obtain ⟨R, hR⟩ := wL_app T 1 k
      rw [w1, show 1 + k = k + 1 by omega] at hR
      obtain ⟨u1, u2⟩ := up (k + 1) k1
      rw [hR] at u1 u2 k2 k3
      have lt : ∀ t ∈ R, st < t := (List.pairwise_cons.1 u1).1
      have f1 : ([st] ++ R).filter (okU (mnR iv N) st) = R := by
        rw [List.singleton_append, List.filter_cons, if_neg (by rw [okU, decide_eq_false (Int.lt_irrefl st)]; simp), List.filter_eq_self]
        intro t ht
        rw [okU, decide_eq_true (lt t ht), show (mnR iv N).un = false from rfl]; rfl
      rw [f1] at k2 k3
      have tn : tkN (mnR iv N) 1 R = R.take (N - 1) := by
        rw [tkN, if_pos (show (0 : Int) < (mnR iv N).ct from (by show (0 : Int) < N; omega)), show ((mnR iv N).ct - 1).toNat = N - 1 from (by show ((N : Int) - 1).toNat = N - 1; omega)]
      have k2 : O = [st] ++ (tkN (mnR iv N) 1 R).filter (inS st 4611686018427387904) := k2
      have k3 : fuB (mnR iv N) (1 + ((tkN (mnR iv N) 1 R).length : Int)) = true ∨ beB (mnR iv N) 4611686018427387904 (P + ((k + 1 : Nat) : Int) * iv) = true := k3
      rw [tn] at k2 k3
      have f2 : (R.take (N - 1)).filter (inS st 4611686018427387904) = R.take (N - 1) := by
        rw [List.filter_eq_self]
        intro t ht
        have ht := List.mem_of_mem_take ht
        have b := mo_bd (u2 t (by simp [ht]))
        rw [inS, decide_eq_true (show st ≤ t from Int.le_of_lt (lt t ht)), decide_eq_true (show t ≤ 4611686018427387904 by omega)]; rfl
      rw [f2] at k2
      refine ⟨k + 1, ?_, ?_⟩
      · rw [hR, k2]
        obtain ⟨N', rfl⟩ : ∃ a, N = a + 1 := ⟨N - 1, by omega⟩
        rfl
      · rcases k3 with k3 | k3
        · rw [fuB, Bool.and_eq_true, decide_eq_true_eq, decide_eq_true_eq, List.length_take] at k3
          have q := k3.2
          have e : (mnR iv N).ct = (N : Int) := rfl
          rw [e] at q
          rw [hR, List.length_append, List.length_singleton]
          omega
        · have ne : ¬ (12 ≤ P + ((k + 1 : Nat) : Int) * iv ∧ P + ((k + 1 : Nat) : Int) * iv < 120000) := fun q => by
            have e := (mn_spe (n := N) hc).2 q
            rw [beB, show (mnR iv N).un = false from rfl, e] at k3
            obtain ⟨_, _, _, _, f, _, _⟩ := spe_at e
            rw [f, (v6 (x := mnR iv N) rfl st _).2.1] at k3
            have m := mf_mono (p := P + ((k + 1 : Nat) : Int) * iv) (q := 120000) (by omega) (by omega) (by omega)
            rw [mf_z] at m
            rw [decide_eq_false (show ¬ (4611686018427387904 : Int) < mfV (P + ((k + 1 : Nat) : Int) * iv) * 86400 by omega)] at k3
            simp at k3
          have b0 : 0 ≤ ((k + 1 : Nat) : Int) * iv := Int.mul_nonneg (Int.natCast_nonneg _) (by omega)
          have big : 96 * 12 ≤ k + 1 := by
            by_cases g : 96 * 12 ≤ k + 1
            · exact g
            · have : ((k + 1 : Nat) : Int) * iv ≤ 1152 * 20 := Int.mul_le_mul (by omega) hi.2 (by omega) (by decide)
              omega
          have := wL_le (T := T) big
          omega
  obtain ⟨k', e1, e2⟩ := key
  have li : (wL T i).length = N := by
    have ge : N ≤ (wL T i).length := by
      rcases h2 with h2 | h2
      · exact h2
      · have := wL_le (T := T) (show 96 * 12 ≤ i by omega)
        omega
    cases i with
    | zero => rw [wL] at ge; simp at ge; omega
    | succ i =>
      have := wL_len T i
      have := h1 i (by omega)
      omega
  rw [e1]
  exact wL_take li e2
def yrR : CV := ⟨7, 1, 3, false, 0, false, [], [], [], [], [], [], [], [], [], 1⟩
theorem leap_tm : tmX yrR 951782400 951782400 4611686018427387904 3000 = (0, 12, [951782400, 1078012800, 1204243200]) := by decide +kernel
end Rru
end Go.Proofs.YtgaolaafjiiehaaDoor
