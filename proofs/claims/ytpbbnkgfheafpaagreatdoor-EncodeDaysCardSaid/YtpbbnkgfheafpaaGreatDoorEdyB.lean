/-
  Package solsticelaw24, plain words: the times of an encoded rule, year by year.
-/
import Derived.Test.YtpbbnkgfheafpaaGreatDoorEdyA
namespace Go.Proofs.YtpbbnkgfheafpaaGreatDoor
open Go.RowKit
namespace Edy
open Rcv (CV)
open Rck (ckB endB lsB gtB nmB frB eiB dyB frB_iff dyB_iff)
open Civ (dY dM dD numE numE_yes)
open Wk (onOk onOk_v resE resV)
open Enc (rcv enR sevL)
open Fil (moO mo_bd mo_of spA spZ spQ spO spE spF spT perQ perV perE letP letQ lcB lnB ldB llB mfV yfV yfO yf_at dy_bounds v7 spQ_iff yfO_at)
open Rru
theorem rcv_ck {M : Int} {dy : List (Int × Int)} {md : List Int} (hm : 1 ≤ M ∧ M ≤ 12) (h1 : dyB dy = true) (h2 : eiB 31 md = true) : ckB (rcv M dy md) = true := by
  have f1 : frB 1 12 [M] = true := by
    rw [frB_iff]
    exact ⟨fun n hn => by rw [List.mem_singleton] at hn; omega, by simp⟩
  have n0 : eiB 366 [] = true := by decide
  have n1 : eiB 53 [] = true := by decide
  have n2 : frB 0 59 [] = true := by decide
  have n3 : frB 0 23 [] = true := by decide
  have a : lsB (rcv M dy md) = true := by
    unfold lsB
    show (frB 0 59 [] && frB 0 59 [] && frB 0 23 [] && frB 1 12 [M] && eiB 31 md && eiB 366 [] && eiB 53 [] && eiB 366 []) = true
    rw [n0, n1, n2, n3, f1, h2]; rfl
  have c : gtB (rcv M dy md) = true := by
    unfold gtB
    have e : dy.all (nmB (rcv M dy md)) = true := by
      rw [List.all_eq_true]
      intro q _
      rw [nmB, show (rcv M dy md).wn = [] from rfl, show (rcv M dy md).fq = 7 from rfl]
      simp
    rw [show (rcv M dy md).dy = dy from rfl, e, show (rcv M dy md).fq = 7 from rfl, show (rcv M dy md).yd = [] from rfl, show (rcv M dy md).wn = [] from rfl, show (rcv M dy md).sp = [] from rfl]
    simp
  have d : endB (rcv M dy md).un (rcv M dy md).ua (rcv M dy md).ut (rcv M dy md).ct = true := by rfl
  unfold ckB
  simp only [Bool.and_eq_true, decide_eq_true_eq]
  exact ⟨show (1 : Int) ≤ 7 by decide, show (7 : Int) ≤ 7 by decide, show (1 : Int) ≤ 1 by decide, show (1 : Int) ≤ 1000 by decide, show (0 : Int) ≤ 0 by decide, show (0 : Int) ≤ 100000 by decide, show (0 : Int) ≤ 1 by decide, show (1 : Int) ≤ 6 by decide, d, a, h1, c⟩
/-- What such a rule lets, of a start at midnight. -/
theorem rcv_let {M st t Y D : Int} {dy : List (Int × Int)} {md : List Int} (hne : dy ≠ [] ∨ md ≠ []) (hc : ckB (rcv M dy md) = true) (hs : moO st = true) (h0 : st % 86400 = 0) (ht : moO t = true) (hY : dY (t / 86400) = Y) (hD : dD (t / 86400) = D) : letP (rcv M dy md) st t = true ↔ t % 86400 = 0 ∧ dM (t / 86400) = M ∧ (condB M dy md Y D = true) := by
  have bt := mo_bd ht
  obtain ⟨Y1, M1, D1, e1, e2, e3, y, mm, dd, e, _, _⟩ := dy_bounds ⟨bt.1, bt.2.1⟩
  rw [hY] at e1
  rw [hD] at e3
  subst e1 e3
  have l1 : lcB (rcv M dy md) st t = (decide (t % 86400 % 60 = st % 86400 % 60) && (decide (t % 86400 / 60 % 60 = st % 86400 / 60 % 60) && decide (t % 86400 / 3600 = st % 86400 / 3600))) := by rfl
  have l4 : llB (rcv M dy md) (st / 86400) (t / 86400) = true := by
    rw [llB, if_pos]
    rcases hne with h | h
    · exact Or.inr (Or.inr h)
    · exact Or.inr (Or.inl h)
  have l2 : lnB (rcv M dy md) (t / 86400) = (([M] : List Int).contains (dM (t / 86400)) && (decide (md = []) || Fil.ewB md (dD (t / 86400)) (Cal.mlen (dY (t / 86400)) (dM (t / 86400))))) := by
    rw [lnB, show (rcv M dy md).mo = [M] from rfl, show (rcv M dy md).md = md from rfl, show (rcv M dy md).yd = [] from rfl, show (rcv M dy md).wn = [] from rfl]
    simp
  have l3 : ldB (rcv M dy md) (t / 86400) = (decide (dy = []) || dy.any (Fil.dayB (rcv M dy md) (t / 86400))) := rfl
  have mc : ([M] : List Int).contains M1 = decide (M1 = M) := by
    by_cases g : M1 = M
    · rw [decide_eq_true g, g]; simp
    · rw [decide_eq_false g]; simp [g]
  rw [letP, letQ, hc, hs, ht, l1, l2, l3, l4, e2, mc, hY, hD]
  simp only [Bool.true_and, Bool.and_true, Bool.and_eq_true, decide_eq_true_eq]
  constructor
  · rintro ⟨⟨a, b, c⟩, ⟨g, f⟩, j⟩
    refine ⟨by omega, g, ?_⟩
    rw [condB, Bool.and_eq_true]
    rw [g] at f e
    rw [e] at j
    exact ⟨f, j⟩
  · rintro ⟨a, g, f⟩
    rw [condB, Bool.and_eq_true] at f
    rw [g] at e ⊢
    rw [e]
    exact ⟨⟨by omega, by omega, by omega⟩, ⟨rfl, f.1⟩, f.2⟩
theorem yr_spe {M p : Int} {dy : List (Int × Int)} {md : List Int} (hc : ckB (rcv M dy md) = true) : (spE (rcv M dy md) p = 0 ↔ 1 ≤ p ∧ p ≤ 9999) ∧ (0 ≤ p ∧ p ≤ 9999 → spA (rcv M dy md) p = Cal.ny p * 86400 ∧ spZ (rcv M dy md) p = Cal.ny (p + 1) * 86400) := by
  obtain ⟨_, a, z, o⟩ := v7 (x := rcv M dy md) rfl rfl 0 p
  have k1 : Cal.ny 1 = -719162 := by decide +kernel
  have k2 : Cal.ny 10000 = 2932897 := by decide +kernel
  refine ⟨⟨fun h => ?_, fun h => ?_⟩, fun h => ⟨by rw [a, yf_at ⟨h.1, by omega⟩], by rw [z, yf_at ⟨by omega, by omega⟩]⟩⟩
  · obtain ⟨_, ho, m1, m2, _⟩ := spe_at h
    rw [o, Bool.and_eq_true] at ho
    have p1 := Rru.yfO_in ho.1
    have p2 := Rru.yfO_in ho.2
    rw [a, yf_at p1] at m1
    rw [z, yf_at p2] at m2
    have b1 := mo_bd m1
    have b2 := mo_bd m2
    constructor
    · by_cases g : 1 ≤ p
      · exact g
      · have m := Cal.ny_mono (a := p + 1) (b := 1) (by omega)
        omega
    · by_cases g : p ≤ 9999
      · exact g
      · have m := Cal.ny_mono (a := 10000) (b := p) (by omega)
        omega
  · have m1 := Cal.ny_mono (a := 1) (b := p) h.1
    have m2 := Cal.ny_mono (a := p) (b := p + 1) (by omega)
    have m3 := Cal.ny_mono (a := p + 1) (b := 10000) (by omega)
    refine spe_iff.2 ⟨hc, spQ_iff.2 ⟨decide_eq_false (by omega), ?_, ?_, ?_⟩⟩
    · rw [o, yfO_at ⟨by omega, by omega⟩, yfO_at ⟨by omega, by omega⟩]; rfl
    · rw [a, yf_at ⟨by omega, by omega⟩]; exact mo_of (by omega) (by omega)
    · rw [z, yf_at ⟨by omega, by omega⟩]; exact mo_of (by omega) (by omega)
/-- A year's time. -/
def yT (M k v d m Y : Int) : Int := (resV Y M k v d + m) * 86400
/-- Of a year the form's day alone, at midnight. -/
theorem enc_gP {M k v d m : Int} {r : CV} (hm : 1 ≤ M ∧ M ≤ 12) (ho : onOk k v d = true) (h : enR M k v d m = some r) : ckB r = true ∧ (∀ Y, spE r Y = 0 ↔ 1 ≤ Y ∧ Y ≤ 9999) ∧ r.fq = 7 ∧ r.wn = [] ∧ r.iv = 1 ∧ r.ct = 0 ∧ r.un = false ∧ r.ua = 0 ∧ r.sp = [] ∧ (∀ Y, 1 ≤ Y ∧ Y ≤ 9999 → resE Y M k v d = 0 ∧ moO (yT M k v d m Y) = true ∧ dY (yT M k v d m Y / 86400) = Y ∧ (Cal.ny Y * 86400 ≤ yT M k v d m Y ∧ yT M k v d m Y < Cal.ny (Y + 1) * 86400) ∧ spF r Y = Cal.ny Y * 86400 ∧ ∀ st, moO st = true → st % 86400 = 0 → gP r st Y = [yT M k v d m Y]) := by
  obtain ⟨dy, md, rfl, hne, ⟨h1, h2⟩, H⟩ := enc_day hm ho h
  have hc := rcv_ck hm h1 h2
  refine ⟨hc, fun Y => (yr_spe hc).1, rfl, rfl, rfl, rfl, rfl, rfl, rfl, fun Y hY => ?_⟩
  obtain ⟨r1, E, eb, e2, e3⟩ := H Y hY
  obtain ⟨nb, d1, d2, d3, n1, n2⟩ := dd_at hY hm eb
  have e := (yr_spe (p := Y) hc).1.2 hY
  obtain ⟨sa, sz⟩ := (yr_spe (p := Y) hc).2 ⟨by omega, hY.2⟩
  have q : yT M k v d m Y / 86400 = Cal.ny Y + Cal.cum Y M + E - 1 := by rw [yT, e2]; omega
  have q0 : yT M k v d m Y % 86400 = 0 := by rw [yT]; omega
  have mt : moO (yT M k v d m Y) = true := mo_of (by rw [q]; exact nb.1) (by rw [q]; exact nb.2)
  have yb : Cal.ny Y * 86400 ≤ yT M k v d m Y ∧ yT M k v d m Y < Cal.ny (Y + 1) * 86400 := by rw [yT, e2]; omega
  refine ⟨r1, mt, by rw [q]; exact d1, yb, by rw [(spe_at e).2.2.2.2.1, sa], fun st ms h0 => ?_⟩
  refine single_of (gP_up _ _ _) (fun t => ?_)
  rw [gP_mem ms rfl e]
  constructor
  · rintro ⟨⟨g1, g2⟩, g3⟩
    obtain ⟨pq, _, _, mt2⟩ := per_in e g1 g2
    have yq : dY (t / 86400) = Y := by rw [← pq, (v7 (x := rcv M dy md) rfl rfl t 0).1]
    have bt := mo_bd mt2
    obtain ⟨Y1, M1, D1, f1, f2, f3, _, mm, dd, f, _, _⟩ := dy_bounds ⟨bt.1, bt.2.1⟩
    rw [yq] at f1
    subst f1
    obtain ⟨a, b, c⟩ := (rcv_let hne hc ms h0 mt2 yq f3).1 g3
    rw [f2] at b
    subst b
    have := (e3 D1 dd).1 c
    subst this
    rw [yT, e2]
    omega
  · intro et
    subst et
    refine ⟨⟨by rw [sa]; exact yb.1, by rw [sz]; exact yb.2⟩, ?_⟩
    refine (rcv_let hne hc ms h0 mt (by rw [q]; exact d1) (by rw [q]; exact d3)).2 ⟨q0, by rw [q]; exact d2, (e3 E eb).2 rfl⟩
theorem one_cost {x : CV} {st p a : Int} (h : spE x p = 0) (hp : x.sp = []) (g : gP x st p = [a]) : 1 + ((bsL x st (s0F x st) (spF x p) (spT x p)).length : Int) * ((scL x st).length : Int) = 2 := by
  obtain ⟨_, _, _, _, f, t, _⟩ := spe_at h
  rw [ga_eq h, tiL, if_pos hp] at g
  have l := congrArg List.length g
  have fl := fl_len (bsL x st (s0F x st) (spA x p) (spZ x p - 1)) (scL x st)
  rw [flF, l] at fl
  rw [f, t, ← Int.natCast_mul, ← fl]
  rfl
/-- The times of an encoded rule from a year's on, so many years. -/
theorem enc_tm {M k v d m y : Int} {n : Nat} {r : CV} (hm : 1 ≤ M ∧ M ≤ 12) (ho : onOk k v d = true) (h : enR M k v d m = some r) (hy : 1 ≤ y ∧ y ≤ 9950) (hn : n ≤ 19) : ∃ c, tmX r (yT M k v d m y) (-4611686018427387904) (yT M k v d m (y + n)) 1000 = (0, c, (List.range (n + 1)).map (fun j : Nat => yT M k v d m (y + (j : Int)))) := by
  obtain ⟨hc, sp, fq, wn, iv, ct, un, ua, sp0, H⟩ := enc_gP hm ho h
  have c1 : Cal.ny 1 = -719162 := by decide +kernel
  have c2 : Cal.ny 10000 = 2932897 := by decide +kernel
  obtain ⟨st, hst⟩ : ∃ z, yT M k v d m y = z := ⟨_, rfl⟩
  obtain ⟨tt, htt⟩ : ∃ z, yT M k v d m (y + n) = z := ⟨_, rfl⟩
  obtain ⟨_, ms, qs, bs, _, _⟩ := H y ⟨by omega, by omega⟩
  obtain ⟨_, mt, qt, bt, _, _⟩ := H (y + n) ⟨by omega, by omega⟩
  have s0 : yT M k v d m y % 86400 = 0 := by rw [yT]; omega
  rw [hst] at ms qs bs s0 ⊢
  rw [htt] at mt qt bt ⊢
  have bms := mo_bd ms
  have bmt := mo_bd mt
  have g1 : ∀ Y, spE r Y = 0 → gP r st Y = [yT M k v d m Y] := fun Y hY => (H Y ((sp Y).1 hY)).2.2.2.2.2 st ms s0
  have ar : arB (-4611686018427387904) tt 1000 = false := by
    rw [arB, wiB, wiB, decide_eq_false (show ¬ tt < (-4611686018427387904 : Int) by omega), decide_eq_true (show (-4611686018427387904 : Int) ≤ tt ∧ tt ≤ 4611686018427387904 by omega)]
    rfl
  have pe : perE r st = 0 := by rw [perE, if_pos hc, if_pos ms]
  have pv : perV r st = y := by rw [perV, if_pos ⟨hc, ms⟩, (v7 fq wn st 0).1, qs]
  have e0 := (sp y).2 ⟨by omega, by omega⟩
  have ef : fsF r y (-4611686018427387904) = (y, true) := by
    have b := (mo_bd (spe_at e0).2.2.2.1)
    rw [fsF, if_neg (by rw [e0]; decide), if_pos (Or.inr (by rw [(spe_at e0).2.2.2.2.2.1]; omega))]
  have be : beB r tt (y + ((n + 1 : Nat) : Int) * r.iv) = true := by
    have e := (sp (y + n + 1)).2 ⟨by omega, by omega⟩
    have f := (H (y + n + 1) ⟨by omega, by omega⟩).2.2.2.2.1
    rw [iv, show y + ((n + 1 : Nat) : Int) * 1 = y + n + 1 by omega, beB, f, decide_eq_true (show tt < Cal.ny (y + n + 1) * 86400 by omega)]
    simp
  obtain ⟨q, hq, _⟩ := go_some (x := r) (st := st) (fr := -4611686018427387904) (tt := tt) (f := 1000) (fun p hp => Int.le_of_eq (one_cost hp sp0 (g1 p hp))) (n + 1) 1002 y 0 (1, tkL (-4611686018427387904) tt st []) be (by omega) (by omega)
  have hX : tmX r st (-4611686018427387904) tt 1000 = (0, q.1, q.2) := by
    rw [tm_ok pe ar, tmR, pv, ef, if_pos rfl]
    show outX (goT r st (-4611686018427387904) tt 1000 1002 y 0 (1, tkL (-4611686018427387904) tt st [])) = _
    rw [hq]
    rfl
  obtain ⟨k0, hk⟩ := tm_all hc ms ar hX
  have hO := hk (k0 + n + 1) (by omega)
  refine ⟨q.1, ?_⟩
  rw [hX]
  congr 2
  have up : q.2.Pairwise (· < ·) := by rw [hO]; exact (aL_up (x := r) (by omega) _).filter _
  have lt : ∀ a b : Int, 1 ≤ a → a < b → b ≤ 9999 → yT M k v d m a < yT M k v d m b := fun a b h1 h2 h3 => by
    have x1 := (H a ⟨h1, by omega⟩).2.2.2.1
    have x2 := (H b ⟨by omega, h3⟩).2.2.2.1
    have x3 := Cal.ny_mono (a := a + 1) (b := b) (by omega)
    omega
  refine sorted_ext up ?_ (fun t => ?_)
  · rw [List.pairwise_map]
    refine List.Pairwise.imp_of_mem (fun {i j} hi hj hij => ?_) List.pairwise_lt_range
    rw [List.mem_range] at hi hj
    exact lt _ _ (by omega) (by omega) (by omega)
  · rw [hO, List.mem_filter, List.mem_map]
    constructor
    · rintro ⟨h, hin⟩
      rcases aL_mem h with e | ⟨e, ok⟩
      · exact ⟨0, List.mem_range.2 (by omega), by rw [e, ← hst]; simp⟩
      · rw [uL, pv, if_pos e0] at e
        obtain ⟨j, _, hj⟩ := uG_mem.1 e
        rw [iv, show y + (j : Int) * 1 = y + j by omega] at hj
        have pj := (sp _).1 (gP_sp hj)
        rw [g1 _ ((sp _).2 pj), List.mem_singleton] at hj
        rw [inS, Bool.and_eq_true, decide_eq_true_eq, decide_eq_true_eq] at hin
        refine ⟨j, List.mem_range.2 ?_, hj.symm⟩
        by_cases g : j ≤ n
        · omega
        · have := lt (y + n) (y + j) (by omega) (by omega) (by omega)
          omega
    · rintro ⟨j, hj, rfl⟩
      rw [List.mem_range] at hj
      have hle : yT M k v d m (y + j) ≤ tt := by
        by_cases g : j = n
        · rw [g, htt]; exact Int.le_refl _
        · have := lt (y + j) (y + n) (by omega) (by omega) (by omega)
          omega
      have mj := mo_bd (H (y + j) ⟨by omega, by omega⟩).2.1
      refine ⟨?_, by rw [inS, decide_eq_true (show (-4611686018427387904 : Int) ≤ yT M k v d m (y + j) by omega), decide_eq_true hle]; rfl⟩
      by_cases j0 : j = 0
      · subst j0
        rw [aL]
        simp [hst]
      · have pos := lt y (y + j) (by omega) (by omega) (by omega)
        rw [hst] at pos
        rw [aL, tkN_off (show ¬ 0 < r.ct by rw [ct]; decide)]
        refine List.mem_cons_of_mem _ (List.mem_filter.2 ⟨?_, ?_⟩)
        · rw [uL, pv, if_pos e0]
          refine uG_mem.2 ⟨j, by omega, ?_⟩
          rw [iv, show y + (j : Int) * 1 = y + j by omega, g1 _ ((sp _).2 ⟨by omega, by omega⟩), List.mem_singleton]
        · rw [okU, un, decide_eq_true pos]; rfl
end Edy
end Go.Proofs.YtpbbnkgfheafpaaGreatDoor
