/-
  Several texts in one (RruT, RruU, RruV, RruX, RruY).
-/
import Derived.Test.YtpbbnkgfheafpaaGreatDoorBdU5
import Derived.Test.YtpbbnkgfheafpaaGreatDoorBdU4
/-
  Package rrule, plain words: the rounds with more fuel, and with less.
-/
namespace Go.Proofs.YtpbbnkgfheafpaaGreatDoor
open Go.RowKit
namespace Rru
open Rcv (CV)
open Rck (ckB)
open Fil (spE spT spF spQ perV perE perQ moO)
theorem cost_pos (x : CV) (st p : Int) : 0 ≤ ((bsL x st (s0F x st) (spF x p) (spT x p)).length : Int) * ((scL x st).length : Int) := Int.mul_nonneg (Int.natCast_nonneg _) (Int.natCast_nonneg _)
theorem go_more (x : CV) (st fr tt f f' : Int) : ∀ (m m' : Nat) (p c : Int) (s r : Int × List Int), goT x st fr tt f m p c s = some r → c ≤ f → r.1 ≤ f' → f' + 2 ≤ (m' : Int) + c → goT x st fr tt f' m' p c s = some r
  | 0, _, _, _, _, _, h, _, _, _ => by rw [goT] at h; exact absurd h (by simp)
  | m + 1, m', p, c, s, r, h, hc, hr, hm => by
    have gl := go_len x st fr tt f (m + 1) p c s r hc h
    have cp := cost_pos x st p
    obtain ⟨k, rfl⟩ : ∃ k, m' = k + 1 := ⟨m' - 1, by omega⟩
    rw [goT] at h ⊢
    split at h
    · rename_i h1; rw [if_pos h1]; exact h
    · rename_i h1; rw [if_neg h1]
      split at h
      · rename_i h2; rw [if_pos h2]; exact h
      · rename_i h2; rw [if_neg h2]
        split at h
        · exact absurd h (by simp)
        · rename_i h3
          have g2 := go_len x st fr tt f m _ _ _ r (by omega) h
          rw [if_neg (by omega)]
          exact go_more x st fr tt f f' m k _ _ _ r h (by omega) hr (by omega)
theorem go_less (x : CV) (st fr tt f f' : Int) : ∀ (m : Nat) (p c : Int) (s r : Int × List Int), goT x st fr tt f m p c s = some r → c ≤ f → f' < r.1 → c ≤ f' → ∀ m', goT x st fr tt f' m' p c s = none
  | 0, _, _, _, _, h, _, _, _ => by rw [goT] at h; exact absurd h (by simp)
  | m + 1, p, c, s, r, h, hc, hr, hm => by
    intro m'
    cases m' with
    | zero => rfl
    | succ k =>
    rw [goT] at h ⊢
    split at h
    · injection h with h; subst h; simp only at hr; omega
    · rename_i h1; rw [if_neg h1]
      split at h
      · injection h with h; subst h; simp only at hr; omega
      · rename_i h2; rw [if_neg h2]
        split at h
        · exact absurd h (by simp)
        · rename_i h3
          by_cases h4 : f' < c + (1 + ((bsL x st (s0F x st) (spF x p) (spT x p)).length : Int) * ((scL x st).length : Int))
          · rw [if_pos h4]
          · rw [if_neg h4]
            exact go_less x st fr tt f f' m _ _ _ r h (by omega) hr (by omega) k
theorem ar_less {fr tt f f' : Int} (h : arB fr tt f = false) (h0 : 0 ≤ f') (h1 : f' ≤ f) : arB fr tt f' = false := by
  rw [arB] at h ⊢
  simp only [Bool.or_eq_false_iff, decide_eq_false_iff_not] at h ⊢
  obtain ⟨a, b, c, d, e⟩ := h
  exact ⟨a, b, c, by omega, by omega⟩
/-- What is told of a start that counts and of a span that may be. -/
theorem tm_ok {x : CV} {st fr tt f : Int} (h1 : perE x st = 0) (h2 : arB fr tt f = false) : tmX x st fr tt f = outX (tmR x st fr tt f) := by
  rw [tmX, if_neg (by rw [h1]; decide), if_neg (by rw [h2]; decide)]
theorem out_ok {o : Option (Int × List Int)} {c : Int} {O : List Int} (h : outX o = (0, c, O)) : o = some (c, O) := by
  cases o with
  | none => exact absurd (congrArg Prod.fst h) (by simp [outX])
  | some q =>
    rw [outX] at h
    injection h with _ h
    rw [← h]
theorem out_12 (o : Option (Int × List Int)) : (outX o).1 = 0 ∨ outX o = (22, 0, []) := by
  cases o with
  | none => exact Or.inr rfl
  | some q => exact Or.inl rfl
theorem tm_cost {x : CV} {st fr tt f c : Int} {O : List Int} (h1 : perE x st = 0) (h2 : arB fr tt f = false) (h : tmX x st fr tt f = (0, c, O)) : 0 ≤ c ∧ c ≤ f ∧ (O.length : Int) ≤ c + 1 := by
  have fu := fu_bd h2
  rw [tm_ok h1 h2] at h
  have h := out_ok h
  have t := tk_len fr tt st []
  simp only [List.length_nil, Nat.zero_add] at t
  rw [tmR] at h
  split at h
  · have q := go_len x st fr tt f _ _ _ _ _ fu.1 h
    simp only at q
    omega
  · injection h with h
    injection h with ha hb
    subst ha hb
    omega
theorem tm_same {x : CV} {st fr tt f c : Int} {O : List Int} (h1 : perE x st = 0) (h2 : arB fr tt f = false) (h : tmX x st fr tt f = (0, c, O)) : tmX x st fr tt c = (0, c, O) := by
  have k := tm_cost h1 h2 h
  have fu := fu_bd h2
  rw [tm_ok h1 h2] at h
  have h := out_ok h
  rw [tm_ok h1 (ar_less h2 k.1 k.2.1)]
  rw [tmR] at h ⊢
  split at h
  · rename_i g
    rw [if_pos g, go_more x st fr tt f c _ _ _ _ _ _ h fu.1 (Int.le_refl _) (by have := Int.toNat_of_nonneg k.1; omega)]
    rfl
  · rename_i g
    rw [if_neg g, h]
    rfl
theorem tm_less {x : CV} {st fr tt f f' c : Int} {O : List Int} (h1 : perE x st = 0) (h2 : arB fr tt f = false) (h : tmX x st fr tt f = (0, c, O)) (h3 : 0 ≤ f') (h4 : f' < c) : tmX x st fr tt f' = (22, 0, []) := by
  have k := tm_cost h1 h2 h
  have fu := fu_bd h2
  rw [tm_ok h1 h2] at h
  have h := out_ok h
  rw [tm_ok h1 (ar_less h2 h3 (by omega))]
  rw [tmR] at h ⊢
  split at h
  · rename_i g
    rw [if_pos g, go_less x st fr tt f f' _ _ _ _ _ h fu.1 h4 h3]
    rfl
  · injection h with h
    injection h with ha hb
    omega
end Rru
end Go.Proofs.YtpbbnkgfheafpaaGreatDoor
/-
  Package rrule, plain words: what the rounds tell, in closed form.
-/
namespace Go.Proofs.YtpbbnkgfheafpaaGreatDoor
open Go.RowKit
namespace Rru
open Rcv (CV)
open Rck (ckB)
open Fil (spE spT spF spQ spA spZ perV perE perQ moO)
/-- Behind the start and not behind the rule's end. -/
def okU (x : CV) (st t : Int) : Bool := decide (st < t) && !(x.un && decide (x.ua < t))
def inS (fr tt t : Int) : Bool := decide (fr ≤ t) && decide (t ≤ tt)
/-- As many as the count leaves. -/
def tkN (x : CV) (told : Int) (L : List Int) : List Int := if 0 < x.ct then L.take (x.ct - told).toNat else L
theorem tkL_eq (fr tt t : Int) (L : List Int) : tkL fr tt t L = L ++ [t].filter (inS fr tt) := by
  by_cases h : fr ≤ t ∧ t ≤ tt
  · rw [tkL, if_pos h]
    simp [inS, h]
  · rw [tkL, if_neg h]
    have : inS fr tt t = false := by
      rw [inS, Bool.and_eq_false_iff, decide_eq_false_iff_not, decide_eq_false_iff_not]
      omega
    simp [this]
theorem tkN_nil (x : CV) (a : Int) : tkN x a [] = [] := by
  rw [tkN]; split <;> simp
theorem tkN_full {x : CV} {a : Int} (h : 0 < x.ct ∧ x.ct ≤ a) (L : List Int) : tkN x a L = [] := by
  rw [tkN, if_pos h.1, show (x.ct - a).toNat = 0 by omega]; rfl
theorem tkN_cons {x : CV} {a : Int} (h : ¬ (0 < x.ct ∧ x.ct ≤ a)) (t : Int) (L : List Int) : tkN x a (t :: L) = t :: tkN x (a + 1) L := by
  rw [tkN, tkN]
  by_cases c : 0 < x.ct
  · rw [if_pos c, if_pos c, show (x.ct - a).toNat = (x.ct - (a + 1)).toNat + 1 by omega, List.take_succ_cons]
  · rw [if_neg c, if_neg c]
theorem tkN_app (x : CV) (a : Int) (A B : List Int) : tkN x a (A ++ B) = tkN x a A ++ tkN x (a + ((tkN x a A).length : Int)) B := by
  by_cases c : 0 < x.ct
  · simp only [tkN, if_pos c]
    rw [List.take_append, List.length_take]
    congr 2
    omega
  · simp only [tkN, if_neg c]
theorem tkN_sub (x : CV) (a : Int) (L : List Int) : (tkN x a L).Sublist L := by
  rw [tkN]; split
  · exact List.take_sublist _ _
  · exact List.Sublist.refl _
theorem perS_eq (x : CV) (st fr tt : Int) : ∀ (T : List Int) (s : Int × List Int), T.Pairwise (· < ·) → perS x st fr tt T s = (s.1 + ((tkN x s.1 (T.filter (okU x st))).length : Int), s.2 ++ (tkN x s.1 (T.filter (okU x st))).filter (inS fr tt))
  | [], s, _ => by rw [perS, List.filter_nil, tkN_nil]; simp
  | t :: r, s, hp => by
    obtain ⟨h1, h2⟩ := List.pairwise_cons.1 hp
    rw [perS]
    by_cases hs : (0 < x.ct ∧ x.ct ≤ s.1) ∨ (x.un = true ∧ x.ua < t)
    · rw [if_pos hs]
      have e : tkN x s.1 ((t :: r).filter (okU x st)) = [] := by
        rcases hs with hs | hs
        · exact tkN_full hs _
        · have : (t :: r).filter (okU x st) = [] := by
            rw [List.filter_eq_nil_iff]
            intro a ha
            have ht : t ≤ a := by
              rcases List.mem_cons.1 ha with rfl | ha
              · exact Int.le_refl _
              · exact Int.le_of_lt (h1 a ha)
            rw [okU, hs.1, decide_eq_true (show x.ua < a by omega)]
            simp
          rw [this, tkN_nil]
      rw [e]; simp
    · rw [if_neg hs]
      have hu : (!(x.un && decide (x.ua < t))) = true := by
        cases e : x.un with
        | false => rfl
        | true =>
          have : ¬ x.ua < t := fun q => hs (Or.inr ⟨e, q⟩)
          rw [decide_eq_false this]; rfl
      by_cases ht : st < t
      · have ok : okU x st t = true := by rw [okU, hu, decide_eq_true ht]; rfl
        rw [if_pos ht, perS_eq x st fr tt r _ h2, List.filter_cons, if_pos ok, tkN_cons (fun q => hs (Or.inl q)), tkL_eq]
        simp only [List.length_cons, List.filter_cons, List.filter_nil]
        refine Prod.ext ?_ ?_
        · simp only; omega
        · simp only
          split <;> simp
      · have ok : okU x st t = false := by rw [okU, decide_eq_false ht]; rfl
        rw [if_neg ht, perS_eq x st fr tt r _ h2, List.filter_cons, if_neg (by rw [ok]; decide)]
/-- A period's times; those of so many periods. -/
def gP (x : CV) (st p : Int) : List Int := if spE x p = 0 then gaL x st (spF x p) (spT x p) else []
def uG (x : CV) (st : Int) : Nat → Int → List Int
  | 0, _ => []
  | k + 1, p => gP x st p ++ uG x st k (p + x.iv)
theorem uG_add (x : CV) (st : Int) : ∀ (a b : Nat) (p : Int), uG x st (a + b) p = uG x st a p ++ uG x st b (p + (a : Int) * x.iv)
  | 0, b, p => by rw [Nat.zero_add, uG, List.nil_append]; congr 1; simp
  | a + 1, b, p => by
    rw [show a + 1 + b = (a + b) + 1 by omega, uG, uG, uG_add x st a b, List.append_assoc]
    congr 3
    rw [Int.natCast_add, Int.add_mul]
    omega
theorem uG_mem {x : CV} {st t : Int} : ∀ {k : Nat} {p : Int}, t ∈ uG x st k p ↔ ∃ j : Nat, j < k ∧ t ∈ gP x st (p + (j : Int) * x.iv)
  | 0, p => by simp [uG]
  | k + 1, p => by
    rw [uG, List.mem_append, uG_mem (k := k)]
    constructor
    · rintro (h | ⟨j, hj, h⟩)
      · exact ⟨0, by omega, by simpa using h⟩
      · refine ⟨j + 1, by omega, ?_⟩
        rw [show p + ((j + 1 : Nat) : Int) * x.iv = p + x.iv + (j : Int) * x.iv by rw [Int.natCast_add, Int.add_mul]; omega]
        exact h
    · rintro ⟨j, hj, h⟩
      cases j with
      | zero => exact Or.inl (by simpa using h)
      | succ j =>
        refine Or.inr ⟨j, by omega, ?_⟩
        rw [show p + ((j + 1 : Nat) : Int) * x.iv = p + x.iv + (j : Int) * x.iv by rw [Int.natCast_add, Int.add_mul]; omega] at h
        exact h
theorem be_sp {x : CV} {tt p : Int} (h : ¬ beB x tt p = true) : spE x p = 0 := by
  rw [beB] at h
  simp only [Bool.or_eq_true, decide_eq_true_eq, not_or] at h
  exact Decidable.not_not.1 h.1
/-- What the rounds tell. -/
theorem go_eq {x : CV} {st fr tt f : Int} (hr : ∀ p, (gP x st p).Pairwise (· < ·)) : ∀ (m : Nat) (p c : Int) (s r : Int × List Int), goT x st fr tt f m p c s = some r → ∃ k : Nat, (∀ j : Nat, j < k → beB x tt (p + (j : Int) * x.iv) = false) ∧ r.2 = s.2 ++ (tkN x s.1 ((uG x st k p).filter (okU x st))).filter (inS fr tt) ∧ (fuB x (s.1 + ((tkN x s.1 ((uG x st k p).filter (okU x st))).length : Int)) = true ∨ beB x tt (p + (k : Int) * x.iv) = true)
  | 0, _, _, _, _, h => by rw [goT] at h; exact absurd h (by simp)
  | m + 1, p, c, s, r, h => by
    rw [goT] at h
    split at h
    · rename_i h1
      injection h with h; subst h
      refine ⟨0, fun j hj => absurd hj (by omega), ?_, ?_⟩
      · simp [uG, tkN_nil]
      · exact Or.inl (by simpa [uG, tkN_nil] using h1)
    · split at h
      · rename_i h2
        injection h with h; subst h
        refine ⟨0, fun j hj => absurd hj (by omega), ?_, ?_⟩
        · simp [uG, tkN_nil]
        · exact Or.inr (by simpa using h2)
      · rename_i h2
        split at h
        · exact absurd h (by simp)
        · have e : gaL x st (spF x p) (spT x p) = gP x st p := by rw [gP, if_pos (be_sp h2)]
          rw [e, perS_eq x st fr tt _ s (hr p)] at h
          obtain ⟨k, k1, k2, k3⟩ := go_eq hr m _ _ _ r h
          have hs : ∀ j : Nat, p + ((j + 1 : Nat) : Int) * x.iv = p + x.iv + (j : Int) * x.iv := fun j => by rw [Int.natCast_add, Int.add_mul]; omega
          refine ⟨k + 1, fun j hj => ?_, ?_, ?_⟩
          · cases j with
            | zero => simpa using h2
            | succ j => rw [hs]; exact k1 j (by omega)
          · rw [k2, uG, List.filter_append, tkN_app, List.filter_append, List.append_assoc]
          · rw [hs, uG, List.filter_append, tkN_app, List.length_append]
            rcases k3 with k3 | k3
            · refine Or.inl ?_
              rw [← k3]
              simp only
              congr 1
              omega
            · exact Or.inr k3
end Rru
end Go.Proofs.YtpbbnkgfheafpaaGreatDoor
/-
  Plain words: periods' spans follow one another; a time's period is the one in whose span it lies; later times have later periods.
-/
namespace Go.Proofs.YtpbbnkgfheafpaaGreatDoor
open Go.RowKit
namespace Rru
open Rcv (CV)
open Rck (ckB)
open Civ (dY dM dD)
open Wk (fw noY)
open Fil (moO mo_bd mo_of mo_iff spA spZ spQ spO spE spF spT mfV yfV wfV mfO yfO wfO mf_at mf_next yf_at wf_at wfO_in mfO_at yfO_at v1 v2 v3 v4 v5 v6 v7 v8 dy_bounds no_span fw_in spQ_iff perQ perV perE sp_next sp_law ck_fq ck_wk)
theorem fq_7 {x : CV} (hf : 1 ≤ x.fq ∧ x.fq ≤ 7) : x.fq = 1 ∨ x.fq = 2 ∨ x.fq = 3 ∨ x.fq = 4 ∨ x.fq = 5 ∨ x.fq = 6 ∨ x.fq = 7 := by omega
theorem mf_step {p : Int} (h : 0 ≤ p) (h2 : p + 1 < 120012) : mfV p + 28 ≤ mfV (p + 1) := by
  obtain ⟨Y, M, e, y, mm⟩ : ∃ Y M : Int, p = 12 * Y + M - 1 ∧ (0 ≤ Y ∧ Y ≤ 10000) ∧ 1 ≤ M ∧ M ≤ 12 := ⟨p / 12, p % 12 + 1, by omega, by omega, by omega⟩
  subst e
  have s := Cal.ny_succ Y
  have m28 := Cal.mlen_28 (y := Y) mm.1 mm.2
  rw [mf_at y mm]
  by_cases e : M = 12
  · subst e
    have c := Cal.cum_12 Y
    rw [show 12 * Y + 12 - 1 + 1 = 12 * (Y + 1) + 1 - 1 by omega, mf_at (by omega) (by decide), Cal.cum_1]
    omega
  · have c := Cal.cum_succ (y := Y) (m := M) mm.1 (by omega)
    rw [show 12 * Y + M - 1 + 1 = 12 * Y + (M + 1) - 1 by omega, mf_at y (by omega)]
    omega
theorem mf_mono {p q : Int} (h : 0 ≤ p) (hpq : p ≤ q) (h2 : q < 120012) : mfV p ≤ mfV q := by
  obtain ⟨n, rfl⟩ : ∃ n : Nat, q = p + n := ⟨(q - p).toNat, by omega⟩
  clear hpq
  induction n with
  | zero => simp
  | succ n ih =>
    have a := ih (by omega)
    have b := mf_step (p := p + n) (by omega) (by omega)
    rw [show p + ((n + 1 : Nat) : Int) = p + n + 1 by omega]
    omega
theorem fw_mono {a b k : Int} (hab : a ≤ b) : fw a k ≤ fw b k := by
  by_cases e : a = b
  · rw [e]; exact Int.le_refl _
  · have f1 := fw_in a k
    have f2 := fw_in b k
    have n := Cal.ny_mono (a := a) (b := b) hab
    omega
theorem fw_step (a k : Int) : fw a k + 300 ≤ fw (a + 1) k := by
  have f1 := fw_in a k
  have f2 := fw_in (a + 1) k
  have s := Cal.ny_succ a
  have l := Cal.lp_01 a
  omega
/-- A later period's span begins behind. -/
theorem sp_lt {x : CV} (hf : 1 ≤ x.fq ∧ x.fq ≤ 7) {p q : Int} (hp : spO x p = true) (hq : spO x q = true) (h : p < q) : spZ x p ≤ spA x q := by
  rcases fq_7 hf with f | f | f | f | f | f | f
  · rw [(v1 f p p).2.2.1, (v1 f q q).2.1]; omega
  · rw [(v2 f p p).2.2.1, (v2 f q q).2.1]; omega
  · rw [(v3 f p p).2.2.1, (v3 f q q).2.1]; omega
  · rw [(v4 f p p).2.2.1, (v4 f q q).2.1]; omega
  · rw [(v5 f p p).2.2.1, (v5 f q q).2.1]; omega
  · rw [(v6 f p p).2.2.2, Bool.and_eq_true] at hp
    rw [(v6 f q q).2.2.2, Bool.and_eq_true] at hq
    have a := mfO_in hp.1
    have b := mfO_in hq.1
    have m := mf_mono (p := p + 1) (q := q) (by omega) (by omega) (by omega)
    rw [(v6 f p p).2.2.1, (v6 f q q).2.1]; omega
  · by_cases hn : x.wn = []
    · rw [(v7 f hn p p).2.2.2, Bool.and_eq_true] at hp
      rw [(v7 f hn q q).2.2.2, Bool.and_eq_true] at hq
      have a := yfO_in hp.2
      have b := yfO_in hq.1
      have m := Cal.ny_mono (a := p + 1) (b := q) (by omega)
      rw [(v7 f hn p p).2.2.1, (v7 f hn q q).2.1, yf_at a, yf_at b]; omega
    · rw [(v8 f hn p p).2.2.2, Bool.and_eq_true] at hp
      rw [(v8 f hn q q).2.2.2, Bool.and_eq_true] at hq
      have m := fw_mono (a := p + 1) (b := q) (k := x.wk) (by omega)
      rw [(v8 f hn p p).2.2.1, (v8 f hn q q).2.1, (wf_at (k := x.wk) (wfO_in hp.2)).2, (wf_at (k := x.wk) (wfO_in hq.1)).2]; omega
theorem sp_pos {x : CV} (hf : 1 ≤ x.fq ∧ x.fq ≤ 7) {p : Int} (hp : spO x p = true) : spA x p < spZ x p := by
  rcases fq_7 hf with f | f | f | f | f | f | f
  · rw [(v1 f p p).2.2.1, (v1 f p p).2.1]; omega
  · rw [(v2 f p p).2.2.1, (v2 f p p).2.1]; omega
  · rw [(v3 f p p).2.2.1, (v3 f p p).2.1]; omega
  · rw [(v4 f p p).2.2.1, (v4 f p p).2.1]; omega
  · rw [(v5 f p p).2.2.1, (v5 f p p).2.1]; omega
  · rw [(v6 f p p).2.2.2, Bool.and_eq_true] at hp
    have a := mfO_in hp.1
    have b := mfO_in hp.2
    have m := mf_step (p := p) (by omega) (by omega)
    rw [(v6 f p p).2.2.1, (v6 f p p).2.1]; omega
  · by_cases hn : x.wn = []
    · rw [(v7 f hn p p).2.2.2, Bool.and_eq_true] at hp
      have m := Cal.ny_mono (a := p) (b := p + 1) (by omega)
      rw [(v7 f hn p p).2.2.1, (v7 f hn p p).2.1, yf_at (yfO_in hp.1), yf_at (yfO_in hp.2)]; omega
    · rw [(v8 f hn p p).2.2.2, Bool.and_eq_true] at hp
      have m := fw_step p x.wk
      rw [(v8 f hn p p).2.2.1, (v8 f hn p p).2.1, (wf_at (k := x.wk) (wfO_in hp.1)).2, (wf_at (k := x.wk) (wfO_in hp.2)).2]; omega
theorem spO_mid {x : CV} (hf : 1 ≤ x.fq ∧ x.fq ≤ 7) {p m q : Int} (hp : spO x p = true) (hq : spO x q = true) (h1 : p ≤ m) (h2 : m ≤ q) : spO x m = true := by
  rcases fq_7 hf with f | f | f | f | f | f | f
  · exact (v1 f m m).2.2.2
  · exact (v2 f m m).2.2.2
  · exact (v3 f m m).2.2.2
  · exact (v4 f m m).2.2.2
  · exact (v5 f m m).2.2.2
  · rw [(v6 f p p).2.2.2, Bool.and_eq_true] at hp
    rw [(v6 f q q).2.2.2, Bool.and_eq_true] at hq
    have a := mfO_in hp.1
    have b := mfO_in hq.2
    rw [(v6 f m m).2.2.2, mfO_at (by omega), mfO_at (by omega)]; rfl
  · by_cases hn : x.wn = []
    · rw [(v7 f hn p p).2.2.2, Bool.and_eq_true] at hp
      rw [(v7 f hn q q).2.2.2, Bool.and_eq_true] at hq
      have a := yfO_in hp.1
      have b := yfO_in hq.2
      rw [(v7 f hn m m).2.2.2, yfO_at (by omega), yfO_at (by omega)]; rfl
    · rw [(v8 f hn p p).2.2.2, Bool.and_eq_true] at hp
      rw [(v8 f hn q q).2.2.2, Bool.and_eq_true] at hq
      have a := wfO_in hp.1
      have b := wfO_in hq.2
      rw [(v8 f hn m m).2.2.2, (wf_at (k := 0) (y := m) (by omega)).1, (wf_at (k := 0) (y := m + 1) (by omega)).1]; rfl
theorem spe_iff {x : CV} {p : Int} : spE x p = 0 ↔ ckB x = true ∧ spQ x p = true := by
  rw [spE]
  split
  · rename_i h
    split
    · rename_i g; exact ⟨fun _ => ⟨h, g⟩, fun _ => rfl⟩
    · rename_i g; exact ⟨fun k => absurd k (by decide), fun k => absurd k.2 g⟩
  · rename_i h
    exact ⟨fun k => absurd k (by decide), fun k => absurd k.1 h⟩
theorem spe_at {x : CV} {p : Int} (h : spE x p = 0) : ckB x = true ∧ spO x p = true ∧ moO (spA x p) = true ∧ moO (spZ x p - 1) = true ∧ spF x p = spA x p ∧ spT x p = spZ x p - 1 ∧ spA x p < spZ x p := by
  obtain ⟨a, b⟩ := spe_iff.1 h
  obtain ⟨_, c, d, e⟩ := spQ_iff.1 b
  exact ⟨a, c, d, e, by rw [spF, if_pos ⟨a, b⟩], by rw [spT, if_pos ⟨a, b⟩], sp_pos (ck_fq a) c⟩
/-- The periods that have a span stand side by side. -/
theorem spe_mid {x : CV} {p m q : Int} (hp : spE x p = 0) (hq : spE x q = 0) (h1 : p ≤ m) (h2 : m ≤ q) : spE x m = 0 := by
  obtain ⟨a, b⟩ := spe_iff.1 hp
  obtain ⟨_, c⟩ := spe_iff.1 hq
  have hf := ck_fq a
  obtain ⟨b1, b2, b3, b4⟩ := spQ_iff.1 b
  obtain ⟨c1, c2, c3, c4⟩ := spQ_iff.1 c
  have o := spO_mid hf b2 c2 h1 h2
  by_cases e1 : m = p
  · rw [e1]; exact hp
  by_cases e2 : m = q
  · rw [e2]; exact hq
  have l1 := sp_lt hf b2 o (show p < m by omega)
  have l2 := sp_lt hf o c2 (show m < q by omega)
  have p1 := sp_pos hf b2
  have p2 := sp_pos hf o
  have p3 := sp_pos hf c2
  rw [mo_iff, decide_eq_true_eq] at b3 b4 c3 c4
  have f1 := of_decide_eq_false b1
  have f2 := of_decide_eq_false c1
  refine spe_iff.2 ⟨a, spQ_iff.2 ⟨decide_eq_false (by omega), o, mo_of (by omega) (by omega), mo_of (by omega) (by omega)⟩⟩
/-- The first time of a span is of its period. -/
theorem per_at {x : CV} {p : Int} (h : spE x p = 0) : perQ x (spA x p) = p := by
  obtain ⟨a, o, ma, _, _, _, _⟩ := spe_at h
  rw [mo_iff, decide_eq_true_eq] at ma
  rcases fq_7 (ck_fq a) with f | f | f | f | f | f | f
  · rw [(v1 f _ p).1, (v1 f p p).2.1]
  · rw [(v2 f _ p).1, (v2 f p p).2.1]; omega
  · rw [(v3 f _ p).1, (v3 f p p).2.1]; omega
  · rw [(v4 f _ p).1, (v4 f p p).2.1]; omega
  · rw [(v5 f _ p).1, (v5 f p p).2.1]; omega
  · rw [(v6 f p p).2.2.2, Bool.and_eq_true] at o
    have o1 := mfO_in o.1
    have o2 := mfO_in o.2
    have st := mf_step (p := p) (by omega) (by omega)
    rw [(v6 f _ p).1, (v6 f p p).2.1]
    rw [(v6 f p p).2.1] at ma
    obtain ⟨Y, M, e, y, mm⟩ : ∃ Y M : Int, p = 12 * Y + M - 1 ∧ (0 ≤ Y ∧ Y ≤ 10000) ∧ 1 ≤ M ∧ M ≤ 12 := ⟨p / 12, p % 12 + 1, by omega, by omega, by omega⟩
    subst e
    rw [mf_at y mm] at ma ⊢
    rw [show (Cal.ny Y + Cal.cum Y M) * 86400 / 86400 = Cal.ny Y + Cal.cum Y M by omega] at ma ⊢
    have c := Cal.cum_bd (y := Y) mm.1 mm.2
    have m28 := Cal.mlen_28 (y := Y) mm.1 mm.2
    have s := Cal.ny_succ Y
    have yr := Cal.yr_of (n := Cal.ny Y + Cal.cum Y M) (y := Y) (by omega) (by omega) (by omega) (by omega)
    have mo := Cal.mon_of (y := Y) (r := Cal.ny Y + Cal.cum Y M - Cal.ny Y) mm.1 mm.2 (by omega) (by omega)
    rw [dY, dM, if_pos (by omega), if_pos (by omega), yr, mo]
  · by_cases hn : x.wn = []
    · rw [(v7 f hn p p).2.2.2, Bool.and_eq_true] at o
      rw [(v7 f hn _ p).1, (v7 f hn p p).2.1]
      rw [(v7 f hn p p).2.1] at ma
      rw [yf_at (yfO_in o.1)] at ma ⊢
      rw [show Cal.ny p * 86400 / 86400 = Cal.ny p by omega] at ma ⊢
      have s := Cal.ny_succ p
      have l := Cal.lp_01 p
      have yr := Cal.yr_of (n := Cal.ny p) (y := p) (by omega) (by omega) (by omega) (by omega)
      rw [dY, if_pos (by omega), yr]
    · rw [(v8 f hn p p).2.2.2, Bool.and_eq_true] at o
      rw [(v8 f hn _ p).1, (v8 f hn p p).2.1]
      rw [(v8 f hn p p).2.1] at ma
      rw [(wf_at (k := x.wk) (wfO_in o.1)).2] at ma ⊢
      rw [show fw p x.wk * 86400 / 86400 = fw p x.wk by omega] at ma ⊢
      obtain ⟨a1, a2, a3, a4⟩ := no_span (k := x.wk) (ck_wk a) ma
      obtain ⟨q, hq⟩ : ∃ q, noY (fw p x.wk) x.wk = q := ⟨_, rfl⟩
      rw [hq] at a3 a4 ⊢
      have s1 := fw_step p x.wk
      by_cases e1 : q < p
      · have m := fw_mono (a := q + 1) (b := p) (k := x.wk) (by omega); omega
      · by_cases e2 : p < q
        · have m := fw_mono (a := p + 1) (b := q) (k := x.wk) (by omega); omega
        · omega
/-- A time in a period's span is of that period. -/
theorem per_in {x : CV} {p u : Int} (h : spE x p = 0) (h1 : spA x p ≤ u) (h2 : u < spZ x p) : perQ x u = p ∧ perV x u = p ∧ perE x u = 0 ∧ moO u = true := by
  obtain ⟨a, o, ma, mz, _, _, hp⟩ := spe_at h
  have e := per_at h
  have hu : moO u = true := by
    rw [mo_iff, decide_eq_true_eq] at ma mz
    exact mo_of (by omega) (by omega)
  have l := (sp_law a ma (by rw [e]; exact (spe_iff.1 h).2)).2.2 u (by rw [e]; exact h1) (by rw [e]; exact h2)
  rw [e] at l
  have pv := l.1
  rw [perV, if_pos ⟨a, hu⟩] at pv
  exact ⟨pv, l.1, l.2, hu⟩
/-- Later times are of later periods. -/
theorem per_mono {x : CV} (hc : ckB x = true) {t u : Int} (ht : moO t = true) (hu : moO u = true) (h : t ≤ u) : perQ x t ≤ perQ x u := by
  have bt := mo_bd ht
  have bu := mo_bd hu
  have hd : t / 86400 ≤ u / 86400 := by omega
  rcases fq_7 (ck_fq hc) with f | f | f | f | f | f | f
  · rw [(v1 f t 0).1, (v1 f u 0).1]; exact h
  · rw [(v2 f t 0).1, (v2 f u 0).1]; omega
  · rw [(v3 f t 0).1, (v3 f u 0).1]; omega
  · rw [(v4 f t 0).1, (v4 f u 0).1]; omega
  · rw [(v5 f t 0).1, (v5 f u 0).1]; omega
  · rw [(v6 f t 0).1, (v6 f u 0).1]
    obtain ⟨Y, M, D, e1, e2, e3, y, mm, dd, e, _, _⟩ := dy_bounds ⟨bt.1, bt.2.1⟩
    obtain ⟨Y2, M2, D2, k1, k2, k3, y2, mm2, dd2, k, _, _⟩ := dy_bounds ⟨bu.1, bu.2.1⟩
    rw [e1, e2, k1, k2]
    by_cases g : 12 * Y + M - 1 ≤ 12 * Y2 + M2 - 1
    · exact g
    · have a := mf_at (Y := Y) (by omega) mm
      have b := mf_next (Y := Y2) (by omega) mm2
      have m := mf_mono (p := 12 * Y2 + M2 - 1 + 1) (q := 12 * Y + M - 1) (by omega) (by omega) (by omega)
      omega
  · by_cases hn : x.wn = []
    · rw [(v7 f hn t 0).1, (v7 f hn u 0).1]
      obtain ⟨Y, M, D, e1, e2, e3, y, mm, dd, e, n1, n2⟩ := dy_bounds ⟨bt.1, bt.2.1⟩
      obtain ⟨Y2, M2, D2, k1, k2, k3, y2, mm2, dd2, k, m1, m2⟩ := dy_bounds ⟨bu.1, bu.2.1⟩
      rw [e1, k1]
      by_cases g : Y ≤ Y2
      · exact g
      · have m := Cal.ny_mono (a := Y2 + 1) (b := Y) (by omega)
        omega
    · rw [(v8 f hn t 0).1, (v8 f hn u 0).1]
      obtain ⟨a1, a2, a3, a4⟩ := no_span (k := x.wk) (ck_wk hc) ⟨bt.1, bt.2.1⟩
      obtain ⟨b1, b2, b3, b4⟩ := no_span (k := x.wk) (ck_wk hc) ⟨bu.1, bu.2.1⟩
      by_cases g : noY (t / 86400) x.wk ≤ noY (u / 86400) x.wk
      · exact g
      · have m := fw_mono (a := noY (u / 86400) x.wk + 1) (b := noY (t / 86400) x.wk) (k := x.wk) (by omega)
        omega
/-- A period ahead of a time's lies ahead of it. -/
theorem per_ahead {x : CV} {q u : Int} (h : spE x q = 0) (hu : moO u = true) (hq : q < perQ x u) : spZ x q ≤ u := by
  obtain ⟨a, o, ma, mz, _, _, hp⟩ := spe_at h
  by_cases g : spZ x q ≤ u
  · exact g
  · by_cases k : spA x q ≤ u
    · have := (per_in h k (by omega)).1
      omega
    · have := per_mono a hu ma (show u ≤ spA x q by omega)
      rw [per_at h] at this
      omega
end Rru
end Go.Proofs.YtpbbnkgfheafpaaGreatDoor
/-
  Package rrule, plain words: a period's times rise and lie within its span.
-/
namespace Go.Proofs.YtpbbnkgfheafpaaGreatDoor
open Go.RowKit
namespace Rru
open Rcv (CV)
open Rck (ckB)
open Fil (moO mo_bd mo_of mo_iff spA spZ spQ spO spE spF spT v1 v2 v3 v4 v5 v6 v7 v8 letP perQ perV perE ck_fq)
/-- How far bases lie apart at least. -/
def uN (x : CV) : Int := if x.fq = 1 then 1 else if x.fq = 2 then 60 else if x.fq = 3 then 3600 else 86400
theorem srt_lt {L : List Int} (h : L.Nodup) : (srt L).Pairwise (· < ·) := by
  have n : (srt L).Nodup := (List.mergeSort_perm L _).nodup_iff.2 h
  exact ((srt_up L).and n).imp (fun h => by omega)
theorem or_up {L : List Int} {n : Int} (h : L.Nodup) : (orS L n).Pairwise (· < ·) := by
  rw [orS]; split
  · exact List.pairwise_singleton _ _
  · exact srt_lt h
theorem sc_bd {x : CV} (hc : ckB x = true) (st : Int) : ∀ s ∈ scL x st, 0 ≤ s ∧ s < uN x := by
  intro s hs
  rw [scL] at hs
  obtain ⟨a, ha, hs⟩ := List.mem_flatMap.1 hs
  obtain ⟨b, hb, hs⟩ := List.mem_flatMap.1 hs
  obtain ⟨c, hc', rfl⟩ := List.mem_map.1 hs
  have h1 := (hr_bd hc st).1 a ha
  have h2 := (mi_bd hc st).1 b hb
  have h3 := (se_bd hc st).1 c hc'
  have f := ck_fq hc
  rw [hrL] at ha
  rw [miL] at hb
  rw [seL] at hc'
  rw [fS, uN]
  by_cases f1 : x.fq = 1
  · rw [if_neg (by omega), List.mem_singleton] at ha hb hc'
    rw [if_pos f1]; omega
  · by_cases f2 : x.fq = 2
    · rw [if_neg (by omega), List.mem_singleton] at ha hb
      rw [if_neg f1, if_pos f2]; omega
    · by_cases f3 : x.fq = 3
      · rw [if_neg (by omega), List.mem_singleton] at ha
        rw [if_neg f1, if_neg f2, if_pos f3]; omega
      · rw [if_neg f1, if_neg f2, if_neg f3]; omega
theorem sc_up {x : CV} (hc : ckB x = true) (st : Int) : (scL x st).Pairwise (· < ·) := by
  have l := ls_day hc
  have uh : (hrL x st).Pairwise (· < ·) := by
    rw [hrL]; split
    · exact or_up l.1.2
    · exact List.pairwise_singleton _ _
  have um : (miL x st).Pairwise (· < ·) := by
    rw [miL]; split
    · exact or_up l.2.1.2
    · exact List.pairwise_singleton _ _
  have us : (seL x st).Pairwise (· < ·) := by
    rw [seL]; split
    · exact or_up l.2.2.2
    · exact List.pairwise_singleton _ _
  have bm := (mi_bd hc st).1
  have bs := (se_bd hc st).1
  rw [scL, List.pairwise_flatMap]
  refine ⟨fun h _ => ?_, uh.imp (fun {a b} hab u hu v hv => ?_)⟩
  · rw [List.pairwise_flatMap]
    refine ⟨fun m _ => ?_, um.imp (fun {a b} hab u hu v hv => ?_)⟩
    · rw [List.pairwise_map]
      exact us.imp (fun {a b} hab => by rw [fS, fS]; omega)
    · obtain ⟨c, hc1, rfl⟩ := List.mem_map.1 hu
      obtain ⟨d, hd1, rfl⟩ := List.mem_map.1 hv
      have := bs c hc1
      have := bs d hd1
      rw [fS, fS]; omega
  · obtain ⟨m, hm, hu⟩ := List.mem_flatMap.1 hu
    obtain ⟨m2, hm2, hv⟩ := List.mem_flatMap.1 hv
    obtain ⟨c, hc1, rfl⟩ := List.mem_map.1 hu
    obtain ⟨d, hd1, rfl⟩ := List.mem_map.1 hv
    have := bs c hc1
    have := bs d hd1
    have := bm m hm
    have := bm m2 hm2
    rw [fS, fS]; omega
/-- A span of a rule by days or longer is of whole days. -/
theorem sp_day {x : CV} (hf : 4 ≤ x.fq ∧ x.fq ≤ 7) (p : Int) : (∃ A, spA x p = A * 86400) ∧ ∃ Z, spZ x p = Z * 86400 := by
  have : x.fq = 4 ∨ x.fq = 5 ∨ x.fq = 6 ∨ x.fq = 7 := by omega
  rcases this with f | f | f | f
  · exact ⟨⟨_, (v4 f p p).2.1⟩, _, (v4 f p p).2.2.1⟩
  · exact ⟨⟨_, (v5 f p p).2.1⟩, _, (v5 f p p).2.2.1⟩
  · exact ⟨⟨_, (v6 f p p).2.1⟩, _, (v6 f p p).2.2.1⟩
  · by_cases hn : x.wn = []
    · exact ⟨⟨_, (v7 f hn p p).2.1⟩, _, (v7 f hn p p).2.2.1⟩
    · exact ⟨⟨_, (v8 f hn p p).2.1⟩, _, (v8 f hn p p).2.2.1⟩
theorem sp_unit {x : CV} (hf : 1 ≤ x.fq ∧ x.fq < 4) (p : Int) : spA x p = p * uN x ∧ spZ x p = p * uN x + uN x := by
  have : x.fq = 1 ∨ x.fq = 2 ∨ x.fq = 3 := by omega
  rcases this with f | f | f
  · rw [(v1 f p p).2.1, (v1 f p p).2.2.1, uN, if_pos f]; omega
  · rw [(v2 f p p).2.1, (v2 f p p).2.2.1, uN, if_neg (by omega), if_pos f]; omega
  · rw [(v3 f p p).2.1, (v3 f p p).2.2.1, uN, if_neg (by omega), if_neg (by omega), if_pos f]; omega
theorem uN_pos (x : CV) : 0 < uN x := by rw [uN]; split; decide; split; decide; split <;> decide
theorem uN_day {x : CV} (h : 4 ≤ x.fq) : uN x = 86400 := by rw [uN, if_neg (by omega), if_neg (by omega), if_neg (by omega)]
/-- The bases of a span: they rise, a unit apart at least, and lie within it whole. -/
theorem bs_in {x : CV} {st s0 p e : Int} (hf : 1 ≤ x.fq ∧ x.fq ≤ 7) (h : e ∈ bsL x st s0 (spA x p) (spZ x p - 1)) : spA x p ≤ e ∧ e + uN x ≤ spZ x p ∧ ∃ j, e = j * uN x := by
  rw [bsL] at h
  by_cases f : x.fq < 4
  · rw [if_pos f] at h
    have u := sp_unit ⟨hf.1, f⟩ p
    split at h
    · rw [List.mem_singleton] at h
      subst h
      exact ⟨by omega, by omega, p, u.1⟩
    · exact absurd h (by simp)
  · rw [if_neg f] at h
    obtain ⟨d, rfl, h1, h2⟩ := da_mem h
    obtain ⟨⟨A, hA⟩, Z, hZ⟩ := sp_day (x := x) (by omega) p
    rw [hA] at h1 ⊢
    rw [hZ] at h2 ⊢
    rw [uN_day (by omega)]
    exact ⟨by omega, by omega, d, rfl⟩
theorem bs_up {x : CV} {st s0 a b : Int} : (bsL x st s0 a b).Pairwise (fun u v => u + uN x ≤ v) := by
  rw [bsL]
  by_cases f : x.fq < 4
  · rw [if_pos f]
    split
    · exact List.pairwise_singleton _ _
    · exact List.Pairwise.nil
  · rw [if_neg f, daL, List.pairwise_map, uN_day (by omega)]
    refine List.Pairwise.filter _ ?_
    rw [List.pairwise_map]
    exact List.pairwise_lt_range.imp (fun {i j} h => by omega)
/-- The times of all bases. -/
def flF (bs sc : List Int) : List Int := bs.flatMap fun b => sc.map (b + ·)
theorem fl_up {x : CV} {st s0 a b : Int} (hc : ckB x = true) : (flF (bsL x st s0 a b) (scL x st)).Pairwise (· < ·) := by
  rw [flF, List.pairwise_flatMap]
  refine ⟨fun e _ => ?_, bs_up.imp (fun {e e2} h u hu v hv => ?_)⟩
  · rw [List.pairwise_map]
    exact (sc_up hc st).imp (fun {i j} h => by omega)
  · obtain ⟨c, hc1, rfl⟩ := List.mem_map.1 hu
    obtain ⟨d, hd1, rfl⟩ := List.mem_map.1 hv
    have := sc_bd hc st c hc1
    have := sc_bd hc st d hd1
    omega
theorem fl_get {sc : List Int} (hn : 0 < sc.length) : ∀ (bs : List Int) (k : Nat), k < bs.length * sc.length → (flF bs sc).getD k 0 = bs.getD (k / sc.length) 0 + sc.getD (k % sc.length) 0
  | [], k, h => by simp at h
  | b :: r, k, h => by
    rw [flF, List.flatMap_cons]
    by_cases g : k < sc.length
    · have e1 : k / sc.length = 0 := Nat.div_eq_of_lt g
      have e2 : k % sc.length = k := Nat.mod_eq_of_lt g
      rw [e1, e2]
      simp [List.getD, List.getElem?_append, g]
    · have k2 : k - sc.length < r.length * sc.length := by
        rw [List.length_cons, Nat.add_mul] at h; omega
      have ih := fl_get hn r (k - sc.length) k2
      have e1 : k / sc.length = (k - sc.length) / sc.length + 1 := by
        rw [Nat.div_eq_sub_div hn (by omega)]
      have e2 : k % sc.length = (k - sc.length) % sc.length := Nat.mod_eq_sub_mod (by omega)
      rw [e1, e2, List.getD_cons_succ, ← ih, flF]
      simp [List.getD, List.getElem?_append, g]
theorem fl_len (bs sc : List Int) : (flF bs sc).length = bs.length * sc.length := by
  rw [flF]; exact flat_all (fun a _ => List.length_map _)
theorem tiF_eq {bs sc : List Int} (hn : sc ≠ []) {k : Int} (h : 0 ≤ k ∧ k < ((bs.length * sc.length : Nat) : Int)) : tiF bs sc k = (flF bs sc).getD k.toNat 0 := by
  rw [tiF, fl_get (List.length_pos_iff.2 hn) bs k.toNat (by omega)]
theorem ti_sub {x : CV} {bs sc : List Int} (hn : sc ≠ []) {t : Int} (h : t ∈ tiL x bs sc) : t ∈ flF bs sc := by
  rw [tiL] at h
  split at h
  · exact h
  · obtain ⟨k, hk, rfl⟩ := List.mem_map.1 h
    have b := pl_mem hk
    rw [tiF_eq hn b]
    have l : k.toNat < (flF bs sc).length := by rw [fl_len]; omega
    rw [getD_at l]
    exact List.getElem_mem l
theorem ti_up {x : CV} {bs sc : List Int} (hn : sc ≠ []) (h : (flF bs sc).Pairwise (· < ·)) : (tiL x bs sc).Pairwise (· < ·) := by
  rw [tiL]
  split
  · exact h
  · rw [List.pairwise_map]
    refine List.Pairwise.imp_of_mem (fun {i j} hi hj hij => ?_) (pl_up x.sp _)
    have b1 := pl_mem hi
    have b2 := pl_mem hj
    have l1 : i.toNat < (flF bs sc).length := by rw [fl_len]; omega
    have l2 : j.toNat < (flF bs sc).length := by rw [fl_len]; omega
    rw [tiF_eq hn b1, tiF_eq hn b2, getD_at l1, getD_at l2]
    exact List.pairwise_iff_getElem.1 h _ _ l1 l2 (by omega)
theorem ga_eq {x : CV} {st p : Int} (h : spE x p = 0) : gP x st p = tiL x (bsL x st (s0F x st) (spA x p) (spZ x p - 1)) (scL x st) := by
  obtain ⟨_, _, _, _, f, t, _⟩ := spe_at h
  rw [gP, if_pos h, gaL, f, t]
theorem gP_up (x : CV) (st p : Int) : (gP x st p).Pairwise (· < ·) := by
  by_cases h : spE x p = 0
  · rw [ga_eq h]
    exact ti_up (sc_ne st) (fl_up (spe_at h).1)
  · rw [gP, if_neg h]; exact List.Pairwise.nil
theorem gP_sp {x : CV} {st p t : Int} (h : t ∈ gP x st p) : spE x p = 0 := by
  by_cases e : spE x p = 0
  · exact e
  · rw [gP, if_neg e] at h; exact absurd h (by simp)
theorem gP_in {x : CV} {st p t : Int} (h : t ∈ gP x st p) : spA x p ≤ t ∧ t < spZ x p := by
  have e := gP_sp h
  obtain ⟨hc, _⟩ := spe_at e
  rw [ga_eq e] at h
  have h := ti_sub (sc_ne st) h
  rw [flF] at h
  obtain ⟨b, hb, h⟩ := List.mem_flatMap.1 h
  obtain ⟨s, hs, rfl⟩ := List.mem_map.1 h
  have k := bs_in (ck_fq hc) hb
  have u := sc_bd hc st s hs
  omega
theorem gP_per {x : CV} {st p t : Int} (h : t ∈ gP x st p) : perQ x t = p ∧ perV x t = p ∧ perE x t = 0 ∧ moO t = true := per_in (gP_sp h) (gP_in h).1 (gP_in h).2
theorem gP_lt {x : CV} {st p q t u : Int} (hp : t ∈ gP x st p) (hq : u ∈ gP x st q) (h : p < q) : t < u := by
  obtain ⟨hc, o, _⟩ := spe_at (gP_sp hp)
  obtain ⟨_, o2, _⟩ := spe_at (gP_sp hq)
  have := sp_lt (ck_fq hc) o o2 h
  have := gP_in hp
  have := gP_in hq
  omega
theorem uG_up {x : CV} {st : Int} (hi : 1 ≤ x.iv) : ∀ (k : Nat) (p : Int), (uG x st k p).Pairwise (· < ·)
  | 0, _ => List.Pairwise.nil
  | k + 1, p => by
    rw [uG, List.pairwise_append]
    refine ⟨gP_up x st p, uG_up hi k _, fun a ha b hb => ?_⟩
    obtain ⟨j, _, hj⟩ := uG_mem.1 hb
    refine gP_lt ha hj ?_
    have : 0 ≤ (j : Int) * x.iv := Int.mul_nonneg (Int.natCast_nonneg _) (by omega)
    omega
end Rru
end Go.Proofs.YtpbbnkgfheafpaaGreatDoor
/-
  Package rrule, plain words: what is told of a span are the rule's times in it, whichever span it is.
-/
namespace Go.Proofs.YtpbbnkgfheafpaaGreatDoor
open Go.RowKit
namespace Rru
open Rcv (CV)
open Rck (ckB)
open Fil (moO mo_bd mo_of mo_iff spA spZ spQ spO spE spF spT perQ perV perE ck_fq)
/-- The rule's times behind the start, of so many periods; with the start. -/
def uL (x : CV) (st : Int) (K : Nat) : List Int := if spE x (perV x st) = 0 then uG x st K (perV x st) else []
def aL (x : CV) (st : Int) (K : Nat) : List Int := st :: tkN x 1 ((uL x st K).filter (okU x st))
theorem uL_up {x : CV} {st : Int} (hi : 1 ≤ x.iv) (K : Nat) : (uL x st K).Pairwise (· < ·) := by
  rw [uL]; split
  · exact uG_up hi K _
  · exact List.Pairwise.nil
theorem ok_lt {x : CV} {st t : Int} (h : okU x st t = true) : st < t := by
  rw [okU, Bool.and_eq_true, decide_eq_true_eq] at h
  exact h.1
theorem aL_mem {x : CV} {st t : Int} {K : Nat} (h : t ∈ aL x st K) : t = st ∨ t ∈ uL x st K ∧ okU x st t = true := by
  rw [aL] at h
  rcases List.mem_cons.1 h with h | h
  · exact Or.inl h
  · have h := (tkN_sub x 1 _).mem h
    rw [List.mem_filter] at h
    exact Or.inr h
theorem aL_up {x : CV} {st : Int} (hi : 1 ≤ x.iv) (K : Nat) : (aL x st K).Pairwise (· < ·) := by
  rw [aL, List.pairwise_cons]
  refine ⟨fun t ht => ?_, ((uL_up hi K).filter _).sublist (tkN_sub x 1 _)⟩
  have h := (tkN_sub x 1 _).mem ht
  rw [List.mem_filter] at h
  exact ok_lt h.2
theorem mul_nn (j : Nat) {a : Int} (h : 1 ≤ a) : 0 ≤ (j : Int) * a := Int.mul_nonneg (Int.natCast_nonneg _) (by omega)
/-- Times of periods that lie behind are none of the span. -/
theorem behind_nil {x : CV} {st fr tt p0 : Int} {k r : Nat} (hi : 1 ≤ x.iv) (h0 : spE x p0 = 0) (hb : beB x tt (p0 + (k : Int) * x.iv) = true) (a : Int) : (tkN x a ((uG x st r (p0 + (k : Int) * x.iv)).filter (okU x st))).filter (inS fr tt) = [] := by
  rw [List.filter_eq_nil_iff]
  intro t ht hin
  have ht := (tkN_sub x a _).mem ht
  rw [List.mem_filter] at ht
  obtain ⟨hu, hok⟩ := ht
  obtain ⟨j, _, hj⟩ := uG_mem.1 hu
  have q0 := gP_sp hj
  have t0 := gP_in hj
  obtain ⟨p, hp⟩ : ∃ p, p0 + (k : Int) * x.iv = p := ⟨_, rfl⟩
  have n1 := mul_nn k hi
  have n2 := mul_nn j hi
  rw [hp] at hb q0 t0
  have hpe := spe_mid h0 q0 (m := p) (by omega) (by omega)
  obtain ⟨hc, o, _, _, sf, _, _⟩ := spe_at hpe
  obtain ⟨_, o2, _, _, _, _, z2⟩ := spe_at q0
  have le : spA x p ≤ t := by
    by_cases e : p = p + (j : Int) * x.iv
    · rw [← e] at t0; exact t0.1
    · have l := sp_lt (ck_fq hc) o o2 (show p < p + (j : Int) * x.iv by omega)
      have := sp_pos (ck_fq hc) o
      omega
  rw [beB, sf] at hb
  simp only [Bool.or_eq_true, Bool.and_eq_true, decide_eq_true_eq] at hb
  rw [inS, Bool.and_eq_true, decide_eq_true_eq, decide_eq_true_eq] at hin
  rcases hb with hb | hb | hb
  · exact hb hpe
  · omega
  · rw [okU, hb.1, decide_eq_true (show x.ua < t by omega)] at hok
    simp at hok
theorem full_nil {x : CV} {a : Int} (h : fuB x a = true) (L : List Int) : tkN x a L = [] := by
  rw [fuB, Bool.and_eq_true, decide_eq_true_eq, decide_eq_true_eq] at h
  exact tkN_full h L
theorem tkN_off {x : CV} (h : ¬ 0 < x.ct) (a : Int) (L : List Int) : tkN x a L = L := by rw [tkN, if_neg h]
theorem all_ahead {x : CV} {st fr tt : Int} {k : Nat} {p : Int} (h : ∀ j : Nat, j < k → spE x (p + (j : Int) * x.iv) = 0 → spZ x (p + (j : Int) * x.iv) ≤ fr) : (((uG x st k p).filter (okU x st)).filter (inS fr tt)) = [] := by
  rw [List.filter_eq_nil_iff]
  intro t ht hin
  rw [List.mem_filter] at ht
  obtain ⟨j, hj, hg⟩ := uG_mem.1 ht.1
  have := h j hj (gP_sp hg)
  have := gP_in hg
  rw [inS, Bool.and_eq_true, decide_eq_true_eq, decide_eq_true_eq] at hin
  omega
theorem st_le {x : CV} {st : Int} (hc : ckB x = true) (hm : moO st = true) (h : spE x (perV x st) = 0) : spA x (perV x st) ≤ st ∧ st < spZ x (perV x st) := by
  have e : perV x st = perQ x st := by rw [perV, if_pos ⟨hc, hm⟩]
  rw [e] at h ⊢
  exact (Fil.sp_law hc hm (spe_iff.1 h).2).1
/-- What is told of a span. -/
theorem tm_all {x : CV} {st fr tt f c : Int} {O : List Int} (hc : ckB x = true) (hm : moO st = true) (h2 : arB fr tt f = false) (h : tmX x st fr tt f = (0, c, O)) : ∃ k0 : Nat, ∀ K : Nat, k0 ≤ K → O = (aL x st K).filter (inS fr tt) := by
  have hi := (iv_bd hc).1
  have h1 : perE x st = 0 := by rw [perE, if_pos hc, if_pos hm]
  have fu := fu_bd h2
  rw [tm_ok h1 h2] at h
  have h := out_ok h
  rw [tmR] at h
  obtain ⟨p0, hp0⟩ : ∃ p, perV x st = p := ⟨_, rfl⟩
  have sl := st_le hc hm
  have hA : ∀ K, (aL x st K).filter (inS fr tt) = [st].filter (inS fr tt) ++ (tkN x 1 ((uL x st K).filter (okU x st))).filter (inS fr tt) := fun K => by
    rw [aL, show (st :: tkN x 1 ((uL x st K).filter (okU x st))) = [st] ++ tkN x 1 ((uL x st K).filter (okU x st)) from rfl, List.filter_append]
  simp only [hA]
  rw [hp0] at h sl
  simp only [uL, hp0]
  by_cases e0 : spE x p0 = 0
  · simp only [if_pos e0]
    have sl := sl e0
    obtain ⟨_, o0, ma0, mz0, sf0, st0, _⟩ := spe_at e0
    by_cases e1 : 0 < x.ct ∨ fr ≤ spT x p0
    · have ef : fsF x p0 fr = (p0, true) := by rw [fsF, if_neg (by rw [e0]; decide), if_pos e1]
      rw [ef, if_pos rfl] at h
      obtain ⟨k, _, k2, k3⟩ := go_eq (gP_up x st) _ _ _ _ _ h
      refine ⟨k, fun K hK => ?_⟩
      obtain ⟨r, rfl⟩ : ∃ r, K = k + r := ⟨K - k, by omega⟩
      simp only at k2 k3
      rw [k2, tkL_eq, List.nil_append, uG_add, List.filter_append, tkN_app, List.filter_append]
      have : (tkN x (1 + ((tkN x 1 ((uG x st k p0).filter (okU x st))).length : Int)) ((uG x st r (p0 + (k : Int) * x.iv)).filter (okU x st))).filter (inS fr tt) = [] := by
        rcases k3 with k3 | k3
        · rw [full_nil k3]; rfl
        · exact behind_nil hi e0 k3 _
      rw [this, List.append_nil]
    · have nct : ¬ 0 < x.ct := fun q => e1 (Or.inl q)
      have nfr : spT x p0 < fr := by
        have : ¬ fr ≤ spT x p0 := fun q => e1 (Or.inr q)
        omega
      have sfr : st ≤ fr := by rw [st0] at nfr; omega
      simp only [tkN_off nct]
      by_cases e2 : perE x fr ≠ 0
      · have ef : fsF x p0 fr = (0, false) := by rw [fsF, if_neg (by rw [e0]; decide), if_neg e1, if_pos e2]
        rw [ef, if_neg (by decide)] at h
        injection h with h
        injection h with _ h
        refine ⟨0, fun K _ => ?_⟩
        have nmo : moO fr = false := by
          cases q : moO fr with
          | false => rfl
          | true => exact absurd (by rw [perE, if_pos hc, if_pos q]) e2
        rw [← h, tkL_eq, List.nil_append, all_ahead, List.append_nil]
        intro j _ hj
        obtain ⟨_, _, _, mz, _, _, _⟩ := spe_at hj
        rw [mo_iff, decide_eq_false_iff_not] at nmo
        rw [mo_iff, decide_eq_true_eq] at mz mz0
        rw [st0] at nfr
        have hmb := mo_bd hm
        omega
      · have e2 : perE x fr = 0 := Decidable.not_not.1 e2
        have mf : moO fr = true := by
          cases q : moO fr with
          | true => rfl
          | false =>
            rw [perE, if_pos hc, q] at e2
            exact absurd e2 (by decide)
        obtain ⟨w, hw⟩ : ∃ w, perV x fr = w := ⟨_, rfl⟩
        have hwq : perQ x fr = w := by rw [← hw, perV, if_pos ⟨hc, mf⟩]
        have hpq : perQ x st = p0 := by rw [← hp0, perV, if_pos ⟨hc, hm⟩]
        have pm := per_mono hc hm mf sfr
        rw [hwq, hpq] at pm
        obtain ⟨s, hs⟩ : ∃ s, (w - p0 + x.iv - 1).tdiv x.iv = s := ⟨_, rfl⟩
        have hse : (w - p0 + x.iv - 1) / x.iv = s := by rw [← hs, Int.tdiv_eq_ediv_of_nonneg (by omega)]
        have s0 : 0 ≤ s := by rw [← hse]; exact Int.ediv_nonneg (by omega) (by omega)
        have sm : s * x.iv ≤ w - p0 + x.iv - 1 := by rw [← hse]; exact Int.ediv_mul_le _ (by omega)
        have ef : fsF x p0 fr = (p0 + s * x.iv, true) := by rw [fsF, if_neg (by rw [e0]; decide), if_neg e1, if_neg (by rw [e2]; decide), hw, hs]
        rw [ef, if_pos rfl] at h
        obtain ⟨k, _, k2, k3⟩ := go_eq (gP_up x st) _ _ _ _ _ h
        obtain ⟨n, rfl⟩ : ∃ n : Nat, s = n := ⟨s.toNat, by omega⟩
        refine ⟨n + k, fun K hK => ?_⟩
        obtain ⟨r, rfl⟩ : ∃ r, K = n + (k + r) := ⟨K - n - k, by omega⟩
        simp only at k2 k3
        simp only [tkN_off nct] at k2 k3
        rw [k2, tkL_eq, List.nil_append, uG_add, uG_add, List.filter_append, List.filter_append, List.filter_append, List.filter_append]
        have g1 : ((uG x st n p0).filter (okU x st)).filter (inS fr tt) = [] := by
          refine all_ahead (fun j hj hsp => ?_)
          refine per_ahead hsp mf ?_
          rw [hwq]
          have : ((j : Int) + 1) * x.iv ≤ (n : Int) * x.iv := Int.mul_le_mul_of_nonneg_right (by omega) (by omega)
          rw [Int.add_mul] at this
          omega
        have e3 : p0 + (n : Int) * x.iv + (k : Int) * x.iv = p0 + ((n + k : Nat) : Int) * x.iv := by rw [Int.natCast_add, Int.add_mul]; omega
        have g3 : ((uG x st r (p0 + (n : Int) * x.iv + (k : Int) * x.iv)).filter (okU x st)).filter (inS fr tt) = [] := by
          rcases k3 with k3 | k3
          · rw [fuB, decide_eq_false nct, Bool.false_and] at k3
            cases k3
          · rw [e3] at k3 ⊢
            have := behind_nil (st := st) (fr := fr) (r := r) hi e0 k3 1
            rw [tkN_off nct] at this
            exact this
        rw [g1, g3, List.append_nil, List.nil_append]
  · simp only [if_neg e0]
    have ef : fsF x p0 fr = (0, false) := by rw [fsF, if_pos e0]
    rw [ef, if_neg (by decide)] at h
    injection h with h
    injection h with _ h
    refine ⟨0, fun K _ => ?_⟩
    rw [← h, tkL_eq, List.nil_append, List.filter_nil, tkN_nil, List.filter_nil, List.append_nil]
end Rru
end Go.Proofs.YtpbbnkgfheafpaaGreatDoor
