/-
  Several texts in one (ClkSplit, RefClk, RefClk2, RefClk3, RefAt).
-/
import Derived.Test.YthefgagmjamdkaaDoorBdA
import Derived.Test.YthefgagmjamdkaaDoorBdF
import Derived.Test.YthefgagmjamdkaaDoorBdR
import Derived.Laws.AppendOwn
import Derived.Maps.AppendAt
import Derived.OwnWalk
import Derived.Deep.DeepCutAuto
import Derived.Test.YthefgagmjamdkaaDoorBdS
/-
  Plain facts on times of a day: the page's way, by the pieces between colons, says the same.
-/
namespace Go.Proofs.YthefgagmjamdkaaDoor
namespace Clk
open Sol
/-- A text parted at its colons: the pieces that have ended, and the one that goes on. -/
def SP (l : List UInt8) (done : List (List UInt8)) (cur : List UInt8) : Prop :=
  l = (done.map (fun d => d ++ [58])).flatten ++ cur ∧ (∀ d ∈ done, ∀ x ∈ d, x ≠ 58) ∧ (∀ x ∈ cur, x ≠ 58)
theorem sp_nil : SP [] [] [] := ⟨rfl, by simp, by simp⟩
theorem sp_char {l : List UInt8} {done : List (List UInt8)} {cur : List UInt8} {c : UInt8} (h : SP l done cur) (hc : c ≠ 58) : SP (l ++ [c]) done (cur ++ [c]) := by
  refine ⟨by rw [h.1, List.append_assoc], h.2.1, fun x hx => ?_⟩
  rcases List.mem_append.1 hx with h1 | h1
  · exact h.2.2 x h1
  · rw [List.mem_singleton.1 h1]; exact hc
theorem sp_colon {l : List UInt8} {done : List (List UInt8)} {cur : List UInt8} (h : SP l done cur) : SP (l ++ [58]) (done ++ [cur]) [] := by
  refine ⟨by rw [h.1]; simp, fun d hd => ?_, by simp⟩
  rcases List.mem_append.1 hd with h1 | h1
  · exact h.2.1 d h1
  · rw [List.mem_singleton.1 h1]; exact h.2.2
def okP (p : List UInt8) (a b : Nat) : Bool := decide (a ≤ p.length ∧ p.length ≤ b) && p.all isDig
def ok2 (p : List UInt8) : Bool := okP p 2 2 && decide (digVal p ≤ 59)
def refB : List (List UInt8) → Bool
  | [] => false
  | d :: rest => decide (rest.length ≤ 2) && okP d 1 3 && rest.all ok2
def refV : List (List UInt8) → Int
  | [] => 0
  | [d] => digVal d * 3600
  | [d, e] => digVal d * 3600 + digVal e * 60
  | d :: e :: g :: _ => digVal d * 3600 + digVal e * 60 + digVal g
theorem okP_iff {p : List UInt8} {a b : Nat} : okP p a b = true ↔ (a ≤ p.length ∧ p.length ≤ b) ∧ p.all isDig = true := by
  simp only [okP, Bool.and_eq_true, decide_eq_true_eq]
theorem p13 (a : List UInt8) : (parseB a && decide (a.length ≤ 3)) = okP a 1 3 := by
  rw [Bool.eq_iff_iff, okP_iff]
  simp only [parseB, Bool.and_eq_true, decide_eq_true_eq]
  constructor
  · rintro ⟨⟨⟨h1, h2⟩, h3⟩, h4⟩; exact ⟨⟨h1, h4⟩, h3⟩
  · rintro ⟨⟨h1, h4⟩, h3⟩; exact ⟨⟨⟨h1, by omega⟩, h3⟩, h4⟩
theorem ok2_iff {p : List UInt8} : ok2 p = true ↔ p.length = 2 ∧ p.all isDig = true ∧ digVal p < 60 := by
  simp only [ok2, Bool.and_eq_true, okP_iff, decide_eq_true_eq]
  constructor
  · rintro ⟨⟨⟨h1, h2⟩, h3⟩, h4⟩; exact ⟨by omega, h3, by omega⟩
  · rintro ⟨h1, h3, h4⟩; exact ⟨⟨⟨by omega, by omega⟩, h3⟩, by omega⟩
theorem six_good {p t : List UInt8} (h : ok2 p = true) : sixB (58 :: (p ++ t)) = true ∧ sixV (58 :: (p ++ t)) = digVal p ∧ sixR (58 :: (p ++ t)) = t := by
  obtain ⟨h1, h2, h3⟩ := ok2_iff.1 h
  exact six_ok h2 h1 h3
theorem sixB_p {l : List UInt8} (h0 : l.isEmpty = false) (h : parseB (sixS l) = false) : sixB l = false := by simp [sixB, h0, h]
theorem sixB_h {c : UInt8} {l : List UInt8} (h : c ≠ 58) : sixB (c :: l) = false := by simp [sixB, h]
theorem six_bad {p t : List UInt8} (hp : ∀ x ∈ p, x ≠ 58) (ht : t = [] ∨ ∃ u, t = 58 :: u) (hb : ok2 p = false) :
    sixB (58 :: (p ++ t)) = false ∨ (sixB (sixR (58 :: (p ++ t))) = false ∧ (sixR (58 :: (p ++ t))).isEmpty = false) := by
  match p, hp, hb with
  | [], _, _ =>
    left
    rcases ht with rfl | ⟨u, rfl⟩
    · decide
    · exact sixB_p rfl (parseB_at (k := 0) (by simp [sixS]) (by show isDig 58 = false; decide))
  | [a], _, _ =>
    left
    rcases ht with rfl | ⟨u, rfl⟩
    · simp [sixB]
    · exact sixB_p rfl (parseB_at (k := 1) (by simp [sixS]) (by show isDig 58 = false; decide))
  | [a, b], _, hb =>
    left
    have es : sixS (58 :: ([a, b] ++ t)) = [a, b] := rfl
    by_cases hd : [a, b].all isDig = true
    · have hp : parseB [a, b] = true := parseB_yes (by simp) (by simp) hd
      have hv : ¬ parseV [a, b] < 60 := fun h => by
        rw [parseV_yes hp] at h
        have := ok2_iff.2 ⟨rfl, hd, h⟩
        rw [hb] at this; cases this
      rw [sixB, es, decide_eq_false hv]; simp
    · exact sixB_p rfl (by rw [es, parseB]; simp only [Bool.not_eq_true] at hd; rw [hd]; simp)
  | a :: b :: c :: q, hp, _ =>
    right
    have er : sixR (58 :: ((a :: b :: c :: q) ++ t)) = c :: (q ++ t) := rfl
    rw [er]
    exact ⟨sixB_h (hp c (by simp)), rfl⟩
theorem flat_cons (d : List UInt8) (ds : List (List UInt8)) (cur : List UInt8) : ((d :: ds).map (fun d => d ++ [58])).flatten ++ cur = d ++ 58 :: ((ds.map (fun d => d ++ [58])).flatten ++ cur) := by simp
def tail3 (m : List UInt8) : Bool := sixB m && sixB (sixR m) && (sixR (sixR m)).isEmpty
theorem read_cut {d m : List UInt8} (h : ∀ x ∈ d, x ≠ 58) : readB (d ++ 58 :: m) = (okP d 1 3 && tail3 (58 :: m)) ∧ (readB (d ++ 58 :: m) = true → readV (d ++ 58 :: m) = digVal d * 3600 + sixV (58 :: m) * 60 + sixV (sixR (58 :: m))) := by
  obtain ⟨p1, p2⟩ := hd_of (b := m) h
  have e : readB (d ++ 58 :: m) = (okP d 1 3 && tail3 (58 :: m)) := by
    rw [readB, p1, p2, p13, tail3, Bool.and_assoc, Bool.and_assoc, Bool.and_assoc]
  refine ⟨e, fun hb => ?_⟩
  have hb2 := hb
  rw [e, Bool.and_eq_true] at hb2
  have h13 := hb2.1
  rw [← p13, Bool.and_eq_true] at h13
  rw [readV, if_pos hb, p1, p2, parseV_yes h13.1]
theorem tail_bad {p t : List UInt8} (hp : ∀ x ∈ p, x ≠ 58) (ht : t = [] ∨ ∃ u, t = 58 :: u) (hb : ok2 p = false) : tail3 (58 :: (p ++ t)) = false := by
  rcases six_bad hp ht hb with h | ⟨h, _⟩
  · rw [tail3, h]; rfl
  · rw [tail3, h]; simp
theorem tail_bad2 {p t q : List UInt8} (hp : ∀ x ∈ p, x ≠ 58) (ht : t = [] ∨ ∃ u, t = 58 :: u) (hb : ok2 p = false) (hq : ok2 q = true) : tail3 (58 :: (q ++ 58 :: (p ++ t))) = false := by
  obtain ⟨g1, g2, g3⟩ := six_good (t := 58 :: (p ++ t)) hq
  rw [tail3, g1, g3]
  rcases six_bad hp ht hb with h | ⟨_, h⟩
  · rw [h]; rfl
  · rw [h]; simp
theorem read_sp {l : List UInt8} {done : List (List UInt8)} {cur : List UInt8} (h : SP l done cur) : readB l = refB (done ++ [cur]) ∧ (readB l = true → readV l = refV (done ++ [cur])) := by
  obtain ⟨h1, h2, h3⟩ := h
  match done, h1, h2 with
  | [], h1, _ =>
    have e : l = cur := h1
    subst e
    obtain ⟨p1, p2⟩ := hd_all h3
    have eb : readB l = okP l 1 3 := by
      rw [readB, p1, p2, p13, six_nil.1, six_nil.2.2, six_nil.1, six_nil.2.2]; simp
    refine ⟨by rw [eb]; simp [refB], fun hb => ?_⟩
    have h13 := eb.symm.trans hb
    rw [← p13, Bool.and_eq_true] at h13
    rw [readV, if_pos hb, p1, p2, parseV_yes h13.1, six_nil.2.1, six_nil.2.2, six_nil.2.1]
    simp [refV]
  | [d], h1, h2 =>
    rw [flat_cons] at h1
    have e : l = d ++ 58 :: cur := h1
    subst e
    obtain ⟨c1, c2⟩ := read_cut (m := cur) (h2 d (by simp))
    cases hk : ok2 cur with
    | true =>
      obtain ⟨g1, g2, g3⟩ := six_good (t := []) hk
      rw [List.append_nil] at g1 g2 g3
      have et : tail3 (58 :: cur) = true := by rw [tail3, g1, g3]; rfl
      refine ⟨by rw [c1, et]; simp [refB, hk], fun hb => ?_⟩
      rw [c2 hb, g2, g3, six_nil.2.1]; simp [refV]
    | false =>
      have et := tail_bad (t := []) h3 (Or.inl rfl) hk
      rw [List.append_nil] at et
      refine ⟨by rw [c1, et]; simp [refB, hk], fun hb => ?_⟩
      rw [c1, et] at hb; simp at hb
  | [d, e], h1, h2 =>
    rw [flat_cons, flat_cons] at h1
    have e1 : l = d ++ 58 :: (e ++ 58 :: cur) := h1
    subst e1
    obtain ⟨c1, c2⟩ := read_cut (m := e ++ 58 :: cur) (h2 d (by simp))
    cases hk : ok2 e with
    | true =>
      obtain ⟨g1, g2, g3⟩ := six_good (t := 58 :: cur) hk
      cases hc : ok2 cur with
      | true =>
        obtain ⟨k1, k2, k3⟩ := six_good (t := []) hc
        rw [List.append_nil] at k1 k2 k3
        have et : tail3 (58 :: (e ++ 58 :: cur)) = true := by rw [tail3, g1, g3, k1, k3]; rfl
        refine ⟨by rw [c1, et]; simp [refB, hk, hc], fun hb => ?_⟩
        rw [c2 hb, g2, g3, k2]; simp [refV]
      | false =>
        have et := tail_bad2 (t := []) h3 (Or.inl rfl) hc hk
        rw [List.append_nil] at et
        refine ⟨by rw [c1, et]; simp [refB, hc], fun hb => ?_⟩
        rw [c1, et] at hb; simp at hb
    | false =>
      have et := tail_bad (t := 58 :: cur) (h2 e (by simp)) (Or.inr ⟨_, rfl⟩) hk
      refine ⟨by rw [c1, et]; simp [refB, hk], fun hb => ?_⟩
      rw [c1, et] at hb; simp at hb
  | d :: e :: g :: more, h1, h2 =>
    rw [flat_cons, flat_cons, flat_cons] at h1
    obtain ⟨k, hk⟩ : ∃ k, (more.map (fun d => d ++ [58])).flatten ++ cur = k := ⟨_, rfl⟩
    rw [hk] at h1
    subst h1
    obtain ⟨c1, _⟩ := read_cut (m := e ++ 58 :: (g ++ 58 :: k)) (h2 d (by simp))
    have et : tail3 (58 :: (e ++ 58 :: (g ++ 58 :: k))) = false := by
      cases he : ok2 e with
      | false => exact tail_bad (h2 e (by simp)) (Or.inr ⟨_, rfl⟩) he
      | true =>
        cases hg : ok2 g with
        | false => exact tail_bad2 (h2 g (by simp)) (Or.inr ⟨_, rfl⟩) hg he
        | true =>
          obtain ⟨g1, g2, g3⟩ := six_good (t := 58 :: (g ++ 58 :: k)) he
          obtain ⟨k1, k2, k3⟩ := six_good (t := 58 :: k) hg
          rw [tail3, g1, g3, k1, k3]; rfl
    refine ⟨by rw [c1, et]; simp [refB], fun hb => ?_⟩
    rw [c1, et] at hb; simp at hb

/-- At the head of the loop that parts a text: which pieces are there, where the one that goes on begins. -/
def LP (l : List UInt8) (i : Nat) (ps : List (List UInt8)) (fr : Nat) : Prop :=
  (i ≤ l.length ∧ ∃ cur, SP (l.take i) ps cur ∧ fr + cur.length = i) ∨ (i = l.length + 1 ∧ ∃ done cur, SP l done cur ∧ ps = done ++ [cur])
theorem lp_start (l : List UInt8) : LP l 0 [] 0 := Or.inl ⟨Nat.zero_le _, [], by rw [List.take_zero]; exact sp_nil, rfl⟩
theorem lp_len {l : List UInt8} {i fr : Nat} {ps : List (List UInt8)} (h : LP l i ps fr) : ps.length ≤ i ∧ i ≤ l.length + 1 := by
  have key : ∀ (m : List UInt8) (done : List (List UInt8)) (cur : List UInt8), SP m done cur → done.length + cur.length ≤ m.length := by
    intro m done cur hs
    rw [hs.1, List.length_append]
    have : ∀ ds : List (List UInt8), ds.length ≤ ((ds.map (fun d => d ++ [58])).flatten).length := by
      intro ds
      induction ds with
      | nil => simp
      | cons d ds ih => simp at ih ⊢; omega
    have := this done; omega
  rcases h with ⟨h1, cur, hs, hf⟩ | ⟨h1, done, cur, hs, rfl⟩
  · have := key _ _ _ hs; rw [List.length_take] at this; omega
  · have := key _ _ _ hs; rw [List.length_append]; simp; omega
theorem lp_char {l : List UInt8} {i fr : Nat} {ps : List (List UInt8)} (hi : i < l.length) (h : LP l i ps fr) (hc : l[i] ≠ 58) : LP l (i + 1) ps fr := by
  rcases h with ⟨h1, cur, hs, hf⟩ | ⟨h1, _⟩
  · refine Or.inl ⟨by omega, cur ++ [l[i]], ?_, by rw [List.length_append]; simp; omega⟩
    rw [List.take_succ_eq_append_getElem hi]
    exact sp_char hs hc
  · omega
theorem lp_cur {l : List UInt8} {i fr : Nat} {ps : List (List UInt8)} (hi : i ≤ l.length) (h : LP l i ps fr) : ∃ cur, (l.drop fr).take (i - fr) = cur ∧ fr ≤ i ∧ SP (l.take i) ps cur := by
  rcases h with ⟨h1, cur, hs, hf⟩ | ⟨h1, _⟩
  · refine ⟨cur, ?_, by omega, hs⟩
    have e : (l.take i).drop fr = cur := by
      have hl : (l.take i).length = i := by rw [List.length_take]; omega
      have hx := hs.1
      have hxl : ((ps.map (fun d => d ++ [58])).flatten).length = fr := by
        have := congrArg List.length hx
        rw [List.length_append, hl] at this; omega
      rw [hx, List.drop_left' hxl]
    rw [← e, List.drop_take]
  · omega
theorem lp_colon {l cur : List UInt8} {i : Nat} {ps : List (List UInt8)} (hi : i < l.length) (hs : SP (l.take i) ps cur) (hc : l[i] = 58) : LP l (i + 1) (ps ++ [cur]) (i + 1) := by
  refine Or.inl ⟨by omega, [], ?_, rfl⟩
  rw [List.take_succ_eq_append_getElem hi, hc]
  exact sp_colon hs
theorem lp_last {l cur : List UInt8} {ps : List (List UInt8)} (hs : SP (l.take l.length) ps cur) (fr : Nat) : LP l (l.length + 1) (ps ++ [cur]) fr := by
  rw [List.take_length] at hs
  exact Or.inr ⟨rfl, ps, cur, hs, rfl⟩
theorem flat_len : ∀ (ds : List (List UInt8)) (d : List UInt8), d ∈ ds → d.length ≤ ((ds.map (fun d => d ++ [58])).flatten).length
  | [], _, h => by cases h
  | e :: ds, d, h => by
    rcases List.mem_cons.1 h with rfl | h
    · simp
    · have := flat_len ds d h
      simp at this ⊢; omega
theorem lp_end {l : List UInt8} {fr : Nat} {ps : List (List UInt8)} (h : LP l (l.length + 1) ps fr) : readB l = refB ps ∧ (readB l = true → readV l = refV ps) ∧ 1 ≤ ps.length ∧ ∀ p ∈ ps, p.length ≤ l.length := by
  rcases h with ⟨h1, _⟩ | ⟨_, done, cur, hs, rfl⟩
  · omega
  · obtain ⟨a, b⟩ := read_sp hs
    refine ⟨a, b, by simp, fun p hp => ?_⟩
    rw [hs.1, List.length_append]
    rcases List.mem_append.1 hp with h | h
    · have := flat_len done p h; omega
    · rw [List.mem_singleton.1 h]; omega
end Clk
end Go.Proofs.YthefgagmjamdkaaDoor
/-
  Contracts of the reference's calls on times of a day: Digits, Value of a piece, and the head of Clock.
-/
namespace Go.Proofs.YthefgagmjamdkaaDoor
open Go.RowKit
namespace Clk
open Sol
theorem okP_at {l : List UInt8} {k a b : Nat} (hk : k < l.length) (h : isDig l[k] = false) : okP l a b = false := by
  have : l.all isDig = false := by
    rw [List.all_eq_false]
    exact ⟨l[k], List.getElem_mem hk, by simp [h]⟩
  simp [okP, this]
theorem okP_no {l : List UInt8} {a b : Nat} (h : ¬ (a ≤ l.length ∧ l.length ≤ b)) : okP l a b = false := by rw [okP, decide_eq_false h]; rfl
theorem okP_parse {p : List UInt8} {a b : Nat} (ha : 1 ≤ a) (hb : b ≤ 18) (h : okP p a b = true) : parseB p = true := by
  obtain ⟨⟨h1, h2⟩, h3⟩ := okP_iff.1 h
  exact parseB_yes (by omega) (by omega) h3
end Clk
end Go.Proofs.YthefgagmjamdkaaDoor
/-
  Contract of the reference's Clock.
-/
namespace Go.Proofs.YthefgagmjamdkaaDoor
open Go.RowKit
namespace Clk
open Sol
theorem infoStr : (Tryd.prog.info? 9).map (fun i => (i.zero, i.size, i.bytes)) = some (some (.string ByteArray.empty), 1, 16) := by kernel_rfl
def strs (ps : List (List UInt8)) : List Value := ps.map fun p => Value.string ⟨p.toArray⟩
theorem strs_snoc (ps : List (List UInt8)) (p : List UInt8) : strs (ps ++ [p]) = strs ps ++ [.string ⟨p.toArray⟩] := by simp [strs]
/-- The value of the first k + 1 pieces. -/
def pv (d : List UInt8) (rest : List (List UInt8)) (k : Nat) : Int := 3600 * digVal d + (if 2 ≤ k then 60 * digVal (rest.getD 0 []) else 0) + (if 3 ≤ k then digVal (rest.getD 1 []) else 0)
theorem pv_1 (d : List UInt8) (rest : List (List UInt8)) : pv d rest 1 = 3600 * digVal d := by simp [pv]
theorem pv_2 (d : List UInt8) (rest : List (List UInt8)) : pv d rest 2 = pv d rest 1 + 60 * digVal (rest.getD 0 []) := by simp [pv]
theorem pv_3 (d : List UInt8) (rest : List (List UInt8)) : pv d rest 3 = pv d rest 2 + digVal (rest.getD 1 []) := by simp [pv]
theorem pv_ref {d : List UInt8} {rest : List (List UInt8)} (h : rest.length ≤ 2) : refV (d :: rest) = pv d rest (rest.length + 1) := by
  match rest, h with
  | [], _ => simp [refV, pv]; omega
  | [e], _ => simp [refV, pv]; omega
  | [e, g], _ => simp [refV, pv]; omega
theorem ok2_bd {p : List UInt8} (h : okP p 2 2 = true) : parseB p = true ∧ 0 ≤ digVal p ∧ digVal p < 100 := by
  obtain ⟨⟨h1, h2⟩, h3⟩ := okP_iff.1 h
  have := digVal_bd p h3
  have e : p.length = 2 := by omega
  rw [e] at this
  exact ⟨okP_parse (by omega) (by omega) h, this.1, by have := this.2; omega⟩
theorem ok13_bd {p : List UInt8} (h : okP p 1 3 = true) : parseB p = true ∧ 0 ≤ digVal p ∧ digVal p < 1000 := by
  have h2 := p13 p
  rw [h] at h2
  simp only [Bool.and_eq_true, decide_eq_true_eq] at h2
  have := digs3 h2.1 h2.2
  rw [parseV_yes h2.1] at this
  exact ⟨h2.1, this⟩
theorem add0 (g j : Nat) : (⟨g, 0, none⟩ : Addr).add j = ⟨g, j, none⟩ := by unfold Addr.add; split <;> simp_all
theorem pv_bd {d : List UInt8} {rest : List (List UInt8)} {k : Nat} (hd : 0 ≤ digVal d ∧ digVal d < 1000) (hk : k ≤ 3) (h : (rest.take (k - 1)).all ok2 = true) : 0 ≤ pv d rest k ∧ pv d rest k ≤ 3700000 := by
  have key : ∀ j, j < k - 1 → 0 ≤ digVal (rest.getD j []) ∧ digVal (rest.getD j []) < 100 := by
    intro j hj
    by_cases hl : j < rest.length
    · have hm : rest[j] ∈ rest.take (k - 1) := by
        rw [List.mem_take_iff_getElem]
        exact ⟨j, by omega, rfl⟩
      have ho := List.all_eq_true.1 h _ hm
      obtain ⟨o1, o2, o3⟩ := ok2_iff.1 ho
      have := digVal_bd rest[j] o2
      rw [List.getD_eq_getElem?_getD, List.getElem?_eq_getElem hl]
      exact ⟨this.1, by show digVal rest[j] < 100; omega⟩
    · rw [List.getD_eq_getElem?_getD, List.getElem?_eq_none (by omega)]; decide
  unfold pv
  by_cases h2 : 2 ≤ k
  · have k0 := key 0 (by omega)
    rw [if_pos h2]
    by_cases h3 : 3 ≤ k
    · have k1 := key 1 (by omega)
      rw [if_pos h3]; omega
    · rw [if_neg h3]; omega
  · rw [if_neg h2, if_neg (by omega)]; omega
theorem sg_cases (L : List UInt8) : (neg L = true ∧ ∃ r, L = 45 :: r ∧ dg L = r) ∨ (neg L = false ∧ dg L = L ∧ (∀ c r, L = c :: r → c ≠ 45)) := by
  cases L with
  | nil => exact Or.inr ⟨rfl, rfl, fun c r h => by cases h⟩
  | cons c r =>
    by_cases h : c = 45
    · subst h
      exact Or.inl ⟨by simp [neg, Lib.hasPrefix], r, rfl, by simp [dg, Lib.trimPrefix, Lib.hasPrefix]⟩
    · obtain ⟨_, h2⟩ := pre_no' h (r := r)
      exact Or.inr ⟨h2, by rw [dg, Lib.trimPrefix, h2]; rfl, fun c' r' e => by cases e; exact h⟩

end Clk
end Go.Proofs.YthefgagmjamdkaaDoor
/-
  Contracts of the reference's JoinDay and ClockText.
-/
namespace Go.Proofs.YthefgagmjamdkaaDoor
open Go.RowKit
namespace Clk
open Sol
theorem in_to (n lo hi : Int) (b : Bool) (w : World) (h : Hid (decide (lo ≤ n ∧ n ≤ hi) = b)) :
    Calls Tryd.prog 49 #[.int .i64 n, .int .i64 lo, .int .i64 hi] w fun e w' => e = .returned (.bool b) ∧ w = w' :=
  (Civ.rin_any n lo hi w).mono fun _ _ ⟨he, hw⟩ => ⟨by rw [he, h.out], hw⟩
theorem text_01 {h : Int} (h0 : 0 ≤ h) : textL h 0 = textL h 1 := by
  rw [textL_in h0 (by decide) (by decide), textL_in h0 (by decide) (by decide)]
  have := decDigits_pos h.toNat
  rw [padL_short (by simp), padL_short (by show 1 ≤ _; omega)]
theorem ct_body {m : Int} (h0 : 0 ≤ m) : ctL m = body m := by rw [ctL, if_neg (by omega)]
theorem ct_nbody {m : Int} (h0 : 0 < m) : ctL (-m) = 45 :: body m := by rw [ctL, if_pos (by omega), Int.neg_neg]
end Clk
end Go.Proofs.YthefgagmjamdkaaDoor
/-
  Contracts of the reference's calls on forms of a time: small, AtForm, Utc, At.
-/
namespace Go.Proofs.YthefgagmjamdkaaDoor
open Go.RowKit
namespace Atf
open Sol Clk
def smI (c : UInt8) : Int := if 65 ≤ (c.toNat : Int) ∧ (c.toNat : Int) ≤ 90 then (c.toNat : Int) + 32 else (c.toNat : Int)
theorem ret_u8 {a a' : Int} (h : a = a') : Ending.returned (.int .u8 a) = .returned (.int .u8 a') := by rw [h]
theorem sm_yes {c : UInt8} (h : ltB c = true) : (smI c = 119 ∧ ltV c = 1) ∨ (smI c = 115 ∧ ltV c = 2) ∨ (smI c = 117 ∧ ltV c = 3) ∨ (smI c = 103 ∧ ltV c = 3) ∨ (smI c = 122 ∧ ltV c = 3) := by
  have hc : c = 119 ∨ c = 87 ∨ c = 115 ∨ c = 83 ∨ c = 117 ∨ c = 85 ∨ c = 103 ∨ c = 71 ∨ c = 122 ∨ c = 90 := of_decide_eq_true h
  rcases hc with rfl | rfl | rfl | rfl | rfl | rfl | rfl | rfl | rfl | rfl <;> decide
theorem sm_no {c : UInt8} (h : ltB c = false) : (smI c ≠ 119 ∧ smI c ≠ 115 ∧ smI c ≠ 117 ∧ smI c ≠ 103 ∧ smI c ≠ 122) ∧ ltV c = 1 := by
  have hn : ¬ (c = 119 ∨ c = 87 ∨ c = 115 ∨ c = 83 ∨ c = 117 ∨ c = 85 ∨ c = 103 ∨ c = 71 ∨ c = 122 ∨ c = 90) := of_decide_eq_false h
  have key : ∀ k : UInt8, c ≠ k → (c.toNat : Int) ≠ (k.toNat : Int) := fun k hk e => hk (UInt8.toNat_inj.1 (by omega))
  have a1 : (c.toNat : Int) ≠ 119 := key 119 (fun e => hn (by simp [e]))
  have a2 : (c.toNat : Int) ≠ 87 := key 87 (fun e => hn (by simp [e]))
  have a3 : (c.toNat : Int) ≠ 115 := key 115 (fun e => hn (by simp [e]))
  have a4 : (c.toNat : Int) ≠ 83 := key 83 (fun e => hn (by simp [e]))
  have a5 : (c.toNat : Int) ≠ 117 := key 117 (fun e => hn (by simp [e]))
  have a6 : (c.toNat : Int) ≠ 85 := key 85 (fun e => hn (by simp [e]))
  have a7 : (c.toNat : Int) ≠ 103 := key 103 (fun e => hn (by simp [e]))
  have a8 : (c.toNat : Int) ≠ 71 := key 71 (fun e => hn (by simp [e]))
  have a9 : (c.toNat : Int) ≠ 122 := key 122 (fun e => hn (by simp [e]))
  have a10 : (c.toNat : Int) ≠ 90 := key 90 (fun e => hn (by simp [e]))
  refine ⟨?_, ?_⟩
  · unfold smI
    split <;> omega
  · rw [ltV, if_neg (fun e => hn (by rcases e with e | e <;> simp [e])), if_neg (fun e => hn (by rcases e with e | e <;> simp [e])), if_neg (fun e => hn (by rcases e with e | e | e | e | e | e <;> simp [e]))]
theorem ret_ab {a a' b b' : Int} {c c' : Bool} (h : a = a') (h2 : b = b') (h3 : c = c') : Ending.returned (.tuple #[.agg #[.int .i64 a, .int .i64 b], .bool c]) = .returned (.tuple #[.agg #[.int .i64 a', .int .i64 b'], .bool c']) := by rw [h, h2, h3]
set_option maxHeartbeats 800000 in
theorem rAt_to (n k : Int) (b : Bool) (w : World) (h : Hid (atOk n k = b)) :
    Calls Tryd.prog 41 #[.agg #[.int .i64 n, .int .i64 k]] w fun e w' => e = .returned (.bool b) ∧ w.alloc (Obj.cells #[.int .i64 n, .int .i64 k] 41) = w' := by
  have HO : Hid (b = (inS n && isK k)) := Lib.hid h.out.symm
  have D1 : Hid (decide (-345600 ≤ n ∧ n ≤ 345600) = inS n) := Lib.hid rfl
  have D2 : Hid (decide (1 ≤ k ∧ k ≤ 3) = isK k) := Lib.hid rfl
  cases h1 : inS n with
  | false =>
    rw [h1] at D1
    have H : Hid (b = false) := Lib.hid (by rw [HO.out, h1]; rfl)
    clear h1
    go_enter Tryd.func41, Tryd.ntmps41
    go_wp2_with fail
    refine (in_to _ _ _ _ _ D1).mono ?_
    rintro e w1 ⟨rfl, rfl⟩
    go_wp2
    go_ret
    exact ⟨ret_b H.out.symm, rfl⟩
  | true =>
    rw [h1] at D1
    have H : Hid (b = isK k) := Lib.hid (by rw [HO.out, h1]; rfl)
    clear h1
    go_enter Tryd.func41, Tryd.ntmps41
    go_wp2_with fail
    refine (in_to _ _ _ _ _ D1).mono ?_
    rintro e w1 ⟨rfl, rfl⟩
    go_wp2_with fail
    refine (in_to _ _ _ _ _ D2).mono ?_
    rintro e w1 ⟨rfl, rfl⟩
    go_wp2
    go_ret
    exact ⟨ret_b H.out.symm, rfl⟩
end Atf
end Go.Proofs.YthefgagmjamdkaaDoor
