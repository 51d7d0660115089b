/-
  Plain facts on times of a day: the page's way, by the pieces between colons, says the same.
-/
import Derived.Test.YtikjlnkpcjjigaaDoorClkMath
namespace Go.Proofs.YtikjlnkpcjjigaaDoor
namespace Clk
open Sol
/-- A text parted at its colons: the pieces that have ended, and the one that goes on. -/
def SP (l : List UInt8) (done : List (List UInt8)) (cur : List UInt8) : Prop :=
  l = (done.map (fun d => d ++ [58])).flatten ++ cur ∧ (∀ d ∈ done, ∀ x ∈ d, x ≠ 58) ∧ (∀ x ∈ cur, x ≠ 58)
theorem sp_nil : SP [] [] [] := ⟨rfl, by simp, by simp⟩
theorem sp_char {l : List UInt8} {done : List (List UInt8)} {cur : List UInt8} {c : UInt8} (h : SP l done cur) (hc : c ≠ 58) : SP (l ++ [c]) done (cur ++ [c]) := by
  refine ⟨by rw [h.1, List.append_assoc], h.2.1, fun x hx => ?_⟩
  rcases List.mem_append.1 hx with h1 | h1
  · exact h.2.2 x h1
  · rw [List.mem_singleton.1 h1]; exact hc
theorem sp_colon {l : List UInt8} {done : List (List UInt8)} {cur : List UInt8} (h : SP l done cur) : SP (l ++ [58]) (done ++ [cur]) [] := by
  refine ⟨by rw [h.1]; simp, fun d hd => ?_, by simp⟩
  rcases List.mem_append.1 hd with h1 | h1
  · exact h.2.1 d h1
  · rw [List.mem_singleton.1 h1]; exact h.2.2
def okP (p : List UInt8) (a b : Nat) : Bool := decide (a ≤ p.length ∧ p.length ≤ b) && p.all isDig
def ok2 (p : List UInt8) : Bool := okP p 2 2 && decide (digVal p ≤ 59)
def refB : List (List UInt8) → Bool
  | [] => false
  | d :: rest => decide (rest.length ≤ 2) && okP d 1 3 && rest.all ok2
def refV : List (List UInt8) → Int
  | [] => 0
  | [d] => digVal d * 3600
  | [d, e] => digVal d * 3600 + digVal e * 60
  | d :: e :: g :: _ => digVal d * 3600 + digVal e * 60 + digVal g
theorem okP_iff {p : List UInt8} {a b : Nat} : okP p a b = true ↔ (a ≤ p.length ∧ p.length ≤ b) ∧ p.all isDig = true := by
  simp only [okP, Bool.and_eq_true, decide_eq_true_eq]
theorem p13 (a : List UInt8) : (parseB a && decide (a.length ≤ 3)) = okP a 1 3 := by
  rw [Bool.eq_iff_iff, okP_iff]
  simp only [parseB, Bool.and_eq_true, decide_eq_true_eq]
  constructor
  · rintro ⟨⟨⟨h1, h2⟩, h3⟩, h4⟩; exact ⟨⟨h1, h4⟩, h3⟩
  · rintro ⟨⟨h1, h4⟩, h3⟩; exact ⟨⟨⟨h1, by omega⟩, h3⟩, h4⟩
theorem ok2_iff {p : List UInt8} : ok2 p = true ↔ p.length = 2 ∧ p.all isDig = true ∧ digVal p < 60 := by
  simp only [ok2, Bool.and_eq_true, okP_iff, decide_eq_true_eq]
  constructor
  · rintro ⟨⟨⟨h1, h2⟩, h3⟩, h4⟩; exact ⟨by omega, h3, by omega⟩
  · rintro ⟨h1, h3, h4⟩; exact ⟨⟨⟨by omega, by omega⟩, h3⟩, by omega⟩
theorem six_good {p t : List UInt8} (h : ok2 p = true) : sixB (58 :: (p ++ t)) = true ∧ sixV (58 :: (p ++ t)) = digVal p ∧ sixR (58 :: (p ++ t)) = t := by
  obtain ⟨h1, h2, h3⟩ := ok2_iff.1 h
  exact six_ok h2 h1 h3
theorem sixB_p {l : List UInt8} (h0 : l.isEmpty = false) (h : parseB (sixS l) = false) : sixB l = false := by simp [sixB, h0, h]
theorem sixB_h {c : UInt8} {l : List UInt8} (h : c ≠ 58) : sixB (c :: l) = false := by simp [sixB, h]
theorem six_bad {p t : List UInt8} (hp : ∀ x ∈ p, x ≠ 58) (ht : t = [] ∨ ∃ u, t = 58 :: u) (hb : ok2 p = false) :
    sixB (58 :: (p ++ t)) = false ∨ (sixB (sixR (58 :: (p ++ t))) = false ∧ (sixR (58 :: (p ++ t))).isEmpty = false) := by
  match p, hp, hb with
  | [], _, _ =>
    left
    rcases ht with rfl | ⟨u, rfl⟩
    · decide
    · exact sixB_p rfl (parseB_at (k := 0) (by simp [sixS]) (by show isDig 58 = false; decide))
  | [a], _, _ =>
    left
    rcases ht with rfl | ⟨u, rfl⟩
    · simp [sixB]
    · exact sixB_p rfl (parseB_at (k := 1) (by simp [sixS]) (by show isDig 58 = false; decide))
  | [a, b], _, hb =>
    left
    have es : sixS (58 :: ([a, b] ++ t)) = [a, b] := rfl
    by_cases hd : [a, b].all isDig = true
    · have hp : parseB [a, b] = true := parseB_yes (by simp) (by simp) hd
      have hv : ¬ parseV [a, b] < 60 := fun h => by
        rw [parseV_yes hp] at h
        have := ok2_iff.2 ⟨rfl, hd, h⟩
        rw [hb] at this; cases this
      rw [sixB, es, decide_eq_false hv]; simp
    · exact sixB_p rfl (by rw [es, parseB]; simp only [Bool.not_eq_true] at hd; rw [hd]; simp)
  | a :: b :: c :: q, hp, _ =>
    right
    have er : sixR (58 :: ((a :: b :: c :: q) ++ t)) = c :: (q ++ t) := rfl
    rw [er]
    exact ⟨sixB_h (hp c (by simp)), rfl⟩
theorem flat_cons (d : List UInt8) (ds : List (List UInt8)) (cur : List UInt8) : ((d :: ds).map (fun d => d ++ [58])).flatten ++ cur = d ++ 58 :: ((ds.map (fun d => d ++ [58])).flatten ++ cur) := by simp
def tail3 (m : List UInt8) : Bool := sixB m && sixB (sixR m) && (sixR (sixR m)).isEmpty
theorem read_cut {d m : List UInt8} (h : ∀ x ∈ d, x ≠ 58) : readB (d ++ 58 :: m) = (okP d 1 3 && tail3 (58 :: m)) ∧ (readB (d ++ 58 :: m) = true → readV (d ++ 58 :: m) = digVal d * 3600 + sixV (58 :: m) * 60 + sixV (sixR (58 :: m))) := by
  obtain ⟨p1, p2⟩ := hd_of (b := m) h
  have e : readB (d ++ 58 :: m) = (okP d 1 3 && tail3 (58 :: m)) := by
    rw [readB, p1, p2, p13, tail3, Bool.and_assoc, Bool.and_assoc, Bool.and_assoc]
  refine ⟨e, fun hb => ?_⟩
  have hb2 := hb
  rw [e, Bool.and_eq_true] at hb2
  have h13 := hb2.1
  rw [← p13, Bool.and_eq_true] at h13
  rw [readV, if_pos hb, p1, p2, parseV_yes h13.1]
theorem tail_bad {p t : List UInt8} (hp : ∀ x ∈ p, x ≠ 58) (ht : t = [] ∨ ∃ u, t = 58 :: u) (hb : ok2 p = false) : tail3 (58 :: (p ++ t)) = false := by
  rcases six_bad hp ht hb with h | ⟨h, _⟩
  · rw [tail3, h]; rfl
  · rw [tail3, h]; simp
theorem tail_bad2 {p t q : List UInt8} (hp : ∀ x ∈ p, x ≠ 58) (ht : t = [] ∨ ∃ u, t = 58 :: u) (hb : ok2 p = false) (hq : ok2 q = true) : tail3 (58 :: (q ++ 58 :: (p ++ t))) = false := by
  obtain ⟨g1, g2, g3⟩ := six_good (t := 58 :: (p ++ t)) hq
  rw [tail3, g1, g3]
  rcases six_bad hp ht hb with h | ⟨_, h⟩
  · rw [h]; rfl
  · rw [h]; simp
theorem read_sp {l : List UInt8} {done : List (List UInt8)} {cur : List UInt8} (h : SP l done cur) : readB l = refB (done ++ [cur]) ∧ (readB l = true → readV l = refV (done ++ [cur])) := by
  obtain ⟨h1, h2, h3⟩ := h
  match done, h1, h2 with
  | [], h1, _ =>
    have e : l = cur := h1
    subst e
    obtain ⟨p1, p2⟩ := hd_all h3
    have eb : readB l = okP l 1 3 := by
      rw [readB, p1, p2, p13, six_nil.1, six_nil.2.2, six_nil.1, six_nil.2.2]; simp
    refine ⟨by rw [eb]; simp [refB], fun hb => ?_⟩
    have h13 := eb.symm.trans hb
    rw [← p13, Bool.and_eq_true] at h13
    rw [readV, if_pos hb, p1, p2, parseV_yes h13.1, six_nil.2.1, six_nil.2.2, six_nil.2.1]
    simp [refV]
  | [d], h1, h2 =>
    rw [flat_cons] at h1
    have e : l = d ++ 58 :: cur := h1
    subst e
    obtain ⟨c1, c2⟩ := read_cut (m := cur) (h2 d (by simp))
    cases hk : ok2 cur with
    | true =>
      obtain ⟨g1, g2, g3⟩ := six_good (t := []) hk
      rw [List.append_nil] at g1 g2 g3
      have et : tail3 (58 :: cur) = true := by rw [tail3, g1, g3]; rfl
      refine ⟨by rw [c1, et]; simp [refB, hk], fun hb => ?_⟩
      rw [c2 hb, g2, g3, six_nil.2.1]; simp [refV]
    | false =>
      have et := tail_bad (t := []) h3 (Or.inl rfl) hk
      rw [List.append_nil] at et
      refine ⟨by rw [c1, et]; simp [refB, hk], fun hb => ?_⟩
      rw [c1, et] at hb; simp at hb
  | [d, e], h1, h2 =>
    rw [flat_cons, flat_cons] at h1
    have e1 : l = d ++ 58 :: (e ++ 58 :: cur) := h1
    subst e1
    obtain ⟨c1, c2⟩ := read_cut (m := e ++ 58 :: cur) (h2 d (by simp))
    cases hk : ok2 e with
    | true =>
      obtain ⟨g1, g2, g3⟩ := six_good (t := 58 :: cur) hk
      cases hc : ok2 cur with
      | true =>
        obtain ⟨k1, k2, k3⟩ := six_good (t := []) hc
        rw [List.append_nil] at k1 k2 k3
        have et : tail3 (58 :: (e ++ 58 :: cur)) = true := by rw [tail3, g1, g3, k1, k3]; rfl
        refine ⟨by rw [c1, et]; simp [refB, hk, hc], fun hb => ?_⟩
        rw [c2 hb, g2, g3, k2]; simp [refV]
      | false =>
        have et := tail_bad2 (t := []) h3 (Or.inl rfl) hc hk
        rw [List.append_nil] at et
        refine ⟨by rw [c1, et]; simp [refB, hc], fun hb => ?_⟩
        rw [c1, et] at hb; simp at hb
    | false =>
      have et := tail_bad (t := 58 :: cur) (h2 e (by simp)) (Or.inr ⟨_, rfl⟩) hk
      refine ⟨by rw [c1, et]; simp [refB, hk], fun hb => ?_⟩
      rw [c1, et] at hb; simp at hb
  | d :: e :: g :: more, h1, h2 =>
    rw [flat_cons, flat_cons, flat_cons] at h1
    obtain ⟨k, hk⟩ : ∃ k, (more.map (fun d => d ++ [58])).flatten ++ cur = k := ⟨_, rfl⟩
    rw [hk] at h1
    subst h1
    obtain ⟨c1, _⟩ := read_cut (m := e ++ 58 :: (g ++ 58 :: k)) (h2 d (by simp))
    have et : tail3 (58 :: (e ++ 58 :: (g ++ 58 :: k))) = false := by
      cases he : ok2 e with
      | false => exact tail_bad (h2 e (by simp)) (Or.inr ⟨_, rfl⟩) he
      | true =>
        cases hg : ok2 g with
        | false => exact tail_bad2 (h2 g (by simp)) (Or.inr ⟨_, rfl⟩) hg he
        | true =>
          obtain ⟨g1, g2, g3⟩ := six_good (t := 58 :: (g ++ 58 :: k)) he
          obtain ⟨k1, k2, k3⟩ := six_good (t := 58 :: k) hg
          rw [tail3, g1, g3, k1, k3]; rfl
    refine ⟨by rw [c1, et]; simp [refB], fun hb => ?_⟩
    rw [c1, et] at hb; simp at hb

/-- At the head of the loop that parts a text: which pieces are there, where the one that goes on begins. -/
def LP (l : List UInt8) (i : Nat) (ps : List (List UInt8)) (fr : Nat) : Prop :=
  (i ≤ l.length ∧ ∃ cur, SP (l.take i) ps cur ∧ fr + cur.length = i) ∨ (i = l.length + 1 ∧ ∃ done cur, SP l done cur ∧ ps = done ++ [cur])
theorem lp_start (l : List UInt8) : LP l 0 [] 0 := Or.inl ⟨Nat.zero_le _, [], by rw [List.take_zero]; exact sp_nil, rfl⟩
theorem lp_len {l : List UInt8} {i fr : Nat} {ps : List (List UInt8)} (h : LP l i ps fr) : ps.length ≤ i ∧ i ≤ l.length + 1 := by
  have key : ∀ (m : List UInt8) (done : List (List UInt8)) (cur : List UInt8), SP m done cur → done.length + cur.length ≤ m.length := by
    intro m done cur hs
    rw [hs.1, List.length_append]
    have : ∀ ds : List (List UInt8), ds.length ≤ ((ds.map (fun d => d ++ [58])).flatten).length := by
      intro ds
      induction ds with
      | nil => simp
      | cons d ds ih => simp at ih ⊢; omega
    have := this done; omega
  rcases h with ⟨h1, cur, hs, hf⟩ | ⟨h1, done, cur, hs, rfl⟩
  · have := key _ _ _ hs; rw [List.length_take] at this; omega
  · have := key _ _ _ hs; rw [List.length_append]; simp; omega
theorem lp_char {l : List UInt8} {i fr : Nat} {ps : List (List UInt8)} (hi : i < l.length) (h : LP l i ps fr) (hc : l[i] ≠ 58) : LP l (i + 1) ps fr := by
  rcases h with ⟨h1, cur, hs, hf⟩ | ⟨h1, _⟩
  · refine Or.inl ⟨by omega, cur ++ [l[i]], ?_, by rw [List.length_append]; simp; omega⟩
    rw [List.take_succ_eq_append_getElem hi]
    exact sp_char hs hc
  · omega
theorem lp_cur {l : List UInt8} {i fr : Nat} {ps : List (List UInt8)} (hi : i ≤ l.length) (h : LP l i ps fr) : ∃ cur, (l.drop fr).take (i - fr) = cur ∧ fr ≤ i ∧ SP (l.take i) ps cur := by
  rcases h with ⟨h1, cur, hs, hf⟩ | ⟨h1, _⟩
  · refine ⟨cur, ?_, by omega, hs⟩
    have e : (l.take i).drop fr = cur := by
      have hl : (l.take i).length = i := by rw [List.length_take]; omega
      have hx := hs.1
      have hxl : ((ps.map (fun d => d ++ [58])).flatten).length = fr := by
        have := congrArg List.length hx
        rw [List.length_append, hl] at this; omega
      rw [hx, List.drop_left' hxl]
    rw [← e, List.drop_take]
  · omega
theorem lp_colon {l cur : List UInt8} {i : Nat} {ps : List (List UInt8)} (hi : i < l.length) (hs : SP (l.take i) ps cur) (hc : l[i] = 58) : LP l (i + 1) (ps ++ [cur]) (i + 1) := by
  refine Or.inl ⟨by omega, [], ?_, rfl⟩
  rw [List.take_succ_eq_append_getElem hi, hc]
  exact sp_colon hs
theorem lp_last {l cur : List UInt8} {ps : List (List UInt8)} (hs : SP (l.take l.length) ps cur) (fr : Nat) : LP l (l.length + 1) (ps ++ [cur]) fr := by
  rw [List.take_length] at hs
  exact Or.inr ⟨rfl, ps, cur, hs, rfl⟩
theorem flat_len : ∀ (ds : List (List UInt8)) (d : List UInt8), d ∈ ds → d.length ≤ ((ds.map (fun d => d ++ [58])).flatten).length
  | [], _, h => by cases h
  | e :: ds, d, h => by
    rcases List.mem_cons.1 h with rfl | h
    · simp
    · have := flat_len ds d h
      simp at this ⊢; omega
theorem lp_end {l : List UInt8} {fr : Nat} {ps : List (List UInt8)} (h : LP l (l.length + 1) ps fr) : readB l = refB ps ∧ (readB l = true → readV l = refV ps) ∧ 1 ≤ ps.length ∧ ∀ p ∈ ps, p.length ≤ l.length := by
  rcases h with ⟨h1, _⟩ | ⟨_, done, cur, hs, rfl⟩
  · omega
  · obtain ⟨a, b⟩ := read_sp hs
    refine ⟨a, b, by simp, fun p hp => ?_⟩
    rw [hs.1, List.length_append]
    rcases List.mem_append.1 hp with h | h
    · have := flat_len done p h; omega
    · rw [List.mem_singleton.1 h]; omega
end Clk
end Go.Proofs.YtikjlnkpcjjigaaDoor
