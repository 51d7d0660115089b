/-
  Several texts in one (ClkSplit, RefClk, RefClk2, RefClk3, RefAt).
-/
import Derived.Test.YthefgagmjamdkaaGreatDoorBdA
import Derived.Test.YthefgagmjamdkaaGreatDoorBdF
import Derived.Test.YthefgagmjamdkaaGreatDoorBdR
import Derived.Laws.AppendOwn
import Derived.Maps.AppendAt
import Derived.OwnWalk
import Derived.Deep.DeepCutAuto
import Derived.Test.YthefgagmjamdkaaGreatDoorBdS
/-
  Plain facts on times of a day: the page's way, by the pieces between colons, says the same.
-/
namespace Go.Proofs.YthefgagmjamdkaaGreatDoor
namespace Clk
open Sol
/-- A text parted at its colons: the pieces that have ended, and the one that goes on. -/
def SP (l : List UInt8) (done : List (List UInt8)) (cur : List UInt8) : Prop :=
  l = (done.map (fun d => d ++ [58])).flatten ++ cur ∧ (∀ d ∈ done, ∀ x ∈ d, x ≠ 58) ∧ (∀ x ∈ cur, x ≠ 58)
theorem sp_nil : SP [] [] [] := ⟨rfl, by simp, by simp⟩
theorem sp_char {l : List UInt8} {done : List (List UInt8)} {cur : List UInt8} {c : UInt8} (h : SP l done cur) (hc : c ≠ 58) : SP (l ++ [c]) done (cur ++ [c]) := by
  refine ⟨by rw [h.1, List.append_assoc], h.2.1, fun x hx => ?_⟩
  rcases List.mem_append.1 hx with h1 | h1
  · exact h.2.2 x h1
  · rw [List.mem_singleton.1 h1]; exact hc
theorem sp_colon {l : List UInt8} {done : List (List UInt8)} {cur : List UInt8} (h : SP l done cur) : SP (l ++ [58]) (done ++ [cur]) [] := by
  refine ⟨by rw [h.1]; simp, fun d hd => ?_, by simp⟩
  rcases List.mem_append.1 hd with h1 | h1
  · exact h.2.1 d h1
  · rw [List.mem_singleton.1 h1]; exact h.2.2
def okP (p : List UInt8) (a b : Nat) : Bool := decide (a ≤ p.length ∧ p.length ≤ b) && p.all isDig
def ok2 (p : List UInt8) : Bool := okP p 2 2 && decide (digVal p ≤ 59)
def refB : List (List UInt8) → Bool
  | [] => false
  | d :: rest => decide (rest.length ≤ 2) && okP d 1 3 && rest.all ok2
def refV : List (List UInt8) → Int
  | [] => 0
  | [d] => digVal d * 3600
  | [d, e] => digVal d * 3600 + digVal e * 60
  | d :: e :: g :: _ => digVal d * 3600 + digVal e * 60 + digVal g
theorem okP_iff {p : List UInt8} {a b : Nat} : okP p a b = true ↔ (a ≤ p.length ∧ p.length ≤ b) ∧ p.all isDig = true := by
  simp only [okP, Bool.and_eq_true, decide_eq_true_eq]
theorem p13 (a : List UInt8) : (parseB a && decide (a.length ≤ 3)) = okP a 1 3 := by
  rw [Bool.eq_iff_iff, okP_iff]
  simp only [parseB, Bool.and_eq_true, decide_eq_true_eq]
  constructor
  · rintro ⟨⟨⟨h1, h2⟩, h3⟩, h4⟩; exact ⟨⟨h1, h4⟩, h3⟩
  · rintro ⟨⟨h1, h4⟩, h3⟩; exact ⟨⟨⟨h1, by omega⟩, h3⟩, h4⟩
theorem ok2_iff {p : List UInt8} : ok2 p = true ↔ p.length = 2 ∧ p.all isDig = true ∧ digVal p < 60 := by
  simp only [ok2, Bool.and_eq_true, okP_iff, decide_eq_true_eq]
  constructor
  · rintro ⟨⟨⟨h1, h2⟩, h3⟩, h4⟩; exact ⟨by omega, h3, by omega⟩
  · rintro ⟨h1, h3, h4⟩; exact ⟨⟨⟨by omega, by omega⟩, h3⟩, by omega⟩
theorem six_good {p t : List UInt8} (h : ok2 p = true) : sixB (58 :: (p ++ t)) = true ∧ sixV (58 :: (p ++ t)) = digVal p ∧ sixR (58 :: (p ++ t)) = t := by
  obtain ⟨h1, h2, h3⟩ := ok2_iff.1 h
  exact six_ok h2 h1 h3
theorem sixB_p {l : List UInt8} (h0 : l.isEmpty = false) (h : parseB (sixS l) = false) : sixB l = false := by simp [sixB, h0, h]
theorem sixB_h {c : UInt8} {l : List UInt8} (h : c ≠ 58) : sixB (c :: l) = false := by simp [sixB, h]
theorem six_bad {p t : List UInt8} (hp : ∀ x ∈ p, x ≠ 58) (ht : t = [] ∨ ∃ u, t = 58 :: u) (hb : ok2 p = false) :
    sixB (58 :: (p ++ t)) = false ∨ (sixB (sixR (58 :: (p ++ t))) = false ∧ (sixR (58 :: (p ++ t))).isEmpty = false) := by
  match p, hp, hb with
  | [], _, _ =>
    left
    rcases ht with rfl | ⟨u, rfl⟩
    · decide
    · exact sixB_p rfl (parseB_at (k := 0) (by simp [sixS]) (by show isDig 58 = false; decide))
  | [a], _, _ =>
    left
    rcases ht with rfl | ⟨u, rfl⟩
    · simp [sixB]
    · exact sixB_p rfl (parseB_at (k := 1) (by simp [sixS]) (by show isDig 58 = false; decide))
  | [a, b], _, hb =>
    left
    have es : sixS (58 :: ([a, b] ++ t)) = [a, b] := rfl
    by_cases hd : [a, b].all isDig = true
    · have hp : parseB [a, b] = true := parseB_yes (by simp) (by simp) hd
      have hv : ¬ parseV [a, b] < 60 := fun h => by
        rw [parseV_yes hp] at h
        have := ok2_iff.2 ⟨rfl, hd, h⟩
        rw [hb] at this; cases this
      rw [sixB, es, decide_eq_false hv]; simp
    · exact sixB_p rfl (by rw [es, parseB]; simp only [Bool.not_eq_true] at hd; rw [hd]; simp)
  | a :: b :: c :: q, hp, _ =>
    right
    have er : sixR (58 :: ((a :: b :: c :: q) ++ t)) = c :: (q ++ t) := rfl
    rw [er]
    exact ⟨sixB_h (hp c (by simp)), rfl⟩
theorem flat_cons (d : List UInt8) (ds : List (List UInt8)) (cur : List UInt8) : ((d :: ds).map (fun d => d ++ [58])).flatten ++ cur = d ++ 58 :: ((ds.map (fun d => d ++ [58])).flatten ++ cur) := by simp
def tail3 (m : List UInt8) : Bool := sixB m && sixB (sixR m) && (sixR (sixR m)).isEmpty
theorem read_cut {d m : List UInt8} (h : ∀ x ∈ d, x ≠ 58) : readB (d ++ 58 :: m) = (okP d 1 3 && tail3 (58 :: m)) ∧ (readB (d ++ 58 :: m) = true → readV (d ++ 58 :: m) = digVal d * 3600 + sixV (58 :: m) * 60 + sixV (sixR (58 :: m))) := by
  obtain ⟨p1, p2⟩ := hd_of (b := m) h
  have e : readB (d ++ 58 :: m) = (okP d 1 3 && tail3 (58 :: m)) := by
    rw [readB, p1, p2, p13, tail3, Bool.and_assoc, Bool.and_assoc, Bool.and_assoc]
  refine ⟨e, fun hb => ?_⟩
  have hb2 := hb
  rw [e, Bool.and_eq_true] at hb2
  have h13 := hb2.1
  rw [← p13, Bool.and_eq_true] at h13
  rw [readV, if_pos hb, p1, p2, parseV_yes h13.1]
theorem tail_bad {p t : List UInt8} (hp : ∀ x ∈ p, x ≠ 58) (ht : t = [] ∨ ∃ u, t = 58 :: u) (hb : ok2 p = false) : tail3 (58 :: (p ++ t)) = false := by
  rcases six_bad hp ht hb with h | ⟨h, _⟩
  · rw [tail3, h]; rfl
  · rw [tail3, h]; simp
theorem tail_bad2 {p t q : List UInt8} (hp : ∀ x ∈ p, x ≠ 58) (ht : t = [] ∨ ∃ u, t = 58 :: u) (hb : ok2 p = false) (hq : ok2 q = true) : tail3 (58 :: (q ++ 58 :: (p ++ t))) = false := by
  obtain ⟨g1, g2, g3⟩ := six_good (t := 58 :: (p ++ t)) hq
  rw [tail3, g1, g3]
  rcases six_bad hp ht hb with h | ⟨_, h⟩
  · rw [h]; rfl
  · rw [h]; simp
theorem read_sp {l : List UInt8} {done : List (List UInt8)} {cur : List UInt8} (h : SP l done cur) : readB l = refB (done ++ [cur]) ∧ (readB l = true → readV l = refV (done ++ [cur])) := by
  obtain ⟨h1, h2, h3⟩ := h
  match done, h1, h2 with
  | [], h1, _ =>
    have e : l = cur := h1
    subst e
    obtain ⟨p1, p2⟩ := hd_all h3
    have eb : readB l = okP l 1 3 := by
      rw [readB, p1, p2, p13, six_nil.1, six_nil.2.2, six_nil.1, six_nil.2.2]; simp
    refine ⟨by rw [eb]; simp [refB], fun hb => ?_⟩
    have h13 := eb.symm.trans hb
    rw [← p13, Bool.and_eq_true] at h13
    rw [readV, if_pos hb, p1, p2, parseV_yes h13.1, six_nil.2.1, six_nil.2.2, six_nil.2.1]
    simp [refV]
  | [d], h1, h2 =>
    rw [flat_cons] at h1
    have e : l = d ++ 58 :: cur := h1
    subst e
    obtain ⟨c1, c2⟩ := read_cut (m := cur) (h2 d (by simp))
    cases hk : ok2 cur with
    | true =>
      obtain ⟨g1, g2, g3⟩ := six_good (t := []) hk
      rw [List.append_nil] at g1 g2 g3
      have et : tail3 (58 :: cur) = true := by rw [tail3, g1, g3]; rfl
      refine ⟨by rw [c1, et]; simp [refB, hk], fun hb => ?_⟩
      rw [c2 hb, g2, g3, six_nil.2.1]; simp [refV]
    | false =>
      have et := tail_bad (t := []) h3 (Or.inl rfl) hk
      rw [List.append_nil] at et
      refine ⟨by rw [c1, et]; simp [refB, hk], fun hb => ?_⟩
      rw [c1, et] at hb; simp at hb
  | [d, e], h1, h2 =>
    rw [flat_cons, flat_cons] at h1
    have e1 : l = d ++ 58 :: (e ++ 58 :: cur) := h1
    subst e1
    obtain ⟨c1, c2⟩ := read_cut (m := e ++ 58 :: cur) (h2 d (by simp))
    cases hk : ok2 e with
    | true =>
      obtain ⟨g1, g2, g3⟩ := six_good (t := 58 :: cur) hk
      cases hc : ok2 cur with
      | true =>
        obtain ⟨k1, k2, k3⟩ := six_good (t := []) hc
        rw [List.append_nil] at k1 k2 k3
        have et : tail3 (58 :: (e ++ 58 :: cur)) = true := by rw [tail3, g1, g3, k1, k3]; rfl
        refine ⟨by rw [c1, et]; simp [refB, hk, hc], fun hb => ?_⟩
        rw [c2 hb, g2, g3, k2]; simp [refV]
      | false =>
        have et := tail_bad2 (t := []) h3 (Or.inl rfl) hc hk
        rw [List.append_nil] at et
        refine ⟨by rw [c1, et]; simp [refB, hc], fun hb => ?_⟩
        rw [c1, et] at hb; simp at hb
    | false =>
      have et := tail_bad (t := 58 :: cur) (h2 e (by simp)) (Or.inr ⟨_, rfl⟩) hk
      refine ⟨by rw [c1, et]; simp [refB, hk], fun hb => ?_⟩
      rw [c1, et] at hb; simp at hb
  | d :: e :: g :: more, h1, h2 =>
    rw [flat_cons, flat_cons, flat_cons] at h1
    obtain ⟨k, hk⟩ : ∃ k, (more.map (fun d => d ++ [58])).flatten ++ cur = k := ⟨_, rfl⟩
    rw [hk] at h1
    subst h1
    obtain ⟨c1, _⟩ := read_cut (m := e ++ 58 :: (g ++ 58 :: k)) (h2 d (by simp))
    have et : tail3 (58 :: (e ++ 58 :: (g ++ 58 :: k))) = false := by
      cases he : ok2 e with
      | false => exact tail_bad (h2 e (by simp)) (Or.inr ⟨_, rfl⟩) he
      | true =>
        cases hg : ok2 g with
        | false => exact tail_bad2 (h2 g (by simp)) (Or.inr ⟨_, rfl⟩) hg he
        | true =>
          obtain ⟨g1, g2, g3⟩ := six_good (t := 58 :: (g ++ 58 :: k)) he
          obtain ⟨k1, k2, k3⟩ := six_good (t := 58 :: k) hg
          rw [tail3, g1, g3, k1, k3]; rfl
    refine ⟨by rw [c1, et]; simp [refB], fun hb => ?_⟩
    rw [c1, et] at hb; simp at hb

/-- At the head of the loop that parts a text: which pieces are there, where the one that goes on begins. -/
def LP (l : List UInt8) (i : Nat) (ps : List (List UInt8)) (fr : Nat) : Prop :=
  (i ≤ l.length ∧ ∃ cur, SP (l.take i) ps cur ∧ fr + cur.length = i) ∨ (i = l.length + 1 ∧ ∃ done cur, SP l done cur ∧ ps = done ++ [cur])
theorem lp_start (l : List UInt8) : LP l 0 [] 0 := Or.inl ⟨Nat.zero_le _, [], by rw [List.take_zero]; exact sp_nil, rfl⟩
theorem lp_len {l : List UInt8} {i fr : Nat} {ps : List (List UInt8)} (h : LP l i ps fr) : ps.length ≤ i ∧ i ≤ l.length + 1 := by
  have key : ∀ (m : List UInt8) (done : List (List UInt8)) (cur : List UInt8), SP m done cur → done.length + cur.length ≤ m.length := by
    intro m done cur hs
    rw [hs.1, List.length_append]
    have : ∀ ds : List (List UInt8), ds.length ≤ ((ds.map (fun d => d ++ [58])).flatten).length := by
      intro ds
      induction ds with
      | nil => simp
      | cons d ds ih => simp at ih ⊢; omega
    have := this done; omega
  rcases h with ⟨h1, cur, hs, hf⟩ | ⟨h1, done, cur, hs, rfl⟩
  · have := key _ _ _ hs; rw [List.length_take] at this; omega
  · have := key _ _ _ hs; rw [List.length_append]; simp; omega
theorem lp_char {l : List UInt8} {i fr : Nat} {ps : List (List UInt8)} (hi : i < l.length) (h : LP l i ps fr) (hc : l[i] ≠ 58) : LP l (i + 1) ps fr := by
  rcases h with ⟨h1, cur, hs, hf⟩ | ⟨h1, _⟩
  · refine Or.inl ⟨by omega, cur ++ [l[i]], ?_, by rw [List.length_append]; simp; omega⟩
    rw [List.take_succ_eq_append_getElem hi]
    exact sp_char hs hc
  · omega
theorem lp_cur {l : List UInt8} {i fr : Nat} {ps : List (List UInt8)} (hi : i ≤ l.length) (h : LP l i ps fr) : ∃ cur, (l.drop fr).take (i - fr) = cur ∧ fr ≤ i ∧ SP (l.take i) ps cur := by
  rcases h with ⟨h1, cur, hs, hf⟩ | ⟨h1, _⟩
  · refine ⟨cur, ?_, by omega, hs⟩
    have e : (l.take i).drop fr = cur := by
      have hl : (l.take i).length = i := by rw [List.length_take]; omega
      have hx := hs.1
      have hxl : ((ps.map (fun d => d ++ [58])).flatten).length = fr := by
        have := congrArg List.length hx
        rw [List.length_append, hl] at this; omega
      rw [hx, List.drop_left' hxl]
    rw [← e, List.drop_take]
  · omega
theorem lp_colon {l cur : List UInt8} {i : Nat} {ps : List (List UInt8)} (hi : i < l.length) (hs : SP (l.take i) ps cur) (hc : l[i] = 58) : LP l (i + 1) (ps ++ [cur]) (i + 1) := by
  refine Or.inl ⟨by omega, [], ?_, rfl⟩
  rw [List.take_succ_eq_append_getElem hi, hc]
  exact sp_colon hs
theorem lp_last {l cur : List UInt8} {ps : List (List UInt8)} (hs : SP (l.take l.length) ps cur) (fr : Nat) : LP l (l.length + 1) (ps ++ [cur]) fr := by
  rw [List.take_length] at hs
  exact Or.inr ⟨rfl, ps, cur, hs, rfl⟩
theorem flat_len : ∀ (ds : List (List UInt8)) (d : List UInt8), d ∈ ds → d.length ≤ ((ds.map (fun d => d ++ [58])).flatten).length
  | [], _, h => by cases h
  | e :: ds, d, h => by
    rcases List.mem_cons.1 h with rfl | h
    · simp
    · have := flat_len ds d h
      simp at this ⊢; omega
theorem lp_end {l : List UInt8} {fr : Nat} {ps : List (List UInt8)} (h : LP l (l.length + 1) ps fr) : readB l = refB ps ∧ (readB l = true → readV l = refV ps) ∧ 1 ≤ ps.length ∧ ∀ p ∈ ps, p.length ≤ l.length := by
  rcases h with ⟨h1, _⟩ | ⟨_, done, cur, hs, rfl⟩
  · omega
  · obtain ⟨a, b⟩ := read_sp hs
    refine ⟨a, b, by simp, fun p hp => ?_⟩
    rw [hs.1, List.length_append]
    rcases List.mem_append.1 hp with h | h
    · have := flat_len done p h; omega
    · rw [List.mem_singleton.1 h]; omega
end Clk
end Go.Proofs.YthefgagmjamdkaaGreatDoor
/-
  Contracts of the reference's calls on times of a day: Digits, Value of a piece, and the head of Clock.
-/
namespace Go.Proofs.YthefgagmjamdkaaGreatDoor
open Go.RowKit
namespace Clk
open Sol
theorem okP_at {l : List UInt8} {k a b : Nat} (hk : k < l.length) (h : isDig l[k] = false) : okP l a b = false := by
  have : l.all isDig = false := by
    rw [List.all_eq_false]
    exact ⟨l[k], List.getElem_mem hk, by simp [h]⟩
  simp [okP, this]
theorem okP_no {l : List UInt8} {a b : Nat} (h : ¬ (a ≤ l.length ∧ l.length ≤ b)) : okP l a b = false := by rw [okP, decide_eq_false h]; rfl
set_option maxHeartbeats 400000 in
theorem rdig_any (s : ByteArray) (L : List UInt8) (a b : Nat) (w : World) (hb : b ≤ 100) (hL : Hid (s.data.toList = L)) :
    Calls Tryz.prog 27 #[.string s, .int .i64 (a : Int), .int .i64 (b : Int)] w fun e w' => e = .returned (.bool (okP L a b)) ∧ w = w' := by
  have hlen := Sol.list_len s
  rw [hL.out] at hlen
  by_cases h1 : a ≤ s.size
  · by_cases h2 : s.size ≤ b
    · have HL := Lib.hid hlen
      have d1 : decide (s.size < a) = false := decide_eq_false (by omega)
      have d2 : decide (b < s.size) = false := decide_eq_false (by omega)
      clear hlen
      go_enter Tryz.func27, Tryz.ntmps27
      go_wp2
      go_loop [7] (fun i => ∃ k : Nat, k ≤ s.size ∧ Hid ((L.take k).all Sol.isDig = true) ∧ i = .int .i64 k) (fun i => s.size - (intOf i).toNat)
      case atStart => exact ⟨0, Nat.zero_le _, Lib.hid rfl, rfl⟩
      case round =>
        obtain ⟨k, hk, HA, rfl⟩ := hrel
        by_cases hlt : k < s.size
        · have HS := Lib.hid (Sol.take_snoc s k hlt)
          cases hd : Sol.isDig s[k] with
          | true =>
            have HD := Lib.hid hd
            clear hd
            go_wp2_with (go_at_call 60; refine (RNum.rdigit_any _ _).mono ?_; rintro e w' ⟨rfl, rfl⟩; rw [HD.out])
            go_round
            case rel => exact ⟨k + 1, by omega, Lib.hid (by rw [← hL.out, HS.out, Sol.all_snoc, hL.out, HA.out, HD.out]; rfl), by go_num⟩
            case measure => simp [intOf]; omega
          | false =>
            have HD := Lib.hid hd
            clear hd
            have H : Hid (okP L a b = false) := Lib.hid (by
              have := okP_at (l := s.data.toList) (k := k) (a := a) (b := b) (by rw [hL.out, HL.out]; exact hlt) HD.out
              rwa [hL.out] at this)
            go_wp2_with (go_at_call 60; refine (RNum.rdigit_any _ _).mono ?_; rintro e w' ⟨rfl, rfl⟩; rw [HD.out])
            go_ret
            exact ⟨ret_b H.out.symm, rfl⟩
        · have HT : Hid (L.take k = L) := Lib.hid (List.take_of_length_le (by rw [HL.out]; omega))
          have H : Hid (okP L a b = true) := Lib.hid (okP_iff.2 ⟨by rw [HL.out]; omega, by have := HA.out; rwa [HT.out] at this⟩)
          go_wp2
          go_ret
          exact ⟨ret_b H.out.symm, rfl⟩
    · have H := Lib.hid (okP_no (l := L) (a := a) (b := b) (by omega))
      clear hlen
      go_enter Tryz.func27, Tryz.ntmps27
      go_wp2
      go_ret
      exact ⟨ret_b H.out.symm, rfl⟩
  · have H := Lib.hid (okP_no (l := L) (a := a) (b := b) (by omega))
    clear hlen
    go_enter Tryz.func27, Tryz.ntmps27
    go_wp2
    go_ret
    exact ⟨ret_b H.out.symm, rfl⟩
theorem okP_parse {p : List UInt8} {a b : Nat} (ha : 1 ≤ a) (hb : b ≤ 18) (h : okP p a b = true) : parseB p = true := by
  obtain ⟨⟨h1, h2⟩, h3⟩ := okP_iff.1 h
  exact parseB_yes (by omega) (by omega) h3
theorem rdig_to (p : List UInt8) (a b : Nat) (r : Bool) (w : World) (hb : b ≤ 100) (h : Hid (okP p a b = r)) :
    Calls Tryz.prog 27 #[.string ⟨p.toArray⟩, .int .i64 (a : Int), .int .i64 (b : Int)] w fun e w' => e = .returned (.bool r) ∧ w = w' :=
  (rdig_any ⟨p.toArray⟩ p a b w hb (Lib.hid rfl)).mono fun _ _ ⟨he, hw⟩ => ⟨by rw [he, h.out], hw⟩
theorem rval_to (p : List UInt8) (v : Int) (w : World) (h : Hid (parseB p = true ∧ digVal p = v)) :
    Calls Tryz.prog 28 #[.string ⟨p.toArray⟩] w fun e w' => e = .returned (.int .i64 v) ∧ w = w' :=
  (RNum.rvalue_any ⟨p.toArray⟩ w (Lib.hid h.out.1)).mono fun _ _ ⟨he, hw⟩ => ⟨by rw [he, ← h.out.2], hw⟩
end Clk
end Go.Proofs.YthefgagmjamdkaaGreatDoor
/-
  Contract of the reference's Clock.
-/
namespace Go.Proofs.YthefgagmjamdkaaGreatDoor
open Go.RowKit
namespace Clk
open Sol
theorem infoStr : (Tryz.prog.info? 9).map (fun i => (i.zero, i.size, i.bytes)) = some (some (.string ByteArray.empty), 1, 16) := by kernel_rfl
def strs (ps : List (List UInt8)) : List Value := ps.map fun p => Value.string ⟨p.toArray⟩
theorem strs_snoc (ps : List (List UInt8)) (p : List UInt8) : strs (ps ++ [p]) = strs ps ++ [.string ⟨p.toArray⟩] := by simp [strs]
/-- The value of the first k + 1 pieces. -/
def pv (d : List UInt8) (rest : List (List UInt8)) (k : Nat) : Int := 3600 * digVal d + (if 2 ≤ k then 60 * digVal (rest.getD 0 []) else 0) + (if 3 ≤ k then digVal (rest.getD 1 []) else 0)
theorem pv_1 (d : List UInt8) (rest : List (List UInt8)) : pv d rest 1 = 3600 * digVal d := by simp [pv]
theorem pv_2 (d : List UInt8) (rest : List (List UInt8)) : pv d rest 2 = pv d rest 1 + 60 * digVal (rest.getD 0 []) := by simp [pv]
theorem pv_3 (d : List UInt8) (rest : List (List UInt8)) : pv d rest 3 = pv d rest 2 + digVal (rest.getD 1 []) := by simp [pv]
theorem pv_ref {d : List UInt8} {rest : List (List UInt8)} (h : rest.length ≤ 2) : refV (d :: rest) = pv d rest (rest.length + 1) := by
  match rest, h with
  | [], _ => simp [refV, pv]; omega
  | [e], _ => simp [refV, pv]; omega
  | [e, g], _ => simp [refV, pv]; omega
theorem ok2_bd {p : List UInt8} (h : okP p 2 2 = true) : parseB p = true ∧ 0 ≤ digVal p ∧ digVal p < 100 := by
  obtain ⟨⟨h1, h2⟩, h3⟩ := okP_iff.1 h
  have := digVal_bd p h3
  have e : p.length = 2 := by omega
  rw [e] at this
  exact ⟨okP_parse (by omega) (by omega) h, this.1, by have := this.2; omega⟩
theorem ok13_bd {p : List UInt8} (h : okP p 1 3 = true) : parseB p = true ∧ 0 ≤ digVal p ∧ digVal p < 1000 := by
  have h2 := p13 p
  rw [h] at h2
  simp only [Bool.and_eq_true, decide_eq_true_eq] at h2
  have := digs3 h2.1 h2.2
  rw [parseV_yes h2.1] at this
  exact ⟨h2.1, this⟩
theorem add0 (g j : Nat) : (⟨g, 0, none⟩ : Addr).add j = ⟨g, j, none⟩ := by unfold Addr.add; split <;> simp_all
theorem pv_bd {d : List UInt8} {rest : List (List UInt8)} {k : Nat} (hd : 0 ≤ digVal d ∧ digVal d < 1000) (hk : k ≤ 3) (h : (rest.take (k - 1)).all ok2 = true) : 0 ≤ pv d rest k ∧ pv d rest k ≤ 3700000 := by
  have key : ∀ j, j < k - 1 → 0 ≤ digVal (rest.getD j []) ∧ digVal (rest.getD j []) < 100 := by
    intro j hj
    by_cases hl : j < rest.length
    · have hm : rest[j] ∈ rest.take (k - 1) := by
        rw [List.mem_take_iff_getElem]
        exact ⟨j, by omega, rfl⟩
      have ho := List.all_eq_true.1 h _ hm
      obtain ⟨o1, o2, o3⟩ := ok2_iff.1 ho
      have := digVal_bd rest[j] o2
      rw [List.getD_eq_getElem?_getD, List.getElem?_eq_getElem hl]
      exact ⟨this.1, by show digVal rest[j] < 100; omega⟩
    · rw [List.getD_eq_getElem?_getD, List.getElem?_eq_none (by omega)]; decide
  unfold pv
  by_cases h2 : 2 ≤ k
  · have k0 := key 0 (by omega)
    rw [if_pos h2]
    by_cases h3 : 3 ≤ k
    · have k1 := key 1 (by omega)
      rw [if_pos h3]; omega
    · rw [if_neg h3]; omega
  · rw [if_neg h2, if_neg (by omega)]; omega
theorem rdig_13 (p : List UInt8) (r : Bool) (w : World) (h : Hid (okP p 1 3 = r)) :
    Calls Tryz.prog 27 #[.string ⟨p.toArray⟩, .int .i64 1, .int .i64 3] w fun e w' => e = .returned (.bool r) ∧ w = w' := rdig_to p 1 3 r w (by omega) h
theorem rdig_22 (p : List UInt8) (r : Bool) (w : World) (h : Hid (okP p 2 2 = r)) :
    Calls Tryz.prog 27 #[.string ⟨p.toArray⟩, .int .i64 2, .int .i64 2] w fun e w' => e = .returned (.bool r) ∧ w = w' := rdig_to p 2 2 r w (by omega) h
theorem sg_cases (L : List UInt8) : (neg L = true ∧ ∃ r, L = 45 :: r ∧ dg L = r) ∨ (neg L = false ∧ dg L = L ∧ (∀ c r, L = c :: r → c ≠ 45)) := by
  cases L with
  | nil => exact Or.inr ⟨rfl, rfl, fun c r h => by cases h⟩
  | cons c r =>
    by_cases h : c = 45
    · subst h
      exact Or.inl ⟨by simp [neg, Lib.hasPrefix], r, rfl, by simp [dg, Lib.trimPrefix, Lib.hasPrefix]⟩
    · obtain ⟨_, h2⟩ := pre_no' h (r := r)
      exact Or.inr ⟨h2, by rw [dg, Lib.trimPrefix, h2]; rfl, fun c' r' e => by cases e; exact h⟩

set_option maxRecDepth 100000 in
set_option maxHeartbeats 6400000 in
theorem rclock_any (s : ByteArray) (L : List UInt8) (w : World) (hs : s.size ≤ 1000) (hL : Hid (s.data.toList = L)) :
    Calls Tryz.prog 26 #[.string s] w fun e w' => e = .returned (.tuple #[.int .i64 (clV L), .bool (clB L)]) ∧ Below w.heap.size w w' := by
  by_cases h1 : L = [45]
  · subst h1
    have he : s.toList = [45] := by rw [Lib.toList_data]; exact hL.out
    go_enter Tryz.func26, Tryz.ntmps26
    go_wp2
    go_ret2
    exact ⟨ret_ib cl_dash.2.1.symm cl_dash.1.symm, Below.refl _ _⟩
  · have he : (s.toList == [45]) = false := beq_eq_false_iff_ne.2 (by rw [Lib.toList_data, hL.out]; exact h1)
    have hl := Lib.size_eq s
    rw [hL.out] at hl
    have hdl := dg_len L
    have HB : Hid (clB L = (readB (dg L) && decide (readV (dg L) ≤ 345600))) := Lib.hid (by rw [clB, decide_eq_false h1, Bool.false_or])
    have HV : Hid (clV L = if clB L then (if neg L then -readV (dg L) else readV (dg L)) else 0) := Lib.hid (by rw [clV, if_neg h1])
    have HN := Lib.hid (fun h => (cl_no (l := L) h).1)
    have hsg := sg_cases L
    obtain ⟨D, hD⟩ : ∃ D, dg L = D := ⟨_, rfl⟩
    obtain ⟨ng, hng⟩ : ∃ b, neg L = b := ⟨_, rfl⟩
    rw [hD] at HB HV hdl hsg
    rw [hng] at HV hsg
    obtain ⟨sg, hsgv⟩ : ∃ x : Int, (if ng then -1 else 1) = x := ⟨_, rfl⟩
    have SG := Lib.hid hsgv
    clear hD hng h1 hsgv
    have HL := Lib.hid hl
    have hDl : D.length ≤ 1000 := by omega
    obtain ⟨i0, hi, hz0, hz1, hz2⟩ := info_parts infoStr
    have HI := Lib.hid (And.intro hi (And.intro hz0 (And.intro hz1 hz2)))
    clear hi hz0 hz1 hz2
    go_enter Tryz.func26, Tryz.ntmps26
    go_upto_region 4 with fail
    go_cut [19] (fun x wx => x = .bool ng ∧ w = wx)
    case first =>
      rcases hsg with ⟨rfl, r, rfl, rfl⟩ | ⟨rfl, rfl, hc⟩
      · have hz : 0 < s.size := by rw [hl]; simp
        have hc : s[0] = 45 := by
          have := head_str s hz
          rw [hL.out] at this
          exact (Option.some.inj this).symm
        clear hl
        go_wp2
        go_meet
        exact ⟨rfl, rfl⟩
      · by_cases hz : s.size = 0
        · clear hl
          go_wp2
          go_meet
          exact ⟨rfl, rfl⟩
        · have hz1 : 0 < s.size := by omega
          have hne : s[0] ≠ 45 := by
            have := head_str s hz1
            rw [hL.out] at this
            cases D with
            | nil => simp at this
            | cons c r => simp at this; rw [← this]; exact hc c r rfl
          have hc2 : (((s[0]).toNat : Int) == 45) = false := beq_eq_false_iff_ne.2 (fun e => hne (UInt8.toNat_inj.1 (by have : (45 : UInt8).toNat = 45 := rfl; omega)))
          clear hl hne hz
          go_wp2
          go_meet
          exact ⟨rfl, rfl⟩
    case rest =>
    obtain ⟨rfl, hwc⟩ := hcut
    subst hwc
    go_upto_if 19 with fail
    go_cut [4, 0] (fun x y wx => x = .int .i64 sg ∧ y = .string ⟨D.toArray⟩ ∧ ∃ q : Nat, wx = w.drewN q)
    case first =>
      rcases hsg with ⟨rfl, r, rfl, rfl⟩ | ⟨rfl, rfl, hc⟩
      · have h1 : 1 ≤ s.size := by rw [hl]; simp
        have HE : Hid (s.extract 1 s.size = ⟨D.toArray⟩) := Lib.hid (by rw [drop_str, hL.out]; rfl)
        clear hl
        go_wp2_with fail
        go_quiet (fail)
        go_wp2
        go_meet
        exact ⟨by rw [← SG.out]; rfl, congrArg Value.string HE.out, _, rfl⟩
      · have HE : Hid (s = ⟨D.toArray⟩) := Lib.hid (by rw [← hL.out, Lib.mk_data])
        clear hl
        go_wp2
        go_meet
        exact ⟨by rw [← SG.out]; rfl, congrArg Value.string HE.out, 0, rfl⟩
    case rest =>
      obtain ⟨rfl, rfl, q0, rfl⟩ := hcut
      clear hsg hl he
      obtain ⟨S, hS⟩ : ∃ S : ByteArray, S = ⟨D.toArray⟩ := ⟨_, rfl⟩
      rw [← hS]
      have hSz : S.size = D.length := by rw [hS]; rfl
      have hSd : S.data.toList = D := by rw [hS]
      have HSz := Lib.hid hSz
      have HSd := Lib.hid hSd
      have hSl : S.size ≤ 1000 := by omega
      clear hS hSz hSd
      go_wp2_with fail
      go_loopw [5, 6, 7] (fun v f i wr => ∃ (ps : List (List UInt8)) (k fr : Nat) (ao : Option Addr) (cv : Nat), k ≤ S.size + 1 ∧ ps.length ≤ k ∧ i = .int .i64 k ∧ f = .int .i64 fr ∧ fr ≤ k ∧ v = .slice ao ps.length cv ∧ Hid (LP D k ps fr) ∧ wr.ownsRow w.heap.size 9 1 v ps.length (strs ps) ∧ Below w.heap.size w wr) (fun _ _ i _ => S.size + 1 - (intOf i).toNat)
      case atStart => exact ⟨[], 0, 0, none, 0, by omega, Nat.le_refl _, rfl, rfl, Nat.le_refl _, rfl, Lib.hid (lp_start D), World.ownsRow_nil _ _ _ _, below_drewN (Below.refl _ _) _⟩
      case round =>
        obtain ⟨ps, k, fr, ao, cv, hk, hpk, rfl, rfl, hfr, rfl, HP, hown, hnx⟩ := hrel
        have hsize := hnx.size
        by_cases hkA : k ≤ S.size
        · obtain ⟨cur, hcur, hfk, hsp⟩ := lp_cur (l := D) (by rw [← HSz.out]; exact hkA) HP.out
          have HE : Hid (S.extract fr k = ⟨cur.toArray⟩) := Lib.hid (bytes_eq (by rw [Lib.extract_data, HSd.out, hcur]))
          have HSP := Lib.hid hsp
          have HPH := Lib.hid HP.out
          clear hcur hsp
          by_cases hkB : k = S.size
          · subst hkB
            have HNX : Hid (LP D (S.size + 1) (ps ++ [cur]) (S.size + 1)) := Lib.hid (by
              have := HSP.out
              rw [HSz.out] at this ⊢
              exact lp_last this _)
            go_wp2_with (at_builtin; refine wpList_append_own _ rfl _ _ 31 rfl w.heap.size 9 i0 (.string ByteArray.empty) 1 16 Tryz.underlying31 HI.out.1 HI.out.2.1 HI.out.2.2.1 HI.out.2.2.2 rfl (by decide) _ _ _ rfl (hown.alloc _) ⟨wr.heap.size, 0, none⟩ 1 1 [.string (S.extract fr S.size)] rfl rfl (cell_one_new _ _ _) (fun x hx => by simp at hx; subst hx; rfl) (by unfold maxLen; omega) (by omega) (by simp; omega) ?_; intro v' w3 hown' hgrow3 hnil3)
            go_roundw
            case rel =>
              obtain ⟨g3, cap3, hv3⟩ : ∃ g3 cap3, v' = .slice (some ⟨g3, 0, none⟩) (ps.length + 1) cap3 := by
                rcases hown'.2 with ⟨_, h⟩ | ⟨g3, cap3, _, h, _⟩
                · omega
                · exact ⟨g3, cap3, h⟩
              have R : S.size + 1 ≤ S.size + 1 ∧ (ps ++ [cur]).length ≤ S.size + 1 ∧ Value.int .i64 ((S.size : Int) + 1) = .int .i64 ((S.size + 1 : Nat) : Int) ∧ Value.int .i64 ((S.size : Int) + 1) = .int .i64 ((S.size + 1 : Nat) : Int) ∧ S.size + 1 ≤ S.size + 1 ∧ v' = .slice (some ⟨g3, 0, none⟩) (ps ++ [cur]).length cap3 ∧ Hid (LP D (S.size + 1) (ps ++ [cur]) (S.size + 1)) ∧ w3.ownsRow w.heap.size 9 1 v' (ps ++ [cur]).length (strs (ps ++ [cur])) ∧ Below w.heap.size w w3 :=
                ⟨by omega, by rw [List.length_append]; simp; omega, by go_num, by go_num, Nat.le_refl _, by rw [hv3, List.length_append]; rfl, HNX, by rw [strs_snoc, List.length_append, ← HE.out]; exact hown', (hnx.alloc hsize _).grown hgrow3 (by simp; omega) (fun q hq => (hown.lt q hq).1)⟩
              first | exact ⟨ps ++ [cur], S.size + 1, S.size + 1, some ⟨g3, 0, none⟩, cap3, R⟩ | ((repeat apply Exists.intro); exact ⟨⟨ps ++ [cur], S.size + 1, S.size + 1, some ⟨g3, 0, none⟩, cap3, R⟩, rfl⟩)
            case measure => simp [intOf]; try omega
          · have hlt : k < S.size := by omega
            have hne : ((k : Int) == (S.size : Int)) = false := beq_eq_false_iff_ne.2 (by omega)
            have HG : Hid (∀ h : k < D.length, D[k] = S[k]) := Lib.hid (fun h => by
              have e := HSd.out
              subst e
              rfl)
            clear hkB
            by_cases hc : S[k] = 58
            · have HNX : Hid (LP D (k + 1) (ps ++ [cur]) (k + 1)) := Lib.hid (lp_colon (by rw [← HSz.out]; exact hlt) HSP.out (by rw [HG.out]; exact hc))
              go_wp2_with (at_builtin; refine wpList_append_own _ rfl _ _ 31 rfl w.heap.size 9 i0 (.string ByteArray.empty) 1 16 Tryz.underlying31 HI.out.1 HI.out.2.1 HI.out.2.2.1 HI.out.2.2.2 rfl (by decide) _ _ _ rfl (hown.alloc _) ⟨wr.heap.size, 0, none⟩ 1 1 [.string (S.extract fr k)] rfl rfl (cell_one_new _ _ _) (fun x hx => by simp at hx; subst hx; rfl) (by unfold maxLen; omega) (by omega) (by simp; omega) ?_; intro v' w3 hown' hgrow3 hnil3)
              go_roundw
              case rel =>
                obtain ⟨g3, cap3, hv3⟩ : ∃ g3 cap3, v' = .slice (some ⟨g3, 0, none⟩) (ps.length + 1) cap3 := by
                  rcases hown'.2 with ⟨_, h⟩ | ⟨g3, cap3, _, h, _⟩
                  · omega
                  · exact ⟨g3, cap3, h⟩
                have R : k + 1 ≤ S.size + 1 ∧ (ps ++ [cur]).length ≤ k + 1 ∧ Value.int .i64 ((k : Int) + 1) = .int .i64 ((k + 1 : Nat) : Int) ∧ Value.int .i64 ((k : Int) + 1) = .int .i64 ((k + 1 : Nat) : Int) ∧ k + 1 ≤ k + 1 ∧ v' = .slice (some ⟨g3, 0, none⟩) (ps ++ [cur]).length cap3 ∧ Hid (LP D (k + 1) (ps ++ [cur]) (k + 1)) ∧ w3.ownsRow w.heap.size 9 1 v' (ps ++ [cur]).length (strs (ps ++ [cur])) ∧ Below w.heap.size w w3 :=
                  ⟨by omega, by rw [List.length_append]; simp; omega, by go_num, by go_num, Nat.le_refl _, by rw [hv3, List.length_append]; rfl, HNX, by rw [strs_snoc, List.length_append, ← HE.out]; exact hown', (hnx.alloc hsize _).grown hgrow3 (by simp; omega) (fun q hq => (hown.lt q hq).1)⟩
                first | exact ⟨ps ++ [cur], k + 1, k + 1, some ⟨g3, 0, none⟩, cap3, R⟩ | ((repeat apply Exists.intro); exact ⟨⟨ps ++ [cur], k + 1, k + 1, some ⟨g3, 0, none⟩, cap3, R⟩, rfl⟩)
              case measure => simp [intOf]; try omega
            · have HNX : Hid (LP D (k + 1) ps fr) := Lib.hid (lp_char (by rw [← HSz.out]; exact hlt) HPH.out (by rw [HG.out]; exact hc))
              have hc2 : (((S[k]).toNat : Int) == 58) = false := beq_eq_false_iff_ne.2 (fun e => hc (UInt8.toNat_inj.1 (by have : (58 : UInt8).toNat = 58 := rfl; omega)))
              clear hc
              go_wp2
              go_roundw
              case rel => exact ⟨ps, k + 1, fr, ao, cv, by omega, by omega, by go_num, rfl, by omega, rfl, HNX, hown, hnx⟩
              case measure => simp [intOf]; try omega
        · obtain rfl : k = S.size + 1 := by omega
          obtain ⟨r1, r2, r3, r4⟩ := lp_end (l := D) (fr := fr) (ps := ps) (by have := HP.out; rw [HSz.out] at this; exact this)
          rcases hown.2 with ⟨_, h0⟩ | ⟨g, cap, cu, hv, _, _⟩
          · omega
          · obtain ⟨rfl, rfl⟩ : ao = some ⟨g, 0, none⟩ ∧ cv = cap := by cases hv; exact ⟨rfl, rfl⟩
            have hcells := hown.cells (g := g) rfl
            obtain ⟨d, rest, rfl⟩ : ∃ d rest, ps = d :: rest := by
              cases ps with
              | nil => simp at r3
              | cons d rest => exact ⟨d, rest, rfl⟩
            have HC : Hid (∀ (j : Nat) (p : List UInt8), (d :: rest)[j]? = some p → wr.cell? ⟨g, j, none⟩ = some (.string ⟨p.toArray⟩)) := Lib.hid (fun j p h => by
              have := hcells j (.string ⟨p.toArray⟩) (by rw [strs, List.getElem?_map, h]; rfl)
              rwa [add0] at this)
            have HR1 : Hid (readB D = (decide (rest.length ≤ 2) && okP d 1 3 && rest.all ok2)) := Lib.hid r1
            have HR2 := Lib.hid r2
            clear hcells hown hv HP r1 r2 r3 r4
            by_cases hr : rest.length ≤ 2
            · have c0 := HC.out 0 d rfl
              have hn3 : rest.length + 1 ≤ 3 := by omega
              cases hd : okP d 1 3 with
              | false =>
                have H : Hid (clB L = false) := Lib.hid (by rw [HB.out, HR1.out, hd]; simp)
                have HD := Lib.hid hd
                clear hd
                go_wp2_with fail
                refine (rdig_13 d false _ HD).mono ?_
                rintro e' w1 ⟨rfl, rfl⟩
                go_wp2
                go_ret2
                exact ⟨ret_ib (HN.out H.out).symm H.out.symm, hnx⟩
              | true =>
                have HD := Lib.hid hd
                obtain ⟨b1, b2, b3⟩ := ok13_bd hd
                have PB := Lib.hid (fun k h1 h2 => pv_bd (d := d) (rest := rest) (k := k) ⟨b2, b3⟩ h1 h2)
                have HP1 : Hid (pv d rest 1 = 3600 * digVal d) := Lib.hid (pv_1 d rest)
                obtain ⟨dv, hdv⟩ : ∃ x, digVal d = x := ⟨_, rfl⟩
                rw [hdv] at b2 b3 HP1
                have DV := Lib.hid (And.intro b1 hdv)
                clear hd hdv b1
                go_wp2_with fail
                refine (rdig_13 d true _ HD).mono ?_
                rintro e' w1 ⟨rfl, rfl⟩
                go_wp2_with fail
                refine (rval_to d dv _ DV).mono ?_
                rintro e' w1 ⟨rfl, rfl⟩
                go_wp2_with fail
                go_loop [8, 9] (fun n i => ∃ k : Nat, 1 ≤ k ∧ k ≤ rest.length + 1 ∧ i = .int .i64 k ∧ n = .int .i64 (pv d rest k) ∧ Hid ((rest.take (k - 1)).all ok2 = true)) (fun _ i => rest.length + 1 - (intOf i).toNat)
                case atStart => exact ⟨1, Nat.le_refl _, by omega, rfl, by rw [HP1.out], Lib.hid rfl⟩
                case round =>
                  clear c0
                  obtain ⟨k, k1, k2, rfl, rfl, HA⟩ := hrel
                  obtain ⟨v0, v1⟩ := PB.out k (by omega) HA.out
                  by_cases hk : k ≤ rest.length
                  · obtain ⟨p, hp⟩ : ∃ p, rest[k - 1]? = some p := ⟨rest[k - 1]'(by omega), by rw [List.getElem?_eq_getElem (by omega)]⟩
                    have ck := HC.out k p (by rw [← hp]; obtain ⟨j, rfl⟩ : ∃ j, k = j + 1 := ⟨k - 1, by omega⟩; rfl)
                    have HPE := Lib.hid hp
                    have HMem : Hid (ok2 p = false → clB L = false) := Lib.hid (fun h => by
                      rw [HB.out, HR1.out]
                      have : rest.all ok2 = false := by
                        rw [List.all_eq_false]
                        exact ⟨p, List.mem_of_getElem? HPE.out, by rw [h]; decide⟩
                      rw [this]; simp)
                    have HSn : Hid (ok2 p = true → (rest.take (k + 1 - 1)).all ok2 = true) := Lib.hid (fun h => by
                      have e : k + 1 - 1 = (k - 1) + 1 := by omega
                      have hlt : k - 1 < rest.length := by omega
                      have hpe := HPE.out
                      rw [List.getElem?_eq_getElem hlt] at hpe
                      rw [e, List.take_succ_eq_append_getElem hlt, List.all_append, HA.out, Option.some.inj hpe]; simp [h])
                    clear hp
                    cases h2 : okP p 2 2 with
                    | false =>
                      have H : Hid (clB L = false) := Lib.hid (HMem.out (by rw [ok2, h2]; rfl))
                      have H2 := Lib.hid h2
                      clear h2
                      go_wp2_with fail
                      refine (rdig_22 p false _ H2).mono ?_
                      rintro e' w1 ⟨rfl, rfl⟩
                      go_wp2
                      go_ret2
                      exact ⟨ret_ib (HN.out H.out).symm H.out.symm, hnx⟩
                    | true =>
                      obtain ⟨q1, q2, q3⟩ := ok2_bd h2
                      by_cases hv : digVal p ≤ 59
                      · have HO : Hid (ok2 p = true) := Lib.hid (by rw [ok2, h2, decide_eq_true hv]; rfl)
                        have HNX := Lib.hid (HSn.out HO.out)
                        have HQ2 : Hid (k = 1 → pv d rest (1 + 1) = pv d rest 1 + 60 * digVal p) := Lib.hid (fun e => by
                          subst e
                          have h := HPE.out
                          rw [pv_2, List.getD_eq_getElem?_getD, h]; rfl)
                        have HQ3 : Hid (k = 2 → pv d rest (2 + 1) = pv d rest 2 + digVal p) := Lib.hid (fun e => by
                          subst e
                          have h := HPE.out
                          rw [pv_3, List.getD_eq_getElem?_getD, h]; rfl)
                        obtain ⟨x, hx⟩ : ∃ x, digVal p = x := ⟨_, rfl⟩
                        rw [hx] at q2 q3 hv HQ2 HQ3
                        have DVP := Lib.hid (And.intro q1 hx)
                        have H2 := Lib.hid h2
                        clear h2 hx q1
                        have hk12 : k = 1 ∨ k = 2 := by omega
                        rcases hk12 with rfl | rfl
                        · have HE := Lib.hid (HQ2.out rfl)
                          go_wp2_with fail
                          refine (rdig_22 p true _ H2).mono ?_
                          rintro e' w1 ⟨rfl, rfl⟩
                          go_wp2_with fail
                          refine (rval_to p x _ DVP).mono ?_
                          rintro e' w1 ⟨rfl, rfl⟩
                          go_wp2_with fail
                          refine (rval_to p x _ DVP).mono ?_
                          rintro e' w1 ⟨rfl, rfl⟩
                          go_wp2
                          go_round
                          case rel => exact ⟨2, by omega, by omega, rfl, by rw [HE.out], HNX⟩
                          case measure => simp [intOf]; try omega
                        · have HE := Lib.hid (HQ3.out rfl)
                          go_wp2_with fail
                          refine (rdig_22 p true _ H2).mono ?_
                          rintro e' w1 ⟨rfl, rfl⟩
                          go_wp2_with fail
                          refine (rval_to p x _ DVP).mono ?_
                          rintro e' w1 ⟨rfl, rfl⟩
                          go_wp2_with fail
                          refine (rval_to p x _ DVP).mono ?_
                          rintro e' w1 ⟨rfl, rfl⟩
                          go_wp2
                          go_round
                          case rel => exact ⟨3, by omega, by omega, rfl, by rw [HE.out], HNX⟩
                          case measure => simp [intOf]; try omega
                      · have H : Hid (clB L = false) := Lib.hid (HMem.out (by rw [ok2, decide_eq_false hv]; simp))
                        have hv2 : 59 < digVal p := by omega
                        obtain ⟨x, hx⟩ : ∃ x, digVal p = x := ⟨_, rfl⟩
                        rw [hx] at q2 q3 hv2
                        have DVP := Lib.hid (And.intro q1 hx)
                        have H2 := Lib.hid h2
                        clear h2 hx q1 hv
                        go_wp2_with fail
                        refine (rdig_22 p true _ H2).mono ?_
                        rintro e' w1 ⟨rfl, rfl⟩
                        go_wp2_with fail
                        refine (rval_to p x _ DVP).mono ?_
                        rintro e' w1 ⟨rfl, rfl⟩
                        go_wp2
                        go_ret2
                        exact ⟨ret_ib (HN.out H.out).symm H.out.symm, hnx⟩
                  · obtain rfl : k = rest.length + 1 := by omega
                    have HRB : Hid (readB D = true) := Lib.hid (by
                      have h := HA.out
                      rw [Nat.add_sub_cancel, List.take_length] at h
                      rw [HR1.out, h, HD.out, decide_eq_true hr]; rfl)
                    have HRV : Hid (readV D = pv d rest (rest.length + 1)) := Lib.hid (by rw [HR2.out HRB.out, pv_ref hr])
                    obtain ⟨x, hx⟩ : ∃ x, pv d rest (rest.length + 1) = x := ⟨_, rfl⟩
                    rw [hx] at v0 v1 HRV ⊢
                    clear hx
                    by_cases h3 : x ≤ 345600
                    · have H : Hid (clB L = true) := Lib.hid (by rw [HB.out, HRB.out, HRV.out, decide_eq_true h3]; rfl)
                      cases ng with
                      | true =>
                        obtain rfl : sg = -1 := SG.out.symm
                        have HW : Hid (clV L = -x) := Lib.hid (by rw [HV.out, if_pos H.out, if_pos rfl, HRV.out])
                        go_wp2
                        go_ret2
                        exact ⟨ret_ib HW.out.symm H.out.symm, hnx⟩
                      | false =>
                        obtain rfl : sg = 1 := SG.out.symm
                        have HW : Hid (clV L = x) := Lib.hid (by rw [HV.out, if_pos H.out, HRV.out]; rfl)
                        go_wp2
                        go_ret2
                        exact ⟨ret_ib HW.out.symm H.out.symm, hnx⟩
                    · have H : Hid (clB L = false) := Lib.hid (by rw [HB.out, HRV.out, decide_eq_false h3]; simp)
                      have h4 : 345600 < x := by omega
                      clear h3
                      go_wp2
                      go_ret2
                      exact ⟨ret_ib (HN.out H.out).symm H.out.symm, hnx⟩
            · have H : Hid (clB L = false) := Lib.hid (by rw [HB.out, HR1.out, decide_eq_false hr]; rfl)
              have hn3 : 3 < rest.length + 1 := by omega
              go_wp2
              go_ret2
              exact ⟨ret_ib (HN.out H.out).symm H.out.symm, hnx⟩
end Clk
end Go.Proofs.YthefgagmjamdkaaGreatDoor
/-
  Contracts of the reference's JoinDay and ClockText.
-/
namespace Go.Proofs.YthefgagmjamdkaaGreatDoor
open Go.RowKit
namespace Clk
open Sol
theorem in_to (n lo hi : Int) (b : Bool) (w : World) (h : Hid (decide (lo ≤ n ∧ n ≤ hi) = b)) :
    Calls Tryz.prog 70 #[.int .i64 n, .int .i64 lo, .int .i64 hi] w fun e w' => e = .returned (.bool b) ∧ w = w' :=
  (Civ.rin_any n lo hi w).mono fun _ _ ⟨he, hw⟩ => ⟨by rw [he, h.out], hw⟩
theorem text_01 {h : Int} (h0 : 0 ≤ h) : textL h 0 = textL h 1 := by
  rw [textL_in h0 (by decide) (by decide), textL_in h0 (by decide) (by decide)]
  have := decDigits_pos h.toNat
  rw [padL_short (by simp), padL_short (by show 1 ≤ _; omega)]
theorem rtext_to (n d : Int) (T : List UInt8) (w : World) (n1 : -9223372036854775808 ≤ n) (n2 : n ≤ 9223372036854775807) (d1 : -9223372036854775808 ≤ d) (d2 : d ≤ 9223372036854775807) (h : Hid (textL n d = T)) :
    Calls Tryz.prog 45 #[.int .i64 n, .int .i64 d] w fun e w' => e = .returned (.string ⟨T.toArray⟩) ∧ Below w.heap.size w w' :=
  (RNum.rtext_any n d w n1 n2 d1 d2).mono fun _ _ ⟨he, hw⟩ => ⟨by rw [he, h.out], hw⟩
theorem ct_body {m : Int} (h0 : 0 ≤ m) : ctL m = body m := by rw [ctL, if_neg (by omega)]
theorem ct_nbody {m : Int} (h0 : 0 < m) : ctL (-m) = 45 :: body m := by rw [ctL, if_pos (by omega), Int.neg_neg]
set_option maxRecDepth 100000 in
set_option maxHeartbeats 1600000 in
theorem rctext_pos (m : Int) (w : World) (h0 : 0 ≤ m) (h1 : m ≤ 345600) :
    Calls Tryz.prog 44 #[.int .i64 m] w fun e w' => e = .returned (.string ⟨(ctL m).toArray⟩) ∧ Below w.heap.size w w' := by
  have H := Lib.hid (ct_body h0)
  have hb : body m = textL (m / 3600) 1 ++ (if m % 3600 = 0 then [] else 58 :: textL (m / 60 % 60) 2) ++ (if m % 60 = 0 then [] else 58 :: textL (m % 60) 2) := rfl
  rw [← text_01 (h := m / 3600) (by omega)] at hb
  obtain ⟨T1, t1⟩ : ∃ T, textL (m / 3600) 0 = T := ⟨_, rfl⟩
  obtain ⟨T2, t2⟩ : ∃ T, textL (m / 60 % 60) 2 = T := ⟨_, rfl⟩
  obtain ⟨T3, t3⟩ : ∃ T, textL (m % 60) 2 = T := ⟨_, rfl⟩
  rw [t1, t2, t3] at hb
  have l1 : T1.length ≤ 2 := by rw [← t1, text_01 (by omega)]; exact (text1 (h := m / 3600) (by omega) (by omega)).2.2.1
  have l2 : T2.length ≤ 2 := by rw [← t2, (text2 (h := m / 60 % 60) (by omega) (by omega)).2.1]; exact Nat.le_refl _
  have l3 : T3.length ≤ 2 := by rw [← t3, (text2 (h := m % 60) (by omega) (by omega)).2.1]; exact Nat.le_refl _
  have Q1 := Lib.hid t1
  have Q2 := Lib.hid t2
  have Q3 := Lib.hid t3
  clear t1 t2 t3
  by_cases e1 : m % 3600 = 0
  · have e2 : m % 60 = 0 := by omega
    rw [if_pos e1, if_pos e2, List.append_nil, List.append_nil] at hb
    have HB := Lib.hid hb
    clear hb
    go_enter Tryz.func44, Tryz.ntmps44
    go_wp2_with fail
    refine (rtext_to _ _ T1 _ (by omega) (by omega) (by omega) (by omega) Q1).mono ?_
    rintro e w1 ⟨rfl, hb1⟩
    go_wp2
    go_ret
    exact ⟨ret_s (bytes_eq (by rw [H.out, HB.out]; simp)), hb1⟩
  · rw [if_neg e1] at hb
    have b1 : (m % 3600 != 0) = true := bne_iff_ne.2 e1
    by_cases e2 : m % 60 = 0
    · rw [if_pos e2, List.append_nil] at hb
      have HB := Lib.hid hb
      clear hb e1
      go_enter Tryz.func44, Tryz.ntmps44
      go_wp2_with fail
      refine (rtext_to _ _ T1 _ (by omega) (by omega) (by omega) (by omega) Q1).mono ?_
      rintro e w1 ⟨rfl, hb1⟩
      go_wp2_with fail
      refine (rtext_to _ _ T2 _ (by omega) (by omega) (by omega) (by omega) Q2).mono ?_
      rintro e w2 ⟨rfl, hb2⟩
      have hb12 := hb1.trans (hb2.mono hb1.size)
      go_wp2
      go_ret
      exact ⟨ret_s (bytes_eq (by rw [H.out, HB.out]; simp)), hb12⟩
    · rw [if_neg e2] at hb
      have b2 : (m % 60 != 0) = true := bne_iff_ne.2 e2
      have HB := Lib.hid hb
      clear hb e1 e2
      go_enter Tryz.func44, Tryz.ntmps44
      go_wp2_with fail
      refine (rtext_to _ _ T1 _ (by omega) (by omega) (by omega) (by omega) Q1).mono ?_
      rintro e w1 ⟨rfl, hb1⟩
      go_wp2_with fail
      refine (rtext_to _ _ T2 _ (by omega) (by omega) (by omega) (by omega) Q2).mono ?_
      rintro e w2 ⟨rfl, hb2⟩
      have hb12 := hb1.trans (hb2.mono hb1.size)
      go_wp2_with fail
      refine (rtext_to _ _ T3 _ (by omega) (by omega) (by omega) (by omega) Q3).mono ?_
      rintro e w3 ⟨rfl, hb3⟩
      have hb13 := hb12.trans (hb3.mono hb12.size)
      go_wp2
      go_ret
      exact ⟨ret_s (bytes_eq (by rw [H.out, HB.out]; simp)), hb13⟩
set_option maxRecDepth 100000 in
set_option maxHeartbeats 1600000 in
theorem rctext_neg (m : Int) (w : World) (h0 : 0 < m) (h1 : m ≤ 345600) :
    Calls Tryz.prog 44 #[.int .i64 (-m)] w fun e w' => e = .returned (.string ⟨(ctL (-m)).toArray⟩) ∧ Below w.heap.size w w' := by
  have H := Lib.hid (ct_nbody h0)
  have hb : body m = textL (m / 3600) 1 ++ (if m % 3600 = 0 then [] else 58 :: textL (m / 60 % 60) 2) ++ (if m % 60 = 0 then [] else 58 :: textL (m % 60) 2) := rfl
  rw [← text_01 (h := m / 3600) (by omega)] at hb
  obtain ⟨T1, t1⟩ : ∃ T, textL (m / 3600) 0 = T := ⟨_, rfl⟩
  obtain ⟨T2, t2⟩ : ∃ T, textL (m / 60 % 60) 2 = T := ⟨_, rfl⟩
  obtain ⟨T3, t3⟩ : ∃ T, textL (m % 60) 2 = T := ⟨_, rfl⟩
  rw [t1, t2, t3] at hb
  have l1 : T1.length ≤ 2 := by rw [← t1, text_01 (by omega)]; exact (text1 (h := m / 3600) (by omega) (by omega)).2.2.1
  have l2 : T2.length ≤ 2 := by rw [← t2, (text2 (h := m / 60 % 60) (by omega) (by omega)).2.1]; exact Nat.le_refl _
  have l3 : T3.length ≤ 2 := by rw [← t3, (text2 (h := m % 60) (by omega) (by omega)).2.1]; exact Nat.le_refl _
  have Q1 := Lib.hid t1
  have Q2 := Lib.hid t2
  have Q3 := Lib.hid t3
  clear t1 t2 t3
  by_cases e1 : m % 3600 = 0
  · have e2 : m % 60 = 0 := by omega
    rw [if_pos e1, if_pos e2, List.append_nil, List.append_nil] at hb
    have HB := Lib.hid hb
    clear hb
    go_enter Tryz.func44, Tryz.ntmps44
    go_wp2_with fail
    refine (rtext_to _ _ T1 _ (by omega) (by omega) (by omega) (by omega) Q1).mono ?_
    rintro e w1 ⟨rfl, hb1⟩
    go_wp2
    go_ret
    exact ⟨ret_s (bytes_eq (by rw [H.out, HB.out]; simp)), hb1⟩
  · rw [if_neg e1] at hb
    have b1 : (m % 3600 != 0) = true := bne_iff_ne.2 e1
    by_cases e2 : m % 60 = 0
    · rw [if_pos e2, List.append_nil] at hb
      have HB := Lib.hid hb
      clear hb e1
      go_enter Tryz.func44, Tryz.ntmps44
      go_wp2_with fail
      refine (rtext_to _ _ T1 _ (by omega) (by omega) (by omega) (by omega) Q1).mono ?_
      rintro e w1 ⟨rfl, hb1⟩
      go_wp2_with fail
      refine (rtext_to _ _ T2 _ (by omega) (by omega) (by omega) (by omega) Q2).mono ?_
      rintro e w2 ⟨rfl, hb2⟩
      have hb12 := hb1.trans (hb2.mono hb1.size)
      go_wp2
      go_ret
      exact ⟨ret_s (bytes_eq (by rw [H.out, HB.out]; simp)), hb12⟩
    · rw [if_neg e2] at hb
      have b2 : (m % 60 != 0) = true := bne_iff_ne.2 e2
      have HB := Lib.hid hb
      clear hb e1 e2
      go_enter Tryz.func44, Tryz.ntmps44
      go_wp2_with fail
      refine (rtext_to _ _ T1 _ (by omega) (by omega) (by omega) (by omega) Q1).mono ?_
      rintro e w1 ⟨rfl, hb1⟩
      go_wp2_with fail
      refine (rtext_to _ _ T2 _ (by omega) (by omega) (by omega) (by omega) Q2).mono ?_
      rintro e w2 ⟨rfl, hb2⟩
      have hb12 := hb1.trans (hb2.mono hb1.size)
      go_wp2_with fail
      refine (rtext_to _ _ T3 _ (by omega) (by omega) (by omega) (by omega) Q3).mono ?_
      rintro e w3 ⟨rfl, hb3⟩
      have hb13 := hb12.trans (hb3.mono hb12.size)
      go_wp2
      go_ret
      exact ⟨ret_s (bytes_eq (by rw [H.out, HB.out]; simp)), hb13⟩
theorem rctext_to (n : Int) (T : List UInt8) (w : World) (h0 : -345600 ≤ n) (h1 : n ≤ 345600) (h : Hid (ctL n = T)) :
    Calls Tryz.prog 44 #[.int .i64 n] w fun e w' => e = .returned (.string ⟨T.toArray⟩) ∧ Below w.heap.size w w' := by
  have M : Calls Tryz.prog 44 #[.int .i64 n] w fun e w' => e = .returned (.string ⟨(ctL n).toArray⟩) ∧ Below w.heap.size w w' := by
    by_cases h3 : n < 0
    · obtain ⟨m, rfl⟩ : ∃ m, n = -m := ⟨-n, by omega⟩
      exact rctext_neg m w (by omega) (by omega)
    · exact rctext_pos n w (by omega) (by omega)
  rw [h.out] at M
  exact M
end Clk
end Go.Proofs.YthefgagmjamdkaaGreatDoor
/-
  Contracts of the reference's calls on forms of a time: small, AtForm, Utc, At.
-/
namespace Go.Proofs.YthefgagmjamdkaaGreatDoor
open Go.RowKit
namespace Atf
open Sol Clk
def smI (c : UInt8) : Int := if 65 ≤ (c.toNat : Int) ∧ (c.toNat : Int) ≤ 90 then (c.toNat : Int) + 32 else (c.toNat : Int)
theorem ret_u8 {a a' : Int} (h : a = a') : Ending.returned (.int .u8 a) = .returned (.int .u8 a') := by rw [h]
theorem small_to (c : UInt8) (v : Int) (w : World) (h : Hid (smI c = v)) :
    Calls Tryz.prog 62 #[.int .u8 (c.toNat : Int)] w fun e w' => e = .returned (.int .u8 v) ∧ w = w' := by
  have hb := c.toNat_lt
  by_cases h1 : 65 ≤ (c.toNat : Int)
  · by_cases h2 : (c.toNat : Int) ≤ 90
    · have H : Hid (v = (c.toNat : Int) + 32) := Lib.hid (by rw [← h.out, smI, if_pos ⟨h1, h2⟩])
      go_enter Tryz.func62, Tryz.ntmps62
      go_wp2
      go_ret
      exact ⟨ret_u8 H.out.symm, rfl⟩
    · have H : Hid (v = (c.toNat : Int)) := Lib.hid (by rw [← h.out, smI, if_neg (fun x => h2 x.2)])
      go_enter Tryz.func62, Tryz.ntmps62
      go_wp2
      go_ret
      exact ⟨ret_u8 H.out.symm, rfl⟩
  · have H : Hid (v = (c.toNat : Int)) := Lib.hid (by rw [← h.out, smI, if_neg (fun x => h1 x.1)])
    go_enter Tryz.func62, Tryz.ntmps62
    go_wp2
    go_ret
    exact ⟨ret_u8 H.out.symm, rfl⟩
theorem sm_yes {c : UInt8} (h : ltB c = true) : (smI c = 119 ∧ ltV c = 1) ∨ (smI c = 115 ∧ ltV c = 2) ∨ (smI c = 117 ∧ ltV c = 3) ∨ (smI c = 103 ∧ ltV c = 3) ∨ (smI c = 122 ∧ ltV c = 3) := by
  have hc : c = 119 ∨ c = 87 ∨ c = 115 ∨ c = 83 ∨ c = 117 ∨ c = 85 ∨ c = 103 ∨ c = 71 ∨ c = 122 ∨ c = 90 := of_decide_eq_true h
  rcases hc with rfl | rfl | rfl | rfl | rfl | rfl | rfl | rfl | rfl | rfl <;> decide
theorem sm_no {c : UInt8} (h : ltB c = false) : (smI c ≠ 119 ∧ smI c ≠ 115 ∧ smI c ≠ 117 ∧ smI c ≠ 103 ∧ smI c ≠ 122) ∧ ltV c = 1 := by
  have hn : ¬ (c = 119 ∨ c = 87 ∨ c = 115 ∨ c = 83 ∨ c = 117 ∨ c = 85 ∨ c = 103 ∨ c = 71 ∨ c = 122 ∨ c = 90) := of_decide_eq_false h
  have key : ∀ k : UInt8, c ≠ k → (c.toNat : Int) ≠ (k.toNat : Int) := fun k hk e => hk (UInt8.toNat_inj.1 (by omega))
  have a1 : (c.toNat : Int) ≠ 119 := key 119 (fun e => hn (by simp [e]))
  have a2 : (c.toNat : Int) ≠ 87 := key 87 (fun e => hn (by simp [e]))
  have a3 : (c.toNat : Int) ≠ 115 := key 115 (fun e => hn (by simp [e]))
  have a4 : (c.toNat : Int) ≠ 83 := key 83 (fun e => hn (by simp [e]))
  have a5 : (c.toNat : Int) ≠ 117 := key 117 (fun e => hn (by simp [e]))
  have a6 : (c.toNat : Int) ≠ 85 := key 85 (fun e => hn (by simp [e]))
  have a7 : (c.toNat : Int) ≠ 103 := key 103 (fun e => hn (by simp [e]))
  have a8 : (c.toNat : Int) ≠ 71 := key 71 (fun e => hn (by simp [e]))
  have a9 : (c.toNat : Int) ≠ 122 := key 122 (fun e => hn (by simp [e]))
  have a10 : (c.toNat : Int) ≠ 90 := key 90 (fun e => hn (by simp [e]))
  refine ⟨?_, ?_⟩
  · unfold smI
    split <;> omega
  · rw [ltV, if_neg (fun e => hn (by rcases e with e | e <;> simp [e])), if_neg (fun e => hn (by rcases e with e | e <;> simp [e])), if_neg (fun e => hn (by rcases e with e | e | e | e | e | e <;> simp [e]))]
theorem ret_ab {a a' b b' : Int} {c c' : Bool} (h : a = a') (h2 : b = b') (h3 : c = c') : Ending.returned (.tuple #[.agg #[.int .i64 a, .int .i64 b], .bool c]) = .returned (.tuple #[.agg #[.int .i64 a', .int .i64 b'], .bool c']) := by rw [h, h2, h3]
theorem rclock_l (s : ByteArray) (L : List UInt8) (v : Int) (b : Bool) (w : World) (hl : L.length ≤ 1000) (hL : Hid (s.data.toList = L)) (h : Hid (clV L = v ∧ clB L = b)) :
    Calls Tryz.prog 26 #[.string s] w fun e w' => e = .returned (.tuple #[.int .i64 v, .bool b]) ∧ Below w.heap.size w w' :=
  (rclock_any s L w (by rw [Lib.size_eq, hL.out]; exact hl) hL).mono fun _ _ ⟨he, hw⟩ => ⟨by rw [he, h.out.1, h.out.2], hw⟩

set_option maxRecDepth 100000 in
set_option maxHeartbeats 3200000 in
theorem rat_any (s : ByteArray) (L : List UInt8) (w : World) (hs : s.size ≤ 1000) (hL : Hid (s.data.toList = L)) :
    Calls Tryz.prog 31 #[.string s] w fun e w' => e = .returned (.tuple #[.agg #[.int .i64 (apV L), .int .i64 (apKk L)], .bool (clB (apL L))]) ∧ Below w.heap.size w w' := by
  have hl := Lib.size_eq s
  rw [hL.out] at hl
  have HV : Hid (apV L = if clB (apL L) then clV (apL L) else 0) := Lib.hid rfl
  have HKk : Hid (apKk L = if clB (apL L) then apK L else 0) := Lib.hid rfl
  have hsn : (s.size = 0 ∧ apL L = L ∧ apK L = 1) ∨ ∃ (k : Nat) (c : UInt8) (l : List UInt8), s.size = k + 1 ∧ (∃ h : k < s.size, s[k] = c) ∧ s.extract 0 k = ⟨l.toArray⟩ ∧ apL L = (if ltB c then l else L) ∧ apK L = ltV c := by
    by_cases h0 : s.size = 0
    · left
      have : L = [] := by rw [← List.length_eq_zero_iff, ← hl]; exact h0
      subst this
      exact ⟨h0, rfl, rfl⟩
    · right
      obtain ⟨k, hk⟩ : ∃ k, s.size = k + 1 := ⟨s.size - 1, by omega⟩
      obtain ⟨h, l, e1, e2⟩ := last_str hL.out hk
      obtain ⟨p1, p2⟩ := ap_snoc l s[k]
      rw [← e1] at p1 p2
      exact ⟨k, s[k], l, hk, ⟨h, rfl⟩, e2, p1, p2⟩
  have hal : (apL L).length ≤ 1000 := by
    rcases hsn with ⟨_, h, _⟩ | ⟨k, c, l, hk, _, he, h, _⟩
    · rw [h]; omega
    · rw [h]
      split
      · have h2 : (s.extract 0 k).size = l.length := by rw [he]; rfl
        simp at h2; omega
      · omega
  obtain ⟨B, hB⟩ : ∃ B, apL L = B := ⟨_, rfl⟩
  obtain ⟨K, hK⟩ : ∃ K, apK L = K := ⟨_, rfl⟩
  rw [hB] at HV HKk hsn hal ⊢
  rw [hK] at HKk hsn
  clear hB hK
  obtain ⟨v, hv⟩ : ∃ x, clV B = x := ⟨_, rfl⟩
  have HN := Lib.hid (fun h => cl_no (l := B) h)
  obtain ⟨cb, hcb⟩ : ∃ x, clB B = x := ⟨_, rfl⟩
  have PB := Lib.hid (And.intro hv hcb)
  rw [hcb] at HV HKk HN ⊢
  rw [hv] at HV HN
  have HL := Lib.hid hl
  clear hl hv hcb
  go_enter Tryz.func31, Tryz.ntmps31
  go_upto_if 10 with fail
  go_cut [4, 0] (fun x y wx => x = .int .i64 K ∧ y = .string ⟨B.toArray⟩ ∧ w.alloc (Obj.cells #[.int .i64 0, .int .i64 0] 28) = wx)
  case first =>
    rcases hsn with ⟨h0, rfl, rfl⟩ | ⟨k, ch, l, hk, ⟨hlt, hch⟩, he, h1, h2⟩
    · have HS : Hid (s = ⟨B.toArray⟩) := Lib.hid (by rw [← hL.out, Lib.mk_data])
      go_wp2
      go_meet
      exact ⟨rfl, congrArg Value.string HS.out, rfl⟩
    · have hz : 0 < s.size := by omega
      have e1 : (s.size : Int) - 1 = (k : Int) := by omega
      have k0 : k ≤ 1000 := by omega
      have k1 : k ≤ s.size := by omega
      cases hlb : ltB ch with
      | true =>
        rw [hlb, if_pos rfl] at h1
        have HHE : Hid (s.extract 0 k = ⟨B.toArray⟩) := Lib.hid (by rw [h1]; exact he)
        have hsm := sm_yes hlb
        rw [← h2] at hsm
        obtain ⟨sv, hsv⟩ : ∃ x, smI ch = x := ⟨_, rfl⟩
        rw [hsv] at hsm
        have HSV := Lib.hid hsv
        clear he hk h1 h2 hlb hsv
        subst hch
        rcases hsm with ⟨rfl, rfl⟩ | ⟨rfl, rfl⟩ | ⟨rfl, rfl⟩ | ⟨rfl, rfl⟩ | ⟨rfl, rfl⟩
        all_goals
          go_wp2_with fail
          refine (small_to _ _ _ HSV).mono ?_
          rintro e w1 ⟨rfl, rfl⟩
          go_wp2
          go_meet
          exact ⟨rfl, congrArg Value.string HHE.out, rfl⟩
      | false =>
        rw [hlb, if_neg (by decide)] at h1
        have HS : Hid (s = ⟨B.toArray⟩) := Lib.hid (by rw [h1, ← hL.out, Lib.mk_data])
        obtain ⟨⟨n1, n2, n3, n4, n5⟩, hsm⟩ := sm_no hlb
        rw [← h2] at hsm
        obtain ⟨sv, hsv⟩ : ∃ x, smI ch = x := ⟨_, rfl⟩
        rw [hsv] at n1 n2 n3 n4 n5
        have HSV := Lib.hid hsv
        have d1 : (sv == 119) = false := beq_eq_false_iff_ne.2 n1
        have d2 : (sv == 115) = false := beq_eq_false_iff_ne.2 n2
        have d3 : (sv == 117) = false := beq_eq_false_iff_ne.2 n3
        have d4 : (sv == 103) = false := beq_eq_false_iff_ne.2 n4
        have d5 : (sv == 122) = false := beq_eq_false_iff_ne.2 n5
        clear he hk h1 h2 hlb hsv n1 n2 n3 n4 n5
        subst hch hsm
        go_wp2_with fail
        refine (small_to _ _ _ HSV).mono ?_
        rintro e w1 ⟨rfl, rfl⟩
        go_wp2
        go_meet
        exact ⟨rfl, congrArg Value.string HS.out, rfl⟩
  case rest =>
  obtain ⟨rfl, rfl, hwc⟩ := hcut
  subst hwc
  clear hsn
  go_wp2_with fail
  refine (rclock_l _ B v cb _ hal (Lib.hid rfl) PB).mono ?_
  rintro e w1 ⟨rfl, hb⟩
  have hb0 : Below w.heap.size w w1 := ((Below.refl _ _).alloc (Nat.le_refl _) _).trans (hb.mono (by simp))
  have hz := hb.size
  simp at hz
  have c0 : w1.cell? ⟨w.heap.size, 0, none⟩ = some (.int .i64 0) := (hb.cell (p := ⟨w.heap.size, 0, none⟩) (by simp)).trans (by go_simp)
  have c1 : w1.cell? ⟨w.heap.size, 1, none⟩ = some (.int .i64 0) := (hb.cell (p := ⟨w.heap.size, 1, none⟩) (by simp)).trans (by go_simp)
  have e0 : w1.frozen? ⟨w.heap.size, 0, none⟩ = false := (hb.frozen (p := ⟨w.heap.size, 0, none⟩) (by simp)).trans (by go_simp)
  have e1 : w1.frozen? ⟨w.heap.size, 1, none⟩ = false := (hb.frozen (p := ⟨w.heap.size, 1, none⟩) (by simp)).trans (by go_simp)
  clear hb
  cases cb with
  | false =>
    go_wp2
    exact bodyPost_ret (v := .tuple #[.agg #[.int .i64 0, .int .i64 0], .bool false]) (by simp [results, Tryz.results31, go_sem, c0, c1]) rfl ⟨ret_ab HV.out.symm HKk.out.symm rfl, (hb0.setCell (by simp) _).setCell (by simp) _⟩
  | true =>
    go_wp2
    exact bodyPost_ret (v := .tuple #[.agg #[.int .i64 v, .int .i64 K], .bool true]) (by simp [results, Tryz.results31, go_sem, c0, c1]) rfl ⟨ret_ab HV.out.symm HKk.out.symm rfl, (hb0.setCell (by simp) _).setCell (by simp) _⟩
theorem rat_to (s : ByteArray) (L : List UInt8) (v k : Int) (b : Bool) (w : World) (hl : L.length ≤ 1000) (hL : Hid (s.data.toList = L)) (h : Hid (apV L = v ∧ apKk L = k ∧ clB (apL L) = b)) :
    Calls Tryz.prog 31 #[.string s] w fun e w' => e = .returned (.tuple #[.agg #[.int .i64 v, .int .i64 k], .bool b]) ∧ Below w.heap.size w w' :=
  (rat_any s L w (by rw [Lib.size_eq, hL.out]; exact hl) hL).mono fun _ _ ⟨he, hw⟩ => ⟨by rw [he, h.out.1, h.out.2.1, h.out.2.2], hw⟩

set_option maxHeartbeats 800000 in
theorem rAt_to (n k : Int) (b : Bool) (w : World) (h : Hid (atOk n k = b)) :
    Calls Tryz.prog 41 #[.agg #[.int .i64 n, .int .i64 k]] w fun e w' => e = .returned (.bool b) ∧ w.alloc (Obj.cells #[.int .i64 n, .int .i64 k] 28) = w' := by
  have HO : Hid (b = (inS n && isK k)) := Lib.hid h.out.symm
  have D1 : Hid (decide (-345600 ≤ n ∧ n ≤ 345600) = inS n) := Lib.hid rfl
  have D2 : Hid (decide (1 ≤ k ∧ k ≤ 3) = isK k) := Lib.hid rfl
  cases h1 : inS n with
  | false =>
    rw [h1] at D1
    have H : Hid (b = false) := Lib.hid (by rw [HO.out, h1]; rfl)
    clear h1
    go_enter Tryz.func41, Tryz.ntmps41
    go_wp2_with fail
    refine (in_to _ _ _ _ _ D1).mono ?_
    rintro e w1 ⟨rfl, rfl⟩
    go_wp2
    go_ret
    exact ⟨ret_b H.out.symm, rfl⟩
  | true =>
    rw [h1] at D1
    have H : Hid (b = isK k) := Lib.hid (by rw [HO.out, h1]; rfl)
    clear h1
    go_enter Tryz.func41, Tryz.ntmps41
    go_wp2_with fail
    refine (in_to _ _ _ _ _ D1).mono ?_
    rintro e w1 ⟨rfl, rfl⟩
    go_wp2_with fail
    refine (in_to _ _ _ _ _ D2).mono ?_
    rintro e w1 ⟨rfl, rfl⟩
    go_wp2
    go_ret
    exact ⟨ret_b H.out.symm, rfl⟩
end Atf
end Go.Proofs.YthefgagmjamdkaaGreatDoor
