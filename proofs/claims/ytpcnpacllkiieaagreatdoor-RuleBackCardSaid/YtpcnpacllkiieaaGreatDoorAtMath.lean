/-
  Plain facts on forms of a time: what a text says, the text of a form, and that one is the other's.
-/
import Derived.Test.YtpcnpacllkiieaaGreatDoorClkForms
import Derived.Test.YtpcnpacllkiieaaGreatDoorNumD
namespace Go.Proofs.YtpcnpacllkiieaaGreatDoor
namespace Atf
open Sol Clk
def ltV (c : UInt8) : Int := if c = 119 ∨ c = 87 then 1 else if c = 115 ∨ c = 83 then 2 else if c = 117 ∨ c = 85 ∨ c = 103 ∨ c = 71 ∨ c = 122 ∨ c = 90 then 3 else 1
def ltB (c : UInt8) : Bool := decide (c = 119 ∨ c = 87 ∨ c = 115 ∨ c = 83 ∨ c = 117 ∨ c = 85 ∨ c = 103 ∨ c = 71 ∨ c = 122 ∨ c = 90)
/-- What stands ahead of the letter, if there is one; the kind. -/
def apL (l : List UInt8) : List UInt8 := match l.getLast? with | some c => if ltB c then l.dropLast else l | none => l
def apK (l : List UInt8) : Int := match l.getLast? with | some c => ltV c | none => 1
def apV (l : List UInt8) : Int := if clB (apL l) then clV (apL l) else 0
def apKk (l : List UInt8) : Int := if clB (apL l) then apK l else 0
def apE (l : List UInt8) : Int := if clB (apL l) then 0 else 9
def isK (k : Int) : Bool := decide (1 ≤ k ∧ k ≤ 3)
def inS (n : Int) : Bool := decide (-345600 ≤ n ∧ n ≤ 345600)
def atOk (secs k : Int) : Bool := inS secs && isK k
def atE (secs k : Int) : Int := if atOk secs k then 0 else 9
def suf (k : Int) : List UInt8 := if k = 2 then [115] else if k = 3 then [117] else []
def atT (secs k : Int) : List UInt8 := if atOk secs k then ctL secs ++ suf k else []
def utB (l k d s : Int) : Bool := isK k && inB l && inS d && inS s
def utV (l k d s : Int) : Int := if utB l k d s then (if k = 1 then l - d - s else if k = 2 then l - d else l) else 0

theorem ap_snoc (l : List UInt8) (c : UInt8) : apL (l ++ [c]) = (if ltB c then l else l ++ [c]) ∧ apK (l ++ [c]) = ltV c := by
  simp [apL, apK]
theorem ap_nil : apL [] = [] ∧ apK [] = 1 := ⟨rfl, rfl⟩
theorem ltB_dig {c : UInt8} (h : isDig c = true) : ltB c = false ∧ ltV c = 1 := by
  have h1 := (isDig_iff c).1 h
  have key : ∀ k : UInt8, 57 < (k.toNat : Int) → c ≠ k := fun k hk e => by rw [e] at h1; omega
  refine ⟨decide_eq_false ?_, ?_⟩
  · rintro (e | e | e | e | e | e | e | e | e | e) <;> exact key _ (by decide) e
  · rw [ltV, if_neg, if_neg, if_neg]
    · rintro (e | e | e | e | e | e) <;> exact key _ (by decide) e
    · rintro (e | e) <;> exact key _ (by decide) e
    · rintro (e | e) <;> exact key _ (by decide) e
theorem last_dig {a : List UInt8} (h : a.all isDig = true) (hl : 1 ≤ a.length) : ∃ x d, a = x ++ [d] ∧ isDig d = true := by
  have hne : a ≠ [] := fun e => by rw [e] at hl; simp at hl
  refine ⟨a.dropLast, a.getLast hne, (List.dropLast_concat_getLast hne).symm, List.all_eq_true.1 h _ (List.getLast_mem hne)⟩
theorem body_last {m : Int} (h0 : 0 ≤ m) (h1 : m ≤ 345600) : ∃ x d, body m = x ++ [d] ∧ isDig d = true := by
  obtain ⟨a1, a2, a3, a4⟩ := text1 (h := m / 3600) (by omega) (by omega)
  obtain ⟨b1, b2, b3⟩ := text2 (h := m / 60 % 60) (by omega) (by omega)
  obtain ⟨c1, c2, c3⟩ := text2 (h := m % 60) (by omega) (by omega)
  unfold body
  by_cases e2 : m % 60 = 0
  · rw [if_pos e2, List.append_nil]
    by_cases e1 : m % 3600 = 0
    · rw [if_pos e1, List.append_nil]
      exact last_dig a1 a2
    · obtain ⟨x, d, e, hd⟩ := last_dig b1 (by omega)
      rw [if_neg e1, e]
      exact ⟨textL (m / 3600) 1 ++ 58 :: x, d, by simp, hd⟩
  · obtain ⟨x, d, e, hd⟩ := last_dig c1 (by omega)
    rw [if_neg e2, e]
    exact ⟨(textL (m / 3600) 1 ++ (if m % 3600 = 0 then [] else 58 :: textL (m / 60 % 60) 2)) ++ 58 :: x, d, by simp, hd⟩
theorem ct_last {n : Int} (h0 : -345600 ≤ n) (h1 : n ≤ 345600) : ∃ x d, ctL n = x ++ [d] ∧ isDig d = true := by
  unfold ctL
  by_cases hn : n < 0
  · obtain ⟨x, d, e, hd⟩ := body_last (m := -n) (by omega) (by omega)
    rw [if_pos hn, e]
    exact ⟨45 :: x, d, rfl, hd⟩
  · rw [if_neg hn]
    exact body_last (by omega) h1
theorem ct_len {n : Int} (h0 : -345600 ≤ n) (h1 : n ≤ 345600) : (ctL n).length ≤ 9 := by
  unfold ctL
  split
  · have := body_len (m := -n) (by omega) (by omega); simp; omega
  · have := body_len (m := n) (by omega) (by omega); omega
/-- What a form's seconds with a letter behind say. -/
theorem ap_ct {n : Int} (h0 : -345600 ≤ n) (h1 : n ≤ 345600) : (apV (ctL n) = n ∧ apKk (ctL n) = 1 ∧ apE (ctL n) = 0) ∧ ∀ c, ltB c = true → apV (ctL n ++ [c]) = n ∧ apKk (ctL n ++ [c]) = ltV c ∧ apE (ctL n ++ [c]) = 0 := by
  obtain ⟨x, d, e, hd⟩ := ct_last h0 h1
  obtain ⟨c1, c2⟩ := cl_ct h0 h1
  obtain ⟨l1, l2⟩ := ltB_dig hd
  have hs := ap_snoc x d
  rw [← e, l1, l2] at hs
  have hL : apL (ctL n) = ctL n := hs.1
  refine ⟨⟨by rw [apV, hL, if_pos c1, c2], by rw [apKk, hL, if_pos c1, hs.2], by rw [apE, hL, if_pos c1]⟩, fun c hc => ?_⟩
  obtain ⟨k1, k2⟩ := ap_snoc (ctL n) c
  rw [hc] at k1
  have hL2 : apL (ctL n ++ [c]) = ctL n := k1
  exact ⟨by rw [apV, hL2, if_pos c1, c2], by rw [apKk, hL2, if_pos c1, k2], by rw [apE, hL2, if_pos c1]⟩
theorem atOk_mk {n k : Int} (h : -345600 ≤ n ∧ n ≤ 345600) (hk : 1 ≤ k ∧ k ≤ 3) : atOk n k = true := by
  rw [atOk, inS, isK, decide_eq_true h, decide_eq_true hk]; rfl
theorem at_back {n k : Int} (h : -345600 ≤ n ∧ n ≤ 345600) (hk : 1 ≤ k ∧ k ≤ 3) : atE n k = 0 ∧ atT n k = ctL n ++ suf k ∧ apV (ctL n ++ suf k) = n ∧ apKk (ctL n ++ suf k) = k ∧ apE (ctL n ++ suf k) = 0 := by
  have ho := atOk_mk h hk
  obtain ⟨⟨a1, a2, a3⟩, a4⟩ := ap_ct h.1 h.2
  refine ⟨by rw [atE, if_pos ho], by rw [atT, if_pos ho], ?_⟩
  have : k = 1 ∨ k = 2 ∨ k = 3 := by omega
  rcases this with rfl | rfl | rfl
  · rw [show suf 1 = [] from rfl, List.append_nil]; exact ⟨a1, a2, a3⟩
  · exact a4 115 (by decide)
  · exact a4 117 (by decide)
theorem utB_mk {l k d s : Int} (h1 : 1 ≤ k ∧ k ≤ 3) (h2 : -4611686018427387904 ≤ l ∧ l ≤ 4611686018427387904) (h3 : -345600 ≤ d ∧ d ≤ 345600) (h4 : -345600 ≤ s ∧ s ≤ 345600) : utB l k d s = true := by
  rw [utB, isK, decide_eq_true h1, (inB_iff l).2 h2, inS, decide_eq_true h3, inS, decide_eq_true h4]; rfl
end Atf
end Go.Proofs.YtpcnpacllkiieaaGreatDoor
