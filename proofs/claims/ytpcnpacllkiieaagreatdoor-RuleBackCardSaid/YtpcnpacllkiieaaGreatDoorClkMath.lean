/-
  Plain facts on times of a day: what a text says, the text of seconds, and that one is the other's.
-/
import Derived.Test.YtpcnpacllkiieaaGreatDoorMath1
import Derived.Lib.IndexLaws
import Derived.Lib.Strings
namespace Go.Proofs.YtpcnpacllkiieaaGreatDoor
namespace Clk
open Sol
def hdL (l : List UInt8) : List UInt8 := l.takeWhile (fun c => c != 58)
def tlL (l : List UInt8) : List UInt8 := l.dropWhile (fun c => c != 58)
def sixS (l : List UInt8) : List UInt8 := (l.drop 1).take 2
def sixB (l : List UInt8) : Bool := l.isEmpty || (decide (3 ≤ l.length) && (l.head? == some 58) && parseB (sixS l) && decide (parseV (sixS l) < 60))
def sixV (l : List UInt8) : Int := parseV (sixS l)
def sixR (l : List UInt8) : List UInt8 := l.drop 3
def readB (l : List UInt8) : Bool := parseB (hdL l) && decide ((hdL l).length ≤ 3) && sixB (tlL l) && sixB (sixR (tlL l)) && (sixR (sixR (tlL l))).isEmpty
def readV (l : List UInt8) : Int := if readB l then parseV (hdL l) * 3600 + sixV (tlL l) * 60 + sixV (sixR (tlL l)) else 0
def neg (l : List UInt8) : Bool := Lib.hasPrefix l [45]
def dg (l : List UInt8) : List UInt8 := Lib.trimPrefix l [45]
def clB (l : List UInt8) : Bool := decide (l = [45]) || (readB (dg l) && decide (readV (dg l) ≤ 345600))
def clV (l : List UInt8) : Int := if l = [45] then 0 else if clB l then (if neg l then -readV (dg l) else readV (dg l)) else 0
def clE (l : List UInt8) : Int := if clB l then 0 else 5
/-- The text of seconds. -/
def body (m : Int) : List UInt8 := textL (m / 3600) 1 ++ (if m % 3600 = 0 then [] else 58 :: textL (m / 60 % 60) 2) ++ (if m % 60 = 0 then [] else 58 :: textL (m % 60) 2)
def ctL (n : Int) : List UInt8 := if n < 0 then 45 :: body (-n) else body n

theorem hd_tl (l : List UInt8) : hdL l ++ tlL l = l := List.takeWhile_append_dropWhile ..
theorem idx_hd : ∀ l : List UInt8, (Lib.indexByte l 58 < 0 ∧ hdL l = l ∧ tlL l = []) ∨ (Lib.indexByte l 58 = ((hdL l).length : Int) ∧ (tlL l).head? = some 58)
  | [] => Or.inl ⟨by decide, rfl, rfl⟩
  | b :: l => by
    by_cases h : b = 58
    · subst h
      exact Or.inr ⟨by simp [Lib.indexByte, hdL], by simp [tlL, List.dropWhile]⟩
    · have hb : (b == 58) = false := beq_eq_false_iff_ne.2 h
      have hn : (b != 58) = true := by simp [bne, hb]
      have h1 : hdL (b :: l) = b :: hdL l := by simp only [hdL, List.takeWhile_cons, hn, if_true]
      have h2 : tlL (b :: l) = tlL l := by simp only [tlL, List.dropWhile_cons, hn, if_true]
      have hi : Lib.indexByte (b :: l) 58 = if Lib.indexByte l 58 == -1 then -1 else Lib.indexByte l 58 + 1 := by
        rw [Lib.indexByte, hb]; rfl
      have hg := Lib.indexByte_ge l 58
      rw [h1, h2, hi]
      rcases idx_hd l with ⟨a, b, c⟩ | ⟨a, b⟩
      · have e : Lib.indexByte l 58 = -1 := by omega
        rw [e]
        exact Or.inl ⟨by decide, by rw [b], c⟩
      · have e : (Lib.indexByte l 58 == -1) = false := beq_eq_false_iff_ne.2 (by omega)
        rw [e]
        exact Or.inr ⟨by rw [if_neg (by decide), a, List.length_cons]; omega, b⟩
theorem hd_of {a b : List UInt8} (h : ∀ x ∈ a, x ≠ 58) : hdL (a ++ 58 :: b) = a ∧ tlL (a ++ 58 :: b) = 58 :: b := by
  constructor
  · rw [hdL, List.takeWhile_append_of_pos (by intro x hx; simpa using h x hx)]; simp
  · rw [tlL, List.dropWhile_append_of_pos (by intro x hx; simpa using h x hx)]; simp
theorem hd_all : ∀ {a : List UInt8}, (∀ x ∈ a, x ≠ 58) → hdL a = a ∧ tlL a = []
  | [], _ => ⟨rfl, rfl⟩
  | c :: a, h => by
    have hc : (c != 58) = true := by simpa using h c (by simp)
    obtain ⟨p, q⟩ := hd_all (a := a) fun x hx => h x (by simp [hx])
    exact ⟨by rw [hdL, List.takeWhile_cons, if_pos hc]; exact congrArg _ p, by rw [tlL, List.dropWhile_cons, if_pos hc]; exact q⟩
theorem dig_ne {c : UInt8} (h : isDig c = true) (k : UInt8) (hk : isDig k = false) : c ≠ k := fun e => by rw [e, hk] at h; cases h
theorem digs_ne {a : List UInt8} (h : a.all isDig = true) (k : UInt8) (hk : isDig k = false) : ∀ x ∈ a, x ≠ k := fun x hx => dig_ne (List.all_eq_true.1 h x hx) k hk

/-- What is written of a number below so many digits. -/
theorem text1 {h : Int} (h0 : 0 ≤ h) (h1 : h ≤ 96) : (textL h 1).all isDig = true ∧ 1 ≤ (textL h 1).length ∧ (textL h 1).length ≤ 2 ∧ digVal (textL h 1) = h := by
  have e : textL h 1 = padL 1 (Lib.decDigits h.toNat) := by rw [textL, if_neg (by omega), if_pos (by decide)]; rfl
  rw [e]
  have l1 := decDigits_len (k := 1) (u := h.toNat) (by omega)
  have l2 := padL_len 1 (Lib.decDigits h.toNat)
  have l3 := decDigits_pos h.toNat
  refine ⟨padL_all _ _, by omega, by omega, by rw [padL_val]; omega⟩
theorem text2 {h : Int} (h0 : 0 ≤ h) (h1 : h < 60) : (textL h 2).all isDig = true ∧ (textL h 2).length = 2 ∧ digVal (textL h 2) = h := by
  have e : textL h 2 = padL 2 (Lib.decDigits h.toNat) := by rw [textL, if_neg (by omega), if_pos (by decide)]; rfl
  rw [e]
  have l1 := decDigits_len (k := 1) (u := h.toNat) (by omega)
  have l2 := padL_len 2 (Lib.decDigits h.toNat)
  refine ⟨padL_all _ _, by omega, by rw [padL_val]; omega⟩
theorem six_ok {d r : List UInt8} (hd : d.all isDig = true) (hl : d.length = 2) (hv : digVal d < 60) : sixB (58 :: (d ++ r)) = true ∧ sixV (58 :: (d ++ r)) = digVal d ∧ sixR (58 :: (d ++ r)) = r := by
  have es : sixS (58 :: (d ++ r)) = d := by
    rw [sixS, List.drop_one, List.tail_cons, List.take_append_of_le_length (by omega), List.take_of_length_le (by omega)]
  have hp : parseB d = true := parseB_yes (by omega) (by omega) hd
  have hpv : parseV d = digVal d := parseV_yes hp
  refine ⟨?_, by rw [sixV, es, hpv], ?_⟩
  · rw [sixB, es, hp, hpv]; simp [hl, hv]
  · have e3 : (58 :: (d ++ r)).drop 3 = (d ++ r).drop 2 := rfl
    rw [sixR, e3, List.drop_append_of_le_length (by omega), List.drop_of_length_le (by omega)]; rfl
theorem six_nil : sixB [] = true ∧ sixV [] = 0 ∧ sixR [] = [] := by decide
theorem read_mk {l a t1 t2 : List UInt8} {v1 v2 : Int} (h1 : hdL l = a) (h2 : tlL l = t1) (ha : a.all isDig = true) (l1 : 1 ≤ a.length) (l2 : a.length ≤ 3) (s1 : sixB t1 = true ∧ sixV t1 = v1 ∧ sixR t1 = t2) (s2 : sixB t2 = true ∧ sixV t2 = v2 ∧ sixR t2 = []) :
    readB l = true ∧ readV l = digVal a * 3600 + v1 * 60 + v2 := by
  have hp : parseB a = true := parseB_yes l1 (by omega) ha
  have hb : readB l = true := by
    rw [readB, h1, h2, hp, s1.1, s1.2.2, s2.1, s2.2.2]; simp [l2]
  exact ⟨hb, by rw [readV, if_pos hb, h1, h2, parseV_yes hp, s1.2.1, s1.2.2, s2.2.1]⟩
theorem n58 : isDig 58 = false := by decide
theorem n45 : isDig 45 = false := by decide
theorem read_body {m : Int} (h0 : 0 ≤ m) (h1 : m ≤ 345600) : readB (body m) = true ∧ readV (body m) = m := by
  obtain ⟨a1, a2, a3, a4⟩ := text1 (h := m / 3600) (by omega) (by omega)
  obtain ⟨b1, b2, b3⟩ := text2 (h := m / 60 % 60) (by omega) (by omega)
  obtain ⟨c1, c2, c3⟩ := text2 (h := m % 60) (by omega) (by omega)
  have na := digs_ne a1 58 n58
  unfold body
  by_cases e1 : m % 3600 = 0
  · have e2 : m % 60 = 0 := by omega
    rw [if_pos e1, if_pos e2, List.append_nil, List.append_nil]
    obtain ⟨p1, p2⟩ := hd_all na
    obtain ⟨q1, q2⟩ := read_mk p1 p2 a1 a2 (by omega) six_nil six_nil
    exact ⟨q1, by rw [q2, a4]; omega⟩
  · rw [if_neg e1]
    by_cases e2 : m % 60 = 0
    · rw [if_pos e2, List.append_nil]
      obtain ⟨p1, p2⟩ := hd_of (b := textL (m / 60 % 60) 2) na
      have s1 := six_ok (r := []) b1 b2 (by omega)
      rw [List.append_nil] at s1
      obtain ⟨q1, q2⟩ := read_mk p1 p2 a1 a2 (by omega) s1 six_nil
      exact ⟨q1, by rw [q2, a4, b3]; omega⟩
    · rw [if_neg e2, List.append_assoc, List.cons_append]
      obtain ⟨p1, p2⟩ := hd_of (b := textL (m / 60 % 60) 2 ++ 58 :: textL (m % 60) 2) na
      have s1 := six_ok (r := 58 :: textL (m % 60) 2) b1 b2 (by omega)
      have s2 := six_ok (r := []) c1 c2 (by omega)
      rw [List.append_nil] at s2
      obtain ⟨q1, q2⟩ := read_mk p1 p2 a1 a2 (by omega) s1 s2
      exact ⟨q1, by rw [q2, a4, b3, c3]; omega⟩
theorem body_head {m : Int} (h0 : 0 ≤ m) (h1 : m ≤ 345600) : ∃ c r, body m = c :: r ∧ c ≠ 45 := by
  obtain ⟨a1, a2, a3, a4⟩ := text1 (h := m / 3600) (by omega) (by omega)
  unfold body
  cases hx : textL (m / 3600) 1 with
  | nil => rw [hx] at a2; simp at a2
  | cons c r =>
    rw [hx] at a1
    exact ⟨c, _, by rw [List.append_assoc, List.cons_append], digs_ne a1 45 n45 c (by simp)⟩
theorem body_len {m : Int} (h0 : 0 ≤ m) (h1 : m ≤ 345600) : (body m).length ≤ 8 := by
  obtain ⟨a1, a2, a3, a4⟩ := text1 (h := m / 3600) (by omega) (by omega)
  obtain ⟨b1, b2, b3⟩ := text2 (h := m / 60 % 60) (by omega) (by omega)
  obtain ⟨c1, c2, c3⟩ := text2 (h := m % 60) (by omega) (by omega)
  unfold body
  split <;> split <;> simp <;> omega
theorem cl_ct {n : Int} (h0 : -345600 ≤ n) (h1 : n ≤ 345600) : clB (ctL n) = true ∧ clV (ctL n) = n := by
  unfold ctL
  by_cases hn : n < 0
  · rw [if_pos hn]
    obtain ⟨c, r, e, hc⟩ := body_head (m := -n) (by omega) (by omega)
    obtain ⟨r1, r2⟩ := read_body (m := -n) (by omega) (by omega)
    have hdg : dg (45 :: body (-n)) = body (-n) := by simp [dg, Lib.trimPrefix, Lib.hasPrefix]
    have hng : neg (45 :: body (-n)) = true := by simp [neg, Lib.hasPrefix]
    have hne : ¬ (45 :: body (-n) = [45]) := by rw [e]; simp
    have hb : clB (45 :: body (-n)) = true := by rw [clB, hdg, r1, r2]; simp; omega
    exact ⟨hb, by rw [clV, if_neg hne, if_pos hb, hng, if_pos rfl, hdg, r2]; omega⟩
  · rw [if_neg hn]
    obtain ⟨c, r, e, hc⟩ := body_head (m := n) (by omega) (by omega)
    obtain ⟨r1, r2⟩ := read_body (m := n) (by omega) (by omega)
    have hpf : Lib.hasPrefix (body n) [45] = false := by
      rw [e]
      show ([45] : List UInt8).isPrefixOf (c :: r) = false
      rw [List.isPrefixOf, beq_eq_false_iff_ne.2 (fun e => hc e.symm)]; rfl
    have hdg : dg (body n) = body n := by rw [dg, Lib.trimPrefix, hpf]; rfl
    have hng : neg (body n) = false := hpf
    have hne : ¬ (body n = [45]) := by rw [e]; intro h; simp at h; exact hc h.1
    have hb : clB (body n) = true := by rw [clB, hdg, r1, r2]; simp; omega
    exact ⟨hb, by rw [clV, if_neg hne, if_pos hb, hng, hdg, r2]; rfl⟩
theorem pre_no' {c : UInt8} {r : List UInt8} (hc : c ≠ 45) : ¬ (c :: r = [45]) ∧ Lib.hasPrefix (c :: r) [45] = false := by
  refine ⟨fun h => by simp at h; exact hc h.1, ?_⟩
  show ([45] : List UInt8).isPrefixOf (c :: r) = false
  rw [List.isPrefixOf, beq_eq_false_iff_ne.2 (fun e => hc e.symm)]; rfl
theorem read_bd {l : List UInt8} : 0 ≤ readV l := by
  unfold readV
  split
  · have p : ∀ x, 0 ≤ parseV x := fun x => by
      unfold parseV; split
      · rename_i h; exact (digVal_bd x (by simp [parseB] at h; simpa using h.2)).1
      · exact Int.le_refl _
    have := p (hdL l)
    have := p (sixS (tlL l))
    have := p (sixS (sixR (tlL l)))
    unfold sixV; omega
  · exact Int.le_refl _
theorem cl_bd {l : List UInt8} : -345600 ≤ clV l ∧ clV l ≤ 345600 := by
  have r := read_bd (l := dg l)
  unfold clV
  split
  · omega
  · rename_i hne
    split
    · rename_i hb
      have : readV (dg l) ≤ 345600 := by
        simp [clB, hne] at hb; exact hb.2
      split <;> omega
    · omega
theorem cl_no {l : List UInt8} (h : clB l = false) : clV l = 0 ∧ clE l = 5 := by
  have hne : ¬ l = [45] := fun e => by rw [e] at h; revert h; decide
  exact ⟨by rw [clV, if_neg hne, h]; rfl, by rw [clE, h]; rfl⟩
end Clk
end Go.Proofs.YtpcnpacllkiieaaGreatDoor
