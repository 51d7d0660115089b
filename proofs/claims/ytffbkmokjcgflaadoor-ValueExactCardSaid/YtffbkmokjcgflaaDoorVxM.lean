/-
  Package value, plain words: what the reference says of a time's text, an offset's.
-/
import Derived.Test.YtffbkmokjcgflaaDoorValM
import Derived.Test.YtffbkmokjcgflaaDoorBdU
namespace Go.Proofs.YtffbkmokjcgflaaDoor
open Go.RowKit
namespace Val
open Sol Civ Wk
def ptG (B : List UInt8) (u : Bool) : Int × Bool × Int :=
  if B.length = 15 ∧ B[8]? = some 84 ∧ ptB B = true ∧ numE (parseV (B.take 4)) (parseV ((B.drop 4).take 2)) (parseV ((B.drop 6).take 2)) = 0
  then (numV (parseV (B.take 4)) (parseV ((B.drop 4).take 2)) (parseV ((B.drop 6).take 2)) * 86400 + sxV (B.drop 9), u, 0)
  else (0, false, 19)
theorem ptP_eq (S : List UInt8) : ptP S = ptG (Lib.trimSuffix S [90]) (Lib.hasSuffix S [90]) := rfl
def utcB (S : List UInt8) : Bool := decide (S.length = 16 ∧ S[15]? = some 90)
theorem pb_all {l : List UInt8} (h1 : 1 ≤ l.length) (h2 : l.length ≤ 18) : parseB l = l.all isDig := by
  rw [parseB, decide_eq_true ⟨h1, h2⟩, Bool.true_and]
theorem ok_all {l : List UInt8} {n : Nat} (h : l.length = n) : Clk.okP l n n = l.all isDig := by
  rw [Clk.okP, decide_eq_true ⟨by omega, by omega⟩, Bool.true_and]
theorem len15 {l : List UInt8} (h : l.length = 15) : ∃ a0 a1 a2 a3 a4 a5 a6 a7 a8 a9 b0 b1 b2 b3 b4, l = [a0, a1, a2, a3, a4, a5, a6, a7, a8, a9, b0, b1, b2, b3, b4] := by
  match l, h with
  | [a0, a1, a2, a3, a4, a5, a6, a7, a8, a9, b0, b1, b2, b3, b4], _ => exact ⟨a0, a1, a2, a3, a4, a5, a6, a7, a8, a9, b0, b1, b2, b3, b4, rfl⟩
def dv2 (B : List UInt8) (k : Nat) : Int := digVal ((B.drop k).take 2)
def okT (B : List UInt8) : Prop := 1 ≤ digVal (B.take 4) ∧ Cal.valid (digVal (B.take 4)) (dv2 B 4) (dv2 B 6) = true ∧ dv2 B 9 ≤ 23 ∧ dv2 B 11 ≤ 59 ∧ dv2 B 13 ≤ 59
instance (B : List UInt8) : Decidable (okT B) := by unfold okT; infer_instance
def vlT (B : List UInt8) : Int := Cal.num (digVal (B.take 4)) (dv2 B 4) (dv2 B 6) * 86400 + 3600 * dv2 B 9 + 60 * dv2 B 11 + dv2 B 13
theorem ptG_eq {B : List UInt8} (u : Bool) (hl : B.length = 15) :
    ptG B u = if B[8]? = some 84 ∧ Clk.okP (B.take 8) 8 8 = true ∧ Clk.okP (B.drop 9) 6 6 = true ∧ okT B then (vlT B, u, 0) else (0, false, 19) := by
  obtain ⟨a0, a1, a2, a3, a4, a5, a6, a7, a8, a9, b0, b1, b2, b3, b4, rfl⟩ := len15 hl
  have k8 : Clk.okP (List.take 8 [a0, a1, a2, a3, a4, a5, a6, a7, a8, a9, b0, b1, b2, b3, b4]) 8 8 = ([a0, a1, a2, a3].all isDig && [a4, a5].all isDig && [a6, a7].all isDig) := by
    rw [ok_all (n := 8) rfl]
    show [a0, a1, a2, a3, a4, a5, a6, a7].all isDig = _
    simp only [List.all_cons, List.all_nil, Bool.and_true, Bool.and_assoc]
  have k6 : Clk.okP (List.drop 9 [a0, a1, a2, a3, a4, a5, a6, a7, a8, a9, b0, b1, b2, b3, b4]) 6 6 = ([a9, b0].all isDig && [b1, b2].all isDig && [b3, b4].all isDig) := by
    rw [ok_all (n := 6) rfl]
    show [a9, b0, b1, b2, b3, b4].all isDig = _
    simp only [List.all_cons, List.all_nil, Bool.and_true, Bool.and_assoc]
  have p1 : parseB [a0, a1, a2, a3] = [a0, a1, a2, a3].all isDig := pb_all (by simp) (by simp)
  have p2 : ∀ x y : UInt8, parseB [x, y] = [x, y].all isDig := fun x y => pb_all (by simp) (by simp)
  have hB : ptB [a0, a1, a2, a3, a4, a5, a6, a7, a8, a9, b0, b1, b2, b3, b4] = ([a0, a1, a2, a3].all isDig && [a4, a5].all isDig && [a6, a7].all isDig && ([a9, b0].all isDig && [b1, b2].all isDig && [b3, b4].all isDig && decide (parseV [a9, b0] < 24 ∧ parseV [b1, b2] < 60 ∧ parseV [b3, b4] < 60)) && decide (1 ≤ parseV [a0, a1, a2, a3])) := by
    show (parseB [a0, a1, a2, a3] && parseB [a4, a5] && parseB [a6, a7] && (parseB [a9, b0] && parseB [b1, b2] && parseB [b3, b4] && decide (parseV [a9, b0] < 24 ∧ parseV [b1, b2] < 60 ∧ parseV [b3, b4] < 60)) && decide (1 ≤ parseV [a0, a1, a2, a3])) = _
    rw [p1, p2, p2, p2, p2, p2]
  have hX : sxB [a9, b0, b1, b2, b3, b4] = ([a9, b0].all isDig && [b1, b2].all isDig && [b3, b4].all isDig && decide (parseV [a9, b0] < 24 ∧ parseV [b1, b2] < 60 ∧ parseV [b3, b4] < 60)) := by
    show (parseB [a9, b0] && parseB [b1, b2] && parseB [b3, b4] && decide (parseV [a9, b0] < 24 ∧ parseV [b1, b2] < 60 ∧ parseV [b3, b4] < 60)) = _
    rw [p2, p2, p2]
  rw [ptG, k8, k6, hB]
  by_cases hD : ([a0, a1, a2, a3].all isDig && [a4, a5].all isDig && [a6, a7].all isDig) = true
  · by_cases hE : ([a9, b0].all isDig && [b1, b2].all isDig && [b3, b4].all isDig) = true
    · have hD' := hD
      have hE' := hE
      rw [Bool.and_eq_true, Bool.and_eq_true] at hD' hE'
      have v1 : parseV [a0, a1, a2, a3] = digVal [a0, a1, a2, a3] := parseV_yes (by rw [p1]; exact hD'.1.1)
      have v2 : parseV [a4, a5] = digVal [a4, a5] := parseV_yes (by rw [p2]; exact hD'.1.2)
      have v3 : parseV [a6, a7] = digVal [a6, a7] := parseV_yes (by rw [p2]; exact hD'.2)
      have v4 : parseV [a9, b0] = digVal [a9, b0] := parseV_yes (by rw [p2]; exact hE'.1.1)
      have v5 : parseV [b1, b2] = digVal [b1, b2] := parseV_yes (by rw [p2]; exact hE'.1.2)
      have v6 : parseV [b3, b4] = digVal [b3, b4] := parseV_yes (by rw [p2]; exact hE'.2)
      have t1 : List.take 4 [a0, a1, a2, a3, a4, a5, a6, a7, a8, a9, b0, b1, b2, b3, b4] = [a0, a1, a2, a3] := rfl
      have t2 : List.take 2 (List.drop 4 [a0, a1, a2, a3, a4, a5, a6, a7, a8, a9, b0, b1, b2, b3, b4]) = [a4, a5] := rfl
      have t3 : List.take 2 (List.drop 6 [a0, a1, a2, a3, a4, a5, a6, a7, a8, a9, b0, b1, b2, b3, b4]) = [a6, a7] := rfl
      have t4 : List.drop 9 [a0, a1, a2, a3, a4, a5, a6, a7, a8, a9, b0, b1, b2, b3, b4] = [a9, b0, b1, b2, b3, b4] := rfl
      have hok : okT [a0, a1, a2, a3, a4, a5, a6, a7, a8, a9, b0, b1, b2, b3, b4] ↔ 1 ≤ digVal [a0, a1, a2, a3] ∧ Cal.valid (digVal [a0, a1, a2, a3]) (digVal [a4, a5]) (digVal [a6, a7]) = true ∧ digVal [a9, b0] ≤ 23 ∧ digVal [b1, b2] ≤ 59 ∧ digVal [b3, b4] ≤ 59 := Iff.rfl
      have hvl : vlT [a0, a1, a2, a3, a4, a5, a6, a7, a8, a9, b0, b1, b2, b3, b4] = Cal.num (digVal [a0, a1, a2, a3]) (digVal [a4, a5]) (digVal [a6, a7]) * 86400 + 3600 * digVal [a9, b0] + 60 * digVal [b1, b2] + digVal [b3, b4] := rfl
      have hsx : sxB [a9, b0, b1, b2, b3, b4] = true → sxV [a9, b0, b1, b2, b3, b4] = digVal [a9, b0] * 3600 + digVal [b1, b2] * 60 + digVal [b3, b4] := fun h => by
        rw [sxV, if_pos h]
        show parseV [a9, b0] * 3600 + parseV [b1, b2] * 60 + parseV [b3, b4] = _
        rw [v4, v5, v6]
      rw [hE, v4, v5, v6] at hX
      rw [t1, t2, t3, t4, v1, v2, v3, v4, v5, v6, hD, hE, hvl]
      by_cases c : 1 ≤ digVal [a0, a1, a2, a3] ∧ Cal.valid (digVal [a0, a1, a2, a3]) (digVal [a4, a5]) (digVal [a6, a7]) = true ∧ digVal [a9, b0] ≤ 23 ∧ digVal [b1, b2] ≤ 59 ∧ digVal [b3, b4] ≤ 59
      · have hd : decide (digVal [a9, b0] < 24 ∧ digVal [b1, b2] < 60 ∧ digVal [b3, b4] < 60) = true := decide_eq_true ⟨by omega, by omega, by omega⟩
        rw [hd] at hX
        have hs := hsx hX
        by_cases h8 : ([a0, a1, a2, a3, a4, a5, a6, a7, a8, a9, b0, b1, b2, b3, b4] : List UInt8)[8]? = some 84
        · rw [if_pos ⟨rfl, h8, by rw [hd, decide_eq_true c.1]; rfl, by rw [numE, c.2.1]; rfl⟩, if_pos ⟨h8, rfl, rfl, hok.2 c⟩, numV, c.2.1, if_pos rfl, hs]
          congr 1
          omega
        · rw [if_neg (fun e => h8 e.2.1), if_neg (fun e => h8 e.1)]
      · rw [if_neg ?_, if_neg (fun e => c (hok.1 e.2.2.2))]
        rintro ⟨_, _, e3, e4⟩
        refine c ?_
        have e5 : Cal.valid (digVal [a0, a1, a2, a3]) (digVal [a4, a5]) (digVal [a6, a7]) = true := by
          rw [numE] at e4
          split at e4
          · assumption
          · exact absurd e4 (by decide)
        simp only [Bool.true_and, Bool.and_eq_true, decide_eq_true_eq] at e3
        exact ⟨e3.2, e5, by omega, by omega, by omega⟩
    · have hE0 : ([a9, b0].all isDig && [b1, b2].all isDig && [b3, b4].all isDig) = false := by simpa using hE
      rw [hE0, if_neg (by rintro ⟨_, _, e, _⟩; simp at e), if_neg (by rintro ⟨_, _, e, _⟩; cases e)]
  · have hD0 : ([a0, a1, a2, a3].all isDig && [a4, a5].all isDig && [a6, a7].all isDig) = false := by simpa using hD
    rw [hD0, if_neg (by rintro ⟨_, _, e, _⟩; simp at e), if_neg (by rintro ⟨_, e, _⟩; cases e)]
theorem suf_ne {l : List UInt8} {c : UInt8} (hc : c ≠ 90) : Lib.hasSuffix (l ++ [c]) [90] = false ∧ Lib.trimSuffix (l ++ [c]) [90] = l ++ [c] := by
  have h : Lib.hasSuffix (l ++ [c]) [90] = false := by
    cases e : Lib.hasSuffix (l ++ [c]) [90] with
    | false => rfl
    | true =>
      obtain ⟨p, hp⟩ := List.isSuffixOf_iff_suffix.1 e
      have : (90 : UInt8) = c := by
        have := congrArg List.getLast? hp
        simpa using this
      exact absurd this.symm hc
  exact ⟨h, by rw [Lib.trimSuffix, h]; rfl⟩
theorem ptG_len {B : List UInt8} (u : Bool) (h : B.length ≠ 15) : ptG B u = (0, false, 19) := by rw [ptG, if_neg (fun e => h e.1)]
theorem ptP_ref (S : List UInt8) : ptP S = if utcB S = true then ptG (S.take 15) true else ptG S false := by
  rw [ptP_eq]
  rcases List.eq_nil_or_concat S with rfl | ⟨l, c, rfl⟩
  · rfl
  · rw [List.concat_eq_append]
    by_cases hc : c = 90
    · subst hc
      obtain ⟨h1, h2⟩ := suf_z l
      rw [h1, h2]
      by_cases hl : l.length = 15
      · have hu : utcB (l ++ [90]) = true := decide_eq_true ⟨by simp [hl], by rw [List.getElem?_append_right (by omega)]; simp [hl]⟩
        rw [hu, if_pos rfl, List.take_append_of_le_length (by omega), List.take_of_length_le (by omega)]
      · have hu : utcB (l ++ [90]) = false := decide_eq_false (fun e => hl (by have := e.1; simp at this; exact this))
        rw [hu, if_neg (by decide), ptG_len _ hl]
        by_cases h14 : l.length = 14
        · have h15 : (l ++ [90]).length = 15 := by simp [h14]
          rw [ptG_eq _ h15, if_neg]
          rintro ⟨_, _, e, _⟩
          have := (Clk.okP_iff.1 e).2
          have h90 := List.all_eq_true.1 this 90 (by
            rw [List.drop_append_of_le_length (by omega)]; simp)
          exact absurd h90 (by decide)
        · rw [ptG_len _ (by simp; omega)]
    · obtain ⟨h1, h2⟩ := suf_ne (l := l) hc
      rw [h1, h2]
      have hu : utcB (l ++ [c]) = false := decide_eq_false (fun e => hc (by
        have h3 := e.1
        have h4 := e.2
        simp at h3
        rw [List.getElem?_append_right (by omega)] at h4
        simpa [h3] using h4))
      rw [hu, if_neg (by decide)]
/-! ### Offsets -/
def x4 (X : List UInt8) : Int := if X.length = 6 then dv2 X 4 else 0
def vlO (X : List UInt8) : Int := 3600 * dv2 X 0 + 60 * dv2 X 2 + x4 X
def okO (c : UInt8) (X : List UInt8) : Prop := dv2 X 0 ≤ 23 ∧ dv2 X 2 ≤ 59 ∧ x4 X ≤ 59 ∧ ¬ (c = 45 ∧ vlO X = 0)
instance (c : UInt8) (X : List UInt8) : Decidable (okO c X) := by unfold okO; infer_instance
theorem pre_no {c d : UInt8} (h : c ≠ d) (X : List UInt8) : Lib.hasPrefix (c :: X) [d] = false ∧ Lib.trimPrefix (c :: X) [d] = c :: X := by
  have e : Lib.hasPrefix (c :: X) [d] = false := by
    show (d == c && ([] : List UInt8).isPrefixOf X) = false
    rw [beq_eq_false_iff_ne.2 (fun e => h e.symm)]; rfl
  exact ⟨e, by rw [Lib.trimPrefix, e]; rfl⟩
theorem len6 {l : List UInt8} (h : l.length = 6) : ∃ a b c d e f, l = [a, b, c, d, e, f] := by
  match l, h with
  | [a, b, c, d, e, f], _ => exact ⟨a, b, c, d, e, f, rfl⟩
theorem poD_six (b : Bool) (a0 a1 a2 a3 a4 a5 : UInt8) : poD b [a0, a1, a2, a3, a4, a5] = if [a0, a1, a2, a3, a4, a5].all isDig = true ∧ (digVal [a0, a1] ≤ 23 ∧ digVal [a2, a3] ≤ 59 ∧ digVal [a4, a5] ≤ 59 ∧ ¬ (b = true ∧ 3600 * digVal [a0, a1] + 60 * digVal [a2, a3] + digVal [a4, a5] = 0)) then (if b = true then -(3600 * digVal [a0, a1] + 60 * digVal [a2, a3] + digVal [a4, a5]) else 3600 * digVal [a0, a1] + 60 * digVal [a2, a3] + digVal [a4, a5], 0) else (0, 19) := by
  have p2 : ∀ x y : UInt8, parseB [x, y] = [x, y].all isDig := fun x y => pb_all (by simp) (by simp)
  have k6 : [a0, a1, a2, a3, a4, a5].all isDig = ([a0, a1].all isDig && [a2, a3].all isDig && [a4, a5].all isDig) := by
    simp only [List.all_cons, List.all_nil, Bool.and_true, Bool.and_assoc]
  have hX : sxB [a0, a1, a2, a3, a4, a5] = ([a0, a1].all isDig && [a2, a3].all isDig && [a4, a5].all isDig && decide (parseV [a0, a1] < 24 ∧ parseV [a2, a3] < 60 ∧ parseV [a4, a5] < 60)) := by
    show (parseB [a0, a1] && parseB [a2, a3] && parseB [a4, a5] && decide (parseV [a0, a1] < 24 ∧ parseV [a2, a3] < 60 ∧ parseV [a4, a5] < 60)) = _
    rw [p2, p2, p2]
  rw [poD, k6]
  by_cases hE : ([a0, a1].all isDig && [a2, a3].all isDig && [a4, a5].all isDig) = true
  · have hE' := hE
    rw [Bool.and_eq_true, Bool.and_eq_true] at hE'
    have v4 : parseV [a0, a1] = digVal [a0, a1] := parseV_yes (by rw [p2]; exact hE'.1.1)
    have v5 : parseV [a2, a3] = digVal [a2, a3] := parseV_yes (by rw [p2]; exact hE'.1.2)
    have v6 : parseV [a4, a5] = digVal [a4, a5] := parseV_yes (by rw [p2]; exact hE'.2)
    rw [hE, v4, v5, v6] at hX
    by_cases c : digVal [a0, a1] ≤ 23 ∧ digVal [a2, a3] ≤ 59 ∧ digVal [a4, a5] ≤ 59
    · have hx : sxB [a0, a1, a2, a3, a4, a5] = true := by rw [hX, decide_eq_true ⟨by omega, by omega, by omega⟩]; rfl
      have hv : sxV [a0, a1, a2, a3, a4, a5] = 3600 * digVal [a0, a1] + 60 * digVal [a2, a3] + digVal [a4, a5] := by
        rw [sxV, if_pos hx]
        show parseV [a0, a1] * 3600 + parseV [a2, a3] * 60 + parseV [a4, a5] = _
        rw [v4, v5, v6]; omega
      rw [hx, hv, hE]
      generalize (if b = true then -(3600 * digVal [a0, a1] + 60 * digVal [a2, a3] + digVal [a4, a5]) else 3600 * digVal [a0, a1] + 60 * digVal [a2, a3] + digVal [a4, a5]) = V
      by_cases z : b = true ∧ 3600 * digVal [a0, a1] + 60 * digVal [a2, a3] + digVal [a4, a5] = 0
      · rw [if_neg (fun e => e.2.2 z), if_neg (fun e => e.2.2.2.2 z)]
      · rw [if_pos ⟨rfl, rfl, z⟩, if_pos ⟨rfl, c.1, c.2.1, c.2.2, z⟩]
    · have hx : sxB [a0, a1, a2, a3, a4, a5] = false := by rw [hX, decide_eq_false (fun e => c ⟨by omega, by omega, by omega⟩)]; rfl
      rw [hx, if_neg (fun e => by cases e.2.1), if_neg (fun e => c ⟨e.2.1, e.2.2.1, e.2.2.2.1⟩)]
  · have hE0 : ([a0, a1].all isDig && [a2, a3].all isDig && [a4, a5].all isDig) = false := by simpa using hE
    have hx : sxB [a0, a1, a2, a3, a4, a5] = false := by rw [hX, hE0]; rfl
    rw [hx, hE0, if_neg (fun e => by cases e.2.1), if_neg (fun e => by cases e.1)]
theorem poY_len {X : List UInt8} (b : Bool) (h4 : X.length ≠ 4) (h6 : X.length ≠ 6) : poD b (poY X) = (0, 19) := by
  rw [poY, if_neg h4, poD, if_neg (fun e => h6 e.1)]
theorem poP_ref (c : UInt8) (X : List UInt8) : poP (c :: X) = if (c = 45 ∨ c = 43) ∧ (X.length = 4 ∨ X.length = 6) ∧ X.all isDig = true ∧ okO c X then (if c = 45 then -vlO X else vlO X, 0) else (0, 19) := by
  have key : ∀ b : Bool, (b = true ↔ c = 45) → poD b (poY X) = if (X.length = 4 ∨ X.length = 6) ∧ X.all isDig = true ∧ okO c X then (if c = 45 then -vlO X else vlO X, 0) else (0, 19) := fun b hb => by
    have hc : (if c = 45 then -vlO X else vlO X) = if b = true then -vlO X else vlO X := by
      by_cases h : c = 45
      · rw [if_pos h, if_pos (hb.2 h)]
      · rw [if_neg h, if_neg (fun e => h (hb.1 e))]
    by_cases h6 : X.length = 6
    · obtain ⟨a0, a1, a2, a3, a4, a5, rfl⟩ := len6 h6
      have e1 : poY [a0, a1, a2, a3, a4, a5] = [a0, a1, a2, a3, a4, a5] := rfl
      have e2 : vlO [a0, a1, a2, a3, a4, a5] = 3600 * digVal [a0, a1] + 60 * digVal [a2, a3] + digVal [a4, a5] := rfl
      have e3 : okO c [a0, a1, a2, a3, a4, a5] ↔ (digVal [a0, a1] ≤ 23 ∧ digVal [a2, a3] ≤ 59 ∧ digVal [a4, a5] ≤ 59 ∧ ¬ (b = true ∧ 3600 * digVal [a0, a1] + 60 * digVal [a2, a3] + digVal [a4, a5] = 0)) := by
        rw [hb]; exact Iff.rfl
      rw [e1, poD_six, hc, e2]
      generalize (if b = true then -(3600 * digVal [a0, a1] + 60 * digVal [a2, a3] + digVal [a4, a5]) else 3600 * digVal [a0, a1] + 60 * digVal [a2, a3] + digVal [a4, a5]) = V
      by_cases z : [a0, a1, a2, a3, a4, a5].all isDig = true ∧ (digVal [a0, a1] ≤ 23 ∧ digVal [a2, a3] ≤ 59 ∧ digVal [a4, a5] ≤ 59 ∧ ¬ (b = true ∧ 3600 * digVal [a0, a1] + 60 * digVal [a2, a3] + digVal [a4, a5] = 0))
      · rw [if_pos z, if_pos ⟨Or.inr rfl, z.1, e3.2 z.2⟩]
      · rw [if_neg z, if_neg (fun e => z ⟨e.2.1, e3.1 e.2.2⟩)]
    · by_cases h4 : X.length = 4
      · obtain ⟨a0, a1, a2, a3, rfl⟩ := len4 h4
        have e1 : poY [a0, a1, a2, a3] = [a0, a1, a2, a3, 48, 48] := rfl
        have e0 : digVal [48, 48] = 0 := by decide
        have e2 : vlO [a0, a1, a2, a3] = 3600 * digVal [a0, a1] + 60 * digVal [a2, a3] + 0 := rfl
        have e3 : okO c [a0, a1, a2, a3] ↔ (digVal [a0, a1] ≤ 23 ∧ digVal [a2, a3] ≤ 59 ∧ (0 : Int) ≤ 59 ∧ ¬ (b = true ∧ 3600 * digVal [a0, a1] + 60 * digVal [a2, a3] + 0 = 0)) := by
          rw [hb]; exact Iff.rfl
        have e4 : [a0, a1, a2, a3, 48, 48].all isDig = [a0, a1, a2, a3].all isDig := by
          have : isDig 48 = true := by decide
          simp [this]
        rw [e1, poD_six, hc, e2, e0, e4]
        generalize (if b = true then -(3600 * digVal [a0, a1] + 60 * digVal [a2, a3] + 0) else 3600 * digVal [a0, a1] + 60 * digVal [a2, a3] + 0) = V
        by_cases z : [a0, a1, a2, a3].all isDig = true ∧ (digVal [a0, a1] ≤ 23 ∧ digVal [a2, a3] ≤ 59 ∧ (0 : Int) ≤ 59 ∧ ¬ (b = true ∧ 3600 * digVal [a0, a1] + 60 * digVal [a2, a3] + 0 = 0))
        · rw [if_pos z, if_pos ⟨Or.inl rfl, z.1, e3.2 z.2⟩]
        · rw [if_neg z, if_neg (fun e => z ⟨e.2.1, e3.1 e.2.2⟩)]
      · rw [poY_len b h4 h6, if_neg (fun e => by rcases e.1 with e | e; exact h4 e; exact h6 e)]
  by_cases h45 : c = 45
  · subst h45
    obtain ⟨h1, h2⟩ := pre_yes 45 X
    rw [poP, poS, poX, h1, h2, Bool.true_or, if_pos rfl, if_pos rfl, key true (by simp)]
    generalize (if (45 : UInt8) = 45 then -vlO X else vlO X) = V
    by_cases z : (X.length = 4 ∨ X.length = 6) ∧ X.all isDig = true ∧ okO 45 X
    · rw [if_pos z, if_pos ⟨Or.inl rfl, z⟩]
    · rw [if_neg z, if_neg (fun e => z e.2)]
  · obtain ⟨h1, h2⟩ := pre_no h45 X
    by_cases h43 : c = 43
    · subst h43
      obtain ⟨h3, h4⟩ := pre_yes 43 X
      rw [poP, poS, poX, h1, h3, h4, if_pos (by rfl), if_neg (by decide), key false (by simp)]
      generalize (if (43 : UInt8) = 45 then -vlO X else vlO X) = V
      by_cases z : (X.length = 4 ∨ X.length = 6) ∧ X.all isDig = true ∧ okO 43 X
      · rw [if_pos z, if_pos ⟨Or.inr rfl, z⟩]
      · rw [if_neg z, if_neg (fun e => z e.2)]
    · obtain ⟨h3, h4⟩ := pre_no h43 X
      rw [poP, poS, h1, h3, if_neg (by decide), if_neg (fun e => by rcases e.1 with e | e; exact h45 e; exact h43 e)]
theorem poP_nil : poP [] = (0, 19) := by decide +kernel
end Val
end Go.Proofs.YtffbkmokjcgflaaDoor
