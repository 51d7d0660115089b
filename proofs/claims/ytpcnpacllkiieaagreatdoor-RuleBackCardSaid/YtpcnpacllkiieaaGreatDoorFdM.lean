/-
  Package fields, plain words: what the fields of a line are; what is joined is split.
-/
import Derived.Test.YtpcnpacllkiieaaGreatDoorAny
namespace Go.Proofs.YtpcnpacllkiieaaGreatDoor
open Go.RowKit
namespace Fds
def isBl (c : UInt8) : Bool := c == 32 || c == 9 || c == 13
/-- The fields of what follows. 0: between fields; 1: within one; 2: between its quotes. -/
def spG : Nat → List UInt8 → List UInt8 → Option (List (List UInt8))
  | 0, _, [] => some []
  | 1, a, [] => some [a]
  | _, _, [] => none
  | 0, _, c :: T => if c = 35 then some [] else if isBl c = true then spG 0 [] T else if c = 34 then spG 2 [] T else spG 1 [c] T
  | 1, a, c :: T => if c = 35 then some [a] else if isBl c = true then (spG 0 [] T).map (fun r => a :: r) else if c = 34 then spG 2 a T else spG 1 (a ++ [c]) T
  | _, a, c :: T => if c = 34 then spG 1 a T else spG 2 (a ++ [c]) T
theorem sp0_nil : spG 0 [] [] = some [] := by rw [spG]
theorem sp1_nil (a : List UInt8) : spG 1 a [] = some [a] := by rw [spG]
theorem sp2_nil (a : List UInt8) : spG 2 a [] = none := by rw [spG] <;> simp
theorem sp0_cons (c : UInt8) (T : List UInt8) : spG 0 [] (c :: T) = if c = 35 then some [] else if isBl c = true then spG 0 [] T else if c = 34 then spG 2 [] T else spG 1 [c] T := by rw [spG]
theorem sp1_cons (a : List UInt8) (c : UInt8) (T : List UInt8) : spG 1 a (c :: T) = if c = 35 then some [a] else if isBl c = true then (spG 0 [] T).map (fun r => a :: r) else if c = 34 then spG 2 a T else spG 1 (a ++ [c]) T := by rw [spG]
theorem sp2_cons (a : List UInt8) (c : UInt8) (T : List UInt8) : spG 2 a (c :: T) = if c = 34 then spG 1 a T else spG 2 (a ++ [c]) T := by rw [spG] <;> simp
theorem sp_hash (T : List UInt8) : spG 0 [] (35 :: T) = some [] := by rw [sp0_cons, if_pos rfl]
theorem sp_blank {c : UInt8} (T : List UInt8) (h : isBl c = true) : spG 0 [] (c :: T) = spG 0 [] T := by
  have : c ≠ 35 := fun e => by rw [e] at h; exact absurd h (by decide)
  rw [sp0_cons, if_neg this, if_pos h]
/-- A field begins. -/
theorem sp_begin {c : UInt8} (T : List UInt8) (h1 : c ≠ 35) (h2 : isBl c = false) : spG 0 [] (c :: T) = spG 1 [] (c :: T) := by
  have hb : ¬ isBl c = true := by rw [h2]; decide
  rw [sp0_cons, sp1_cons, if_neg h1, if_neg h1, if_neg hb, if_neg hb]
  rfl
/-- A field ends. -/
theorem sp_ends (a : List UInt8) {c : UInt8} (T : List UInt8) (h : c = 35 ∨ isBl c = true) : spG 1 a (c :: T) = (spG 0 [] (c :: T)).map (fun r => a :: r) := by
  by_cases h1 : c = 35
  · subst h1; rw [sp1_cons, sp0_cons, if_pos rfl, if_pos rfl]; rfl
  · have h2 : isBl c = true := h.elim (fun e => absurd e h1) id
    rw [sp1_cons, if_neg h1, if_pos h2, sp_blank T h2]
theorem sp_end (a : List UInt8) : spG 1 a [] = (spG 0 [] []).map (fun r => a :: r) := by rw [sp1_nil, sp0_nil]; rfl
theorem sp_more (a : List UInt8) {c : UInt8} (T : List UInt8) (h1 : c ≠ 35) (h2 : isBl c = false) (h3 : c ≠ 34) : spG 1 a (c :: T) = spG 1 (a ++ [c]) T := by
  rw [sp1_cons, if_neg h1, if_neg (by rw [h2]; decide), if_neg h3]
theorem sp_quote (a T : List UInt8) : spG 1 a (34 :: T) = spG 2 a T := by
  rw [sp1_cons, if_neg (by decide), if_neg (by decide), if_pos rfl]
theorem sp_qnone : ∀ (T a : List UInt8), Lib.indexByte T 34 < 0 → spG 2 a T = none
  | [], a, _ => sp2_nil a
  | c :: T, a, h => by
    rw [Lib.indexByte] at h
    by_cases hc : c = 34
    · subst hc; simp at h
    · have e : (c == 34) = false := beq_eq_false_iff_ne.2 hc
      rw [e] at h
      rw [sp2_cons, if_neg hc]
      refine sp_qnone T _ ?_
      by_cases h1 : Lib.indexByte T 34 = -1
      · omega
      · have e1 : (Lib.indexByte T 34 == -1) = false := beq_eq_false_iff_ne.2 h1
        rw [e1] at h
        simp at h
        omega
theorem sp_qsome : ∀ (T a : List UInt8) (m : Nat), Lib.indexByte T 34 = m → m < T.length ∧ spG 2 a T = spG 1 (a ++ T.take m) (T.drop (m + 1))
  | [], a, m, h => by rw [Lib.indexByte] at h; omega
  | c :: T, a, m, h => by
    rw [Lib.indexByte] at h
    by_cases hc : c = 34
    · subst hc
      simp at h
      have : m = 0 := by omega
      subst this
      exact ⟨by simp, by rw [sp2_cons, if_pos rfl]; simp⟩
    · have e : (c == 34) = false := beq_eq_false_iff_ne.2 hc
      rw [e] at h
      by_cases h1 : Lib.indexByte T 34 = -1
      · have e1 : (Lib.indexByte T 34 == -1) = true := beq_iff_eq.2 h1
        rw [e1] at h
        simp at h
      · have e1 : (Lib.indexByte T 34 == -1) = false := beq_eq_false_iff_ne.2 h1
        rw [e1] at h
        simp at h
        match m, h with
        | 0, h => exact absurd (show Lib.indexByte T 34 = -1 by omega) h1
        | m + 1, h =>
          obtain ⟨g1, g2⟩ := sp_qsome T (a ++ [c]) m (by omega)
          refine ⟨by simp; omega, ?_⟩
          rw [sp2_cons, if_neg hc, g2]
          simp
/-- Signs that may be in no line. -/
def bad0 (S : List UInt8) : Bool := S.contains 0 || S.contains 10
def splitR (S : List UInt8) : List (List UInt8) × Int := if 600 < S.length then ([], 2) else if bad0 S = true then ([], 6) else match spG 0 [] S with | none => ([], 6) | some L => (L, 0)
/-- A field as it is written. -/
def quoted (f : List UInt8) : Bool := f.length == 0 || SAny.hitA f [32, 9, 13, 35]
def qf (f : List UInt8) : List UInt8 := if quoted f = true then [34] ++ f ++ [34] else f
def bad3 (f : List UInt8) : Bool := SAny.hitA f [0, 10, 34]
/-- Fields with a space ahead of each but the first. -/
def joinG : Bool → List (List UInt8) → List UInt8
  | _, [] => []
  | first, f :: L => (if first = true then [] else [32]) ++ qf f ++ joinG false L
def joinF (L : List (List UInt8)) : List UInt8 := joinG true L
theorem join_snoc : ∀ (L : List (List UInt8)) (b : Bool) (f : List UInt8), joinG b (L ++ [f]) = joinG b L ++ (if (b && L.length == 0) = true then [] else [32]) ++ qf f
  | [], b, f => by cases b <;> simp [joinG]
  | g :: L, b, f => by
    rw [List.cons_append, joinG, joinG, join_snoc L false f]
    simp
theorem no34 {f : List UInt8} (h : bad3 f = false) : ∀ c ∈ f, c ≠ 34 := fun c hc e => by
  subst e
  have := List.any_eq_false.1 h 34 hc
  exact this (by decide)
/-- Between quotes everything is taken as it is. -/
theorem sp_within : ∀ (f a R : List UInt8), (∀ c ∈ f, c ≠ 34) → spG 2 a (f ++ 34 :: R) = spG 1 (a ++ f) R
  | [], a, R, _ => by rw [List.nil_append, sp2_cons, if_pos rfl, List.append_nil]
  | c :: f, a, R, h => by
    rw [List.cons_append, sp2_cons, if_neg (h c List.mem_cons_self), sp_within f _ R (fun x hx => h x (List.mem_cons_of_mem _ hx))]
    simp
theorem sp_plain : ∀ (f a R : List UInt8), (∀ c ∈ f, c ≠ 34 ∧ c ≠ 35 ∧ isBl c = false) → spG 1 a (f ++ R) = spG 1 (a ++ f) R
  | [], a, R, _ => by simp
  | c :: f, a, R, h => by
    obtain ⟨h1, h2, h3⟩ := h c List.mem_cons_self
    rw [List.cons_append, sp_more a _ h2 h3 h1, sp_plain f _ R (fun x hx => h x (List.mem_cons_of_mem _ hx))]
    simp
/-- A field that is written is read. -/
theorem sp_field {f : List UInt8} (R : List UInt8) (h : bad3 f = false) : spG 0 [] (qf f ++ R) = spG 1 f R := by
  unfold qf
  by_cases hq : quoted f = true
  · rw [if_pos hq, List.append_assoc, List.append_assoc]
    show spG 0 [] (34 :: (f ++ 34 :: R)) = _
    rw [sp0_cons, if_neg (by decide), if_neg (by decide), if_pos rfl, sp_within f [] R (no34 h), List.nil_append]
  · rw [if_neg hq]
    have hq2 : quoted f = false := by simpa using hq
    unfold quoted at hq2
    rw [Bool.or_eq_false_iff] at hq2
    have hall : ∀ c ∈ f, c ≠ 34 ∧ c ≠ 35 ∧ isBl c = false := fun c hc => by
      refine ⟨no34 h c hc, fun e => ?_, ?_⟩
      · subst e; exact List.any_eq_false.1 hq2.2 35 hc (by decide)
      · have := List.any_eq_false.1 hq2.2 c hc
        unfold isBl
        cases hb : (c == 32 || c == 9 || c == 13) with
        | false => rfl
        | true =>
          refine absurd ?_ this
          rw [Bool.or_eq_true, Bool.or_eq_true, beq_iff_eq, beq_iff_eq, beq_iff_eq] at hb
          rcases hb with (rfl | rfl) | rfl <;> decide
    match f, hall, hq2 with
    | [], _, hq2 => exact absurd hq2.1 (by decide)
    | c :: f, hall, _ =>
      obtain ⟨h1, h2, h3⟩ := hall c List.mem_cons_self
      rw [List.cons_append, sp_begin _ h2 h3, ← List.cons_append, sp_plain (c :: f) [] R hall, List.nil_append]
theorem sp_join : ∀ (L : List (List UInt8)) (b : Bool), (∀ f ∈ L, bad3 f = false) → spG 0 [] (joinG b L) = some L
  | [], _, _ => by rw [joinG]; exact sp0_nil
  | f :: L, b, h => by
    have ih := sp_join L false (fun g hg => h g (List.mem_cons_of_mem _ hg))
    have key : spG 0 [] (qf f ++ joinG false L) = some (f :: L) := by
      rw [sp_field _ (h f List.mem_cons_self)]
      cases L with
      | nil => rw [joinG, sp1_nil]
      | cons g L =>
        rw [joinG] at ih ⊢
        simp only [Bool.false_eq_true, if_false, List.cons_append] at ih ⊢
        rw [sp_ends _ _ (Or.inr (by decide)), ih]
        rfl
    rw [joinG]
    cases b with
    | true => simpa using key
    | false =>
      simp only [Bool.false_eq_true, if_false, List.cons_append]
      rw [sp_blank _ (by decide)]
      exact key
theorem bad0_app (A B : List UInt8) : bad0 (A ++ B) = (bad0 A || bad0 B) := by
  unfold bad0
  rw [Bool.eq_iff_iff]
  simp
  constructor
  · rintro ((h | h) | (h | h)) <;> simp [h]
  · rintro ((h | h) | (h | h)) <;> simp [h]
theorem bad0_field {f : List UInt8} (h : bad3 f = false) : bad0 (qf f) = false := by
  have h0 : bad0 f = false := by
    unfold bad0
    rw [Bool.or_eq_false_iff]
    constructor
    · cases hc : f.contains 0 with
      | false => rfl
      | true => exact absurd (by decide) (List.any_eq_false.1 h 0 (List.contains_iff_mem.1 hc))
    · cases hc : f.contains 10 with
      | false => rfl
      | true => exact absurd (by decide) (List.any_eq_false.1 h 10 (List.contains_iff_mem.1 hc))
  unfold qf
  by_cases hq : quoted f = true
  · rw [if_pos hq, bad0_app, bad0_app, h0]; rfl
  · rw [if_neg hq, h0]
theorem bad0_join : ∀ (L : List (List UInt8)) (b : Bool), (∀ f ∈ L, bad3 f = false) → bad0 (joinG b L) = false
  | [], _, _ => rfl
  | f :: L, b, h => by
    rw [joinG, bad0_app, bad0_app, bad0_join L false (fun g hg => h g (List.mem_cons_of_mem _ hg)), bad0_field (h f List.mem_cons_self)]
    cases b <;> rfl
theorem split_join {L : List (List UInt8)} (h : ∀ f ∈ L, bad3 f = false) (hl : (joinF L).length ≤ 600) : splitR (joinF L) = (L, 0) := by
  unfold splitR
  rw [if_neg (by omega), if_neg (by rw [joinF, bad0_join L true h]; decide), joinF, sp_join L true h]
end Fds
end Go.Proofs.YtpcnpacllkiieaaGreatDoor
