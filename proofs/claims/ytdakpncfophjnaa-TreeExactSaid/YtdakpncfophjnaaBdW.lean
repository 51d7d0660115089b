/-
  Several texts in one (FldL, FldK).
-/
import Derived.Test.YtdakpncfophjnaaBdAC
/-
  FoldExact: the walk.
-/
namespace Go.Proofs.Ytdakpncfophjnaa
open Go.RowKit
namespace Fld
open Opn (sv TxtV)
theorem hit_snoc {S : List UInt8} {k : Nat} (h : k < S.length) : hit (S.take (k + 1)) = (hit (S.take k) || le S[k]) := by
  rw [List.take_succ_eq_append_getElem h, hit, List.any_append]
  simp [hit]
theorem hit_at {S : List UInt8} {k : Nat} (h : k < S.length) (hl : le S[k] = true) : hit S = true := List.any_eq_true.2 ⟨S[k], List.getElem_mem h, hl⟩
theorem le_cases (c : UInt8) : (c = 10 ∧ le c = true) ∨ (c = 13 ∧ le c = true) ∨ (((c.toNat : Int) == 10) = false ∧ ((c.toNat : Int) == 13) = false ∧ le c = false) := by
  by_cases h1 : c = 10
  · exact Or.inl ⟨h1, by rw [h1]; rfl⟩
  · by_cases h2 : c = 13
    · exact Or.inr (Or.inl ⟨h2, by rw [h2]; rfl⟩)
    · refine Or.inr (Or.inr ⟨Esc.u8_ne (n := 10) (by decide) h1, Esc.u8_ne (n := 13) (by decide) h2, ?_⟩)
      unfold le
      simp [h1, h2]
theorem at_list {s : ByteArray} {S : List UInt8} (hS : s.data.toList = S) (k : Nat) (h : k < s.size) : ∃ h2 : k < S.length, s[k] = S[k] := by
  have hl : S.length = s.size := by rw [← hS]; simp
  refine ⟨by omega, ?_⟩
  rw [at_get hS k h, List.getD_eq_getElem?_getD, List.getElem?_eq_getElem (by omega)]
  rfl
end Fld
end Go.Proofs.Ytdakpncfophjnaa
/-
  FoldBack: the walk.
-/
namespace Go.Proofs.Ytdakpncfophjnaa
open Go.RowKit
namespace Fld
open Opn (sv TxtV Strs lst)
theorem unf_plain : ∀ (A P R : List UInt8), hit A = false → unfG P (A ++ R) = unfG (P ++ A) R
  | [], P, R, _ => by simp
  | c :: A, P, R, h => by
    unfold hit at h
    rw [List.any_cons, Bool.or_eq_false_iff] at h
    have h13 : c ≠ 13 := fun e => by rw [e] at h; exact absurd h.1 (by decide)
    have h10 : c ≠ 10 := fun e => by rw [e] at h; exact absurd h.1 (by decide)
    rw [List.cons_append, unf_any _ _ h13 h10, unf_plain A (P ++ [c]) R h.2]
    simp
theorem ok_plain : ∀ (A R : List UInt8), hit A = false → okCR (A ++ R) = okCR R
  | [], R, _ => rfl
  | c :: A, R, h => by
    unfold hit at h
    rw [List.any_cons, Bool.or_eq_false_iff] at h
    have h13 : (c != 13) = true := by
      have : c ≠ 13 := fun e => by rw [e] at h; exact absurd h.1 (by decide)
      simpa [bne] using this
    rw [List.cons_append, ok_cons, h13, ok_plain A R h.2]
    rfl
theorem ok_crlf (R : List UInt8) : okCR (13 :: 10 :: R) = okCR R := rfl
theorem ok_sp (R : List UInt8) : okCR (32 :: R) = okCR R := rfl
theorem hit_take {S : List UInt8} (h : hit S = false) (n : Nat) : hit (S.take n) = false := by
  unfold hit at h ⊢
  rw [List.any_eq_false] at h ⊢
  exact fun x hx => h x (List.mem_of_mem_take hx)
theorem hit_drop {S : List UInt8} (h : hit S = false) (n : Nat) : hit (S.drop n) = false := by
  unfold hit at h ⊢
  rw [List.any_eq_false] at h ⊢
  exact fun x hx => h x (List.mem_of_mem_drop hx)
theorem unf_piece : ∀ (f : Nat) (S P R : List UInt8) (room : Nat), 4 ≤ room → S.length ≤ f → hit S = false → blank R.head? = false → unfG P (foldG f S room ++ R) = (P ++ S) :: unfG [] R ∧ okCR (foldG f S room ++ R) = okCR R
  | 0, S, P, R, room, _, hl, hh, hb => by
    have : S = [] := List.length_eq_zero_iff.1 (by omega)
    subst this
    rw [foldG]
    exact ⟨by show unfG P (13 :: 10 :: R) = _; rw [unf_cr, unf_lf _ _ hb, List.append_nil], rfl⟩
  | f + 1, S, P, R, room, hr, hl, hh, hb => by
    rw [foldG]
    by_cases h : S.length ≤ room
    · rw [if_pos h]
      constructor
      · rw [List.append_assoc, unf_plain _ _ _ hh]
        show unfG (P ++ S) (13 :: 10 :: R) = _
        rw [unf_cr, unf_lf _ _ hb]
      · rw [List.append_assoc, ok_plain _ _ hh]
        exact ok_crlf R
    · have hc := cutN_bd S room (by omega)
      rw [if_neg h]
      obtain ⟨h1, h2⟩ := unf_piece f (S.drop (cutN S room)) (P ++ S.take (cutN S room)) R 74 (by omega) (by rw [List.length_drop]; omega) (hit_drop hh _) hb
      constructor
      · rw [List.append_assoc, List.append_assoc, unf_plain _ _ _ (hit_take hh _)]
        show unfG _ (13 :: 10 :: 32 :: (foldG f (S.drop (cutN S room)) 74 ++ R)) = _
        rw [unf_cr, unf_fold _ _ (Or.inl rfl), h1, List.append_assoc, List.take_append_drop]
      · rw [List.append_assoc, List.append_assoc, ok_plain _ _ (hit_take hh _)]
        show okCR (13 :: 10 :: 32 :: (foldG f (S.drop (cutN S room)) 74 ++ R)) = _
        rw [ok_crlf, ok_sp, h2]
def cat (Ls : List (List UInt8)) : List UInt8 := Ls.flatMap foldL
theorem cat_snoc (Ls : List (List UInt8)) (S : List UInt8) : cat (Ls ++ [S]) = cat Ls ++ foldL S := by simp [cat]
theorem foldL_head {S : List UInt8} (h : 0 < S.length) : (foldL S).head? = S.head? := by
  rw [List.head?_eq_getElem?, List.head?_eq_getElem?]
  unfold foldL
  by_cases hl : S.length ≤ 75
  · rw [foldR_last hl, List.getElem?_append_left h]
  · have hc := cutN_bd S 75 (by omega)
    rw [foldR_more (by omega) (by omega), List.append_assoc, List.getElem?_append_left (by rw [List.length_take]; omega), List.getElem?_take_of_lt (by omega)]
theorem unf_cat : ∀ Ls : List (List UInt8), (∀ S ∈ Ls, hit S = false ∧ 0 < S.length ∧ blank S.head? = false) → unfS (cat Ls) = Ls ∧ okCR (cat Ls) = true
  | [], _ => ⟨rfl, rfl⟩
  | S :: Ls, h => by
    obtain ⟨h1, h2⟩ := unf_cat Ls (fun T hT => h T (List.mem_cons_of_mem _ hT))
    obtain ⟨a1, a2, a3⟩ := h S List.mem_cons_self
    have hb : blank (cat Ls).head? = false := by
      cases Ls with
      | nil => rfl
      | cons T Ls =>
        obtain ⟨b1, b2, b3⟩ := h T (by simp)
        have : (cat (T :: Ls)).head? = T.head? := by
          rw [← foldL_head b2]
          show (foldL T ++ _).head? = _
          cases hf : foldL T with
          | nil =>
            have := foldL_head b2
            rw [hf] at this
            cases T with
            | nil => simp at b2
            | cons c T => cases this
          | cons c R => rfl
        rw [this]; exact b3
    obtain ⟨c1, c2⟩ := unf_piece S.length S [] (cat Ls) 75 (by omega) (Nat.le_refl _) a1 hb
    refine ⟨?_, ?_⟩
    · show unfG [] (foldL S ++ cat Ls) = _
      unfold foldL foldR
      rw [c1]
      show S :: unfS (cat Ls) = _
      rw [h1]
    · show okCR (foldL S ++ cat Ls) = true
      unfold foldL foldR
      rw [c2, h2]
theorem foldL_len (S : List UInt8) : (foldL S).length ≤ 4 * S.length + 2 := by
  have key : ∀ (n : Nat) (S : List UInt8) (room : Nat), 74 ≤ room → S.length ≤ n → (foldG n S room).length ≤ 4 * S.length + 2 := by
    intro n
    induction n with
    | zero => intro S room _ h; rw [foldG, List.length_append]; simp; omega
    | succ n ih =>
      intro S room hr h
      rw [foldG]
      by_cases hl : S.length ≤ room
      · rw [if_pos hl, List.length_append]; simp; omega
      · have hc := cutN_bd S room (by omega)
        have := ih (S.drop (cutN S room)) 74 (by omega) (by rw [List.length_drop]; omega)
        rw [if_neg hl]
        simp only [List.length_append, List.length_take, List.length_drop, List.length_cons, List.length_nil] at this ⊢
        omega
  exact key S.length S 75 (by omega) (Nat.le_refl _)
/-- The first k lines: each may be folded. -/
def OkL (ls : Nat → ByteArray) (k : Nat) : Prop := ∀ j, j < k → hit (ls j).data.toList = false ∧ 0 < (ls j).size
/-- None of the first k begins with a blank. -/
def NoB (ls : Nat → ByteArray) (k : Nat) : Prop := ∀ j, j < k → blank (ls j).data.toList.head? = false
theorem lst_succ (ls : Nat → ByteArray) (k : Nat) : lst ls (k + 1) = lst ls k ++ [(ls k).data.toList] := by
  unfold Opn.lst
  rw [List.range_succ, List.map_append]; rfl
end Fld
end Go.Proofs.Ytdakpncfophjnaa
