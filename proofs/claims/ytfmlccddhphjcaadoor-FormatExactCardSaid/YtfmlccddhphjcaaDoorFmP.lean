/-
  FormatParts, its plain words: where signs stand in a text of two names.
-/
import Derived.Test.YtfmlccddhphjcaaDoorFmS
namespace Go.Proofs.YtfmlccddhphjcaaDoor
open Go.RowKit
namespace Fm
open Sol
theorem idx_ge : ∀ (l s : List UInt8), -1 ≤ Lib.index l s
  | [], s => by unfold Lib.index; split <;> omega
  | b :: l, s => by
    have := idx_ge l s
    unfold Lib.index
    split
    · omega
    · split <;> omega
theorem idx_app (p : UInt8) (P R : List UInt8) : ∀ A : List UInt8, (∀ x ∈ A, x ≠ p) → Lib.index (A ++ R) (p :: P) = if Lib.index R (p :: P) = -1 then -1 else Lib.index R (p :: P) + A.length
  | [], _ => by
    rw [List.nil_append]
    split
    · rename_i h; exact h
    · simp
  | b :: A, h => by
    have ih := idx_app p P R A (fun x hx => h x (List.mem_cons_of_mem _ hx))
    have hb : b ≠ p := h b (List.mem_cons_self ..)
    have hp : (p :: P).isPrefixOf (b :: (A ++ R)) = false := by
      simp [List.isPrefixOf, Ne.symm hb]
    have hg := idx_ge R (p :: P)
    rw [List.cons_append, Lib.index, hp, ih]
    by_cases k : Lib.index R (p :: P) = -1
    · simp [k]
    · rw [if_neg k, if_neg k]
      have : (Lib.index R (p :: P) + (A.length : Int) == -1) = false := beq_eq_false_iff_ne.2 (by omega)
      rw [this, List.length_cons]
      simp; omega
theorem idx_hit (p : UInt8) (P A B : List UInt8) (h : ∀ x ∈ A, x ≠ p) : Lib.index (A ++ (p :: P ++ B)) (p :: P) = A.length := by
  have h0 : Lib.index (p :: P ++ B) (p :: P) = 0 := by
    rw [List.cons_append, Lib.index, if_pos]
    exact List.isPrefixOf_iff_prefix.2 ⟨B, rfl⟩
  rw [idx_app p P _ A h, h0]; simp
theorem idx_no (p : UInt8) (P A : List UInt8) (h : ∀ x ∈ A, x ≠ p) : Lib.index A (p :: P) = -1 := by
  have := idx_app p P [] A h
  rw [List.append_nil] at this
  rw [this, if_pos (show Lib.index [] (p :: P) = -1 from rfl)]
theorem cut_hit (p : UInt8) (P A B : List UInt8) (h : ∀ x ∈ A, x ≠ p) : Lib.cut (A ++ (p :: P ++ B)) (p :: P) = (A, B, true) := by
  unfold Lib.cut
  rw [idx_hit p P A B h, if_pos (by omega)]
  simp
theorem cut_no (S P : List UInt8) (h : Lib.index S P = -1) : Lib.cut S P = (S, [], false) := by
  unfold Lib.cut
  rw [h]; rfl
theorem ib_no (c : UInt8) : ∀ A : List UInt8, (∀ x ∈ A, x ≠ c) → Lib.indexByte A c = -1
  | [], _ => rfl
  | b :: A, h => by
    have ih := ib_no c A (fun x hx => h x (List.mem_cons_of_mem _ hx))
    have hb : (b == c) = false := beq_eq_false_iff_ne.2 (h b (List.mem_cons_self ..))
    rw [Lib.indexByte, hb, ih]; rfl
theorem ib_in (c : UInt8) : ∀ A : List UInt8, c ∈ A → 0 ≤ Lib.indexByte A c
  | [], h => by simp at h
  | b :: A, h => by
    rw [Lib.indexByte]
    by_cases e : b = c
    · rw [if_pos (by simp [e])]; omega
    · have hm : c ∈ A := by
        rcases List.mem_cons.1 h with h | h
        · exact absurd h.symm e
        · exact h
      have ih := ib_in c A hm
      rw [if_neg (by simp [e])]
      have : (Lib.indexByte A c == -1) = false := beq_eq_false_iff_ne.2 (by omega)
      rw [this]; simp; omega
/-- A text of letters, digits, + and -. -/
theorem ok_ne {c : UInt8} (h : okB [43, 45] c = true) : c ≠ 37 ∧ c ≠ 47 := by
  constructor
  · rintro rfl; exact absurd h (by decide +kernel)
  · rintro rfl; exact absurd h (by decide +kernel)
theorem only_ne {S : List UInt8} (h : onlyB S [43, 45] = true) : (∀ x ∈ S, x ≠ 37) ∧ (∀ x ∈ S, x ≠ 47) :=
  ⟨fun x hx => (ok_ne (List.all_eq_true.1 h x hx)).1, fun x hx => (ok_ne (List.all_eq_true.1 h x hx)).2⟩
theorem ok_wide {c : UInt8} (h : okB [43, 45] c = true) : okB [43, 45, 37, 47] c = true := by
  rw [okB, Bool.or_eq_true] at h ⊢
  rcases h with h | h
  · exact Or.inl h
  · right
    have h := of_decide_eq_true h
    refine decide_eq_true ?_
    by_cases e1 : c = 43
    · subst e1; decide +kernel
    · by_cases e2 : c = 45
      · subst e2; decide +kernel
      · exfalso
        have : Lib.indexByte [43, 45] c = -1 := ib_no c _ (fun x hx => by
          simp at hx
          rcases hx with rfl | rfl
          · exact fun e => e1 e.symm
          · exact fun e => e2 e.symm)
        omega
theorem only_wide {S : List UInt8} (h : onlyB S [43, 45] = true) : onlyB S [43, 45, 37, 47] = true :=
  List.all_eq_true.2 fun x hx => ok_wide (List.all_eq_true.1 h x hx)
theorem only_app (S T O : List UInt8) : onlyB (S ++ T) O = (onlyB S O && onlyB T O) := by unfold onlyB; rw [List.all_append]
theorem cnt_no {S : List UInt8} {c : UInt8} (h : ∀ x ∈ S, x ≠ c) : S.count c = 0 := List.count_eq_zero.2 (fun hm => h c hm rfl)
section
variable {A B L : List UInt8} {off save : Int} (hA : onlyB A [43, 45] = true) (hB : onlyB B [43, 45] = true) (hL : onlyB L [43, 45] = true)
  (a1 : 1 ≤ A.length) (a2 : A.length ≤ 10) (b1 : 1 ≤ B.length) (b2 : B.length ≤ 10) (k2 : L.length ≤ 6) (hl : L ≠ [45]) (o1 : -172800 < off) (o2 : off < 172800)
include hL k2 hl in
theorem let_ok : letB L = true := by rw [letB, decide_eq_true k2, decide_eq_false hl, hL]; rfl
theorem rgt_ok {S : List UInt8} (h : onlyB S [43, 45] = true) (h1 : 1 ≤ S.length) (h2 : S.length ≤ 40) : rgtB S = true := by rw [rgtB, decide_eq_true ⟨h1, h2⟩, h]; rfl
include hA hB hL a1 a2 b2 k2 hl o1 o2 in
theorem nm_s : nmR (A ++ ([37, 115] ++ B)) L off save = (A ++ L ++ B, 0) := by
  obtain ⟨x1, x2⟩ := only_ne hA
  obtain ⟨y1, y2⟩ := only_ne hB
  have f : fmtB (A ++ ([37, 115] ++ B)) = true := by
    have e1 : Lib.indexByte (A ++ ([37, 115] ++ B)) 47 = -1 := ib_no _ _ (fun x hx => by
      rcases List.mem_append.1 hx with h | h
      · exact x2 x h
      · rcases List.mem_append.1 h with h | h
        · simp at h; rcases h with rfl | rfl <;> decide
        · exact y2 x h)
    have e2 : (A ++ ([37, 115] ++ B)).count 37 = 1 := by
      rw [List.count_append, List.count_append, cnt_no x1, cnt_no y1]; decide
    have e3 : Lib.contains (A ++ ([37, 115] ++ B)) [37, 115] = true := by
      rw [Lib.contains, show ([37, 115] : List UInt8) ++ B = 37 :: [115] ++ B from rfl, idx_hit 37 [115] A B x1]
      exact decide_eq_true (by omega)
    have e4 : onlyB (A ++ ([37, 115] ++ B)) [43, 45, 37, 47] = true := by
      rw [only_app, only_app, only_wide hA, only_wide hB]; decide +kernel
    rw [fmtB, e1, e2, e3, e4, decide_eq_true (by simp; omega)]; rfl
  have g : filL (A ++ ([37, 115] ++ B)) L (shS off) save = A ++ L ++ B := by
    have e1 : Lib.cut (A ++ ([37, 115] ++ B)) [47] = (A ++ ([37, 115] ++ B), [], false) := cut_no _ _ (idx_no 47 [] _ (fun x hx => by
      rcases List.mem_append.1 hx with h | h
      · exact x2 x h
      · rcases List.mem_append.1 h with h | h
        · simp at h; rcases h with rfl | rfl <;> decide
        · exact y2 x h))
    have e2 : Lib.cut (A ++ ([37, 115] ++ B)) [37, 115] = (A, B, true) := cut_hit 37 [115] A B x1
    rw [filL, e1, e2]; rfl
  have r : rgtB (A ++ L ++ B) = true := rgt_ok (by rw [only_app, only_app, hA, hL, hB]; rfl) (by simp; omega) (by simp; omega)
  have e : shE off = 0 := by rw [shE, if_pos ⟨o1, o2⟩]
  rw [nmR, nmB, f, g, r, e, let_ok hL k2 hl]; rfl
include hA hB hL a1 a2 b1 b2 k2 hl o1 o2 in
theorem nm_sl : nmR (A ++ ([47] ++ B)) L off save = (if save = 0 then A else B, 0) := by
  obtain ⟨x1, x2⟩ := only_ne hA
  obtain ⟨y1, y2⟩ := only_ne hB
  have f : fmtB (A ++ ([47] ++ B)) = true := by
    have e1 : 0 ≤ Lib.indexByte (A ++ ([47] ++ B)) 47 := ib_in _ _ (by simp)
    have e2 : (A ++ ([47] ++ B)).count 37 = 0 := by
      rw [List.count_append, List.count_append, cnt_no x1, cnt_no y1]; decide
    have e3 : (A ++ ([47] ++ B)).count 47 = 1 := by
      rw [List.count_append, List.count_append, cnt_no x2, cnt_no y2]; decide
    have e4 : onlyB (A ++ ([47] ++ B)) [43, 45, 37, 47] = true := by
      rw [only_app, only_app, only_wide hA, only_wide hB]; decide +kernel
    rw [fmtB, e2, e3, e4, decide_eq_true e1, decide_eq_true (by simp; omega)]; rfl
  have g : filL (A ++ ([47] ++ B)) L (shS off) save = if save = 0 then A else B := by
    have e1 : Lib.cut (A ++ ([47] ++ B)) [47] = (A, B, true) := cut_hit 47 [] A B x2
    rw [filL, e1, if_pos rfl]
  have r : rgtB (if save = 0 then A else B) = true := by
    split
    · exact rgt_ok hA a1 (by omega)
    · exact rgt_ok hB b1 (by omega)
  have e : shE off = 0 := by rw [shE, if_pos ⟨o1, o2⟩]
  rw [nmR, nmB, f, g, r, e, let_ok hL k2 hl]; rfl
include hA hL a1 a2 k2 hl o1 o2 in
theorem nm_0 : nmR A L off save = (A, 0) := by
  obtain ⟨x1, x2⟩ := only_ne hA
  have f : fmtB A = true := by
    have e1 : Lib.indexByte A 47 = -1 := ib_no _ _ x2
    rw [fmtB, e1, cnt_no x1, only_wide hA, decide_eq_true (by omega)]; rfl
  have g : filL A L (shS off) save = A := by
    rw [filL, cut_no _ _ (idx_no 47 [] A x2), cut_no _ _ (idx_no 37 [115] A x1), cut_no _ _ (idx_no 37 [122] A x1)]; rfl
  have r := rgt_ok hA a1 (by omega)
  have e : shE off = 0 := by rw [shE, if_pos ⟨o1, o2⟩]
  rw [nmR, nmB, f, g, r, e, let_ok hL k2 hl]; rfl
include hA hL a1 a2 k2 hl o1 o2 in
theorem nm_z : nmR (A ++ [37, 122]) L off save = (A ++ shS off, 0) := by
  obtain ⟨x1, x2⟩ := only_ne hA
  obtain ⟨c, R, f1, _, _, f4, f5⟩ := sh_form o1 o2
  have sl := sh_len off
  have n47 : ∀ x ∈ A ++ [37, 122], x ≠ 47 := fun x hx => by
    rcases List.mem_append.1 hx with h | h
    · exact x2 x h
    · simp at h; rcases h with rfl | rfl <;> decide
  have i115 : Lib.index (A ++ [37, 122]) [37, 115] = -1 := by
    rw [idx_app 37 [115] [37, 122] A x1, if_pos (by decide +kernel)]
  have h122 := idx_hit 37 [122] A [] x1
  rw [List.append_nil] at h122
  have f : fmtB (A ++ [37, 122]) = true := by
    have e1 : Lib.indexByte (A ++ [37, 122]) 47 = -1 := ib_no _ _ n47
    have e2 : (A ++ [37, 122]).count 37 = 1 := by
      rw [List.count_append, cnt_no x1]; decide
    have e3 : Lib.contains (A ++ [37, 122]) [37, 122] = true := by
      rw [Lib.contains, h122]; exact decide_eq_true (by omega)
    have e5 : Lib.contains (A ++ [37, 122]) [37, 115] = false := by
      rw [Lib.contains, i115]; rfl
    have e4 : onlyB (A ++ [37, 122]) [43, 45, 37, 47] = true := by
      rw [only_app, only_wide hA]; decide +kernel
    rw [fmtB, e1, e2, e3, e4, e5, decide_eq_true (by simp; omega)]; rfl
  have g : filL (A ++ [37, 122]) L (shS off) save = A ++ shS off := by
    have e2 := cut_hit 37 [122] A [] x1
    rw [List.append_nil] at e2
    rw [filL, cut_no _ _ (idx_no 47 [] _ n47), cut_no _ _ i115, e2]
    simp
  have so : onlyB (shS off) [43, 45] = true := by
    rw [rgtB, Bool.and_eq_true] at f4; exact f4.2
  have r : rgtB (A ++ shS off) = true := rgt_ok (by rw [only_app, hA, so]; rfl) (by simp; omega) (by simp; omega)
  rw [nmR, nmB, f, g, r, f5, let_ok hL k2 hl]; rfl
end
end Fm
end Go.Proofs.YtfmlccddhphjcaaDoor
