/-
  The reference's Format: it says of every text what the program's says. (Written by gen/gen_fmx2.py.)
-/
import Derived.Test.YthefgagmjamdkaaGreatDoorBdV
namespace Go.Proofs.YthefgagmjamdkaaGreatDoor
open Go.RowKit
namespace Fm
open Sol
def gdAt (S : List UInt8) (j : Nat) : Bool := if S[j]? = some 47 then true else if S[j]? = some 37 then (decide (S[j + 1]? = some 115) || decide (S[j + 1]? = some 122)) else okB [43, 45] (S.getD j 0)
def rfB (S : List UInt8) : Bool := decide (1 ≤ S.length ∧ S.length ≤ 40) && ((List.range S.length).all (gdAt S) && decide (S.count 47 + S.count 37 < 2))
theorem rng_succ (f : Nat → Bool) (i : Nat) : (List.range (i + 1)).all f = ((List.range i).all f && f i) := by
  rw [List.range_succ, List.all_append]; simp
theorem rf_no {S : List UInt8} {k : Nat} (hk : k < S.length) (h : gdAt S k = false) : rfB S = false := by
  have : (List.range S.length).all (gdAt S) = false := by
    cases e : (List.range S.length).all (gdAt S) with
    | false => rfl
    | true =>
      have := List.all_eq_true.1 e k (List.mem_range.2 hk)
      rw [h] at this; cases this
  rw [rfB, this]; simp
/-- Both say the same. -/
theorem gd_mid {A B : List UInt8} {c : UInt8} : gdAt (A ++ c :: B) A.length = (if c = 47 then true else if c = 37 then (decide (B[0]? = some 115) || decide (B[0]? = some 122)) else okB [43, 45] c) := by
  have e1 : (A ++ c :: B)[A.length]? = some c := by simp
  have e2 : (A ++ c :: B)[A.length + 1]? = B[0]? := by
    rw [List.getElem?_append_right (by omega), show A.length + 1 - A.length = 1 by omega]; rfl
  have e3 : (A ++ c :: B).getD A.length 0 = c := by simp [List.getD]
  rw [gdAt, e1, e2, e3]
  simp only [Option.some.injEq]
theorem gd_all {S : List UInt8} (h : (List.range S.length).all (gdAt S) = true) {A B : List UInt8} {c : UInt8} (e : S = A ++ c :: B) : gdAt S A.length = true :=
  List.all_eq_true.1 h A.length (List.mem_range.2 (by rw [e]; simp))
theorem split_at (S : List UInt8) (k : Nat) (hk : k < S.length) : S = S.take k ++ S[k]'hk :: S.drop (k + 1) := by
  have := List.take_append_drop k S
  rw [List.drop_eq_getElem_cons hk] at this
  exact this.symm
theorem mem_split {S : List UInt8} {c : UInt8} (h : c ∈ S) : ∃ A B, S = A ++ c :: B := List.append_of_mem h
theorem only_iff (S : List UInt8) : onlyB S [43, 45, 37, 47] = true ↔ ∀ x ∈ S, x = 37 ∨ x = 47 ∨ okB [43, 45] x = true := by
  constructor
  · intro h x hx
    have hx := List.all_eq_true.1 h x hx
    by_cases e1 : x = 37
    · exact Or.inl e1
    · by_cases e2 : x = 47
      · exact Or.inr (Or.inl e2)
      · refine Or.inr (Or.inr ?_)
        rw [okB, Bool.or_eq_true] at hx ⊢
        rcases hx with hx | hx
        · exact Or.inl hx
        · have hx := of_decide_eq_true hx
          right
          refine decide_eq_true ?_
          by_cases e3 : x = 43
          · subst e3; decide
          · by_cases e4 : x = 45
            · subst e4; decide
            · exfalso
              have : Lib.indexByte [43, 45, 37, 47] x = -1 := ib_no x _ (fun y hy => by
                simp at hy
                rcases hy with rfl | rfl | rfl | rfl
                · exact fun e => e3 e.symm
                · exact fun e => e4 e.symm
                · exact fun e => e1 e.symm
                · exact fun e => e2 e.symm)
              omega
  · intro h
    refine List.all_eq_true.2 fun x hx => ?_
    rcases h x hx with rfl | rfl | h
    · decide +kernel
    · decide +kernel
    · exact ok_wide h
theorem cnt0 {S : List UInt8} {c : UInt8} (h : S.count c = 0) : ∀ x ∈ S, x ≠ c := fun x hx e => by
  subst e; exact absurd hx (List.count_eq_zero.1 h)
theorem gd_of {S : List UInt8} (h : ∀ A B c, S = A ++ c :: B → (c = 47 ∨ (c = 37 ∧ (B[0]? = some 115 ∨ B[0]? = some 122)) ∨ (c ≠ 37 ∧ okB [43, 45] c = true))) : (List.range S.length).all (gdAt S) = true := by
  refine List.all_eq_true.2 fun k hk => ?_
  have hk := List.mem_range.1 hk
  have e := split_at S k hk
  have hl : (S.take k).length = k := by rw [List.length_take]; omega
  have g := gd_mid (A := S.take k) (B := S.drop (k + 1)) (c := S[k]'hk)
  rw [← e, hl] at g
  rw [g]
  rcases h _ _ _ e with h | ⟨h, h2⟩ | ⟨h, h2⟩
  · rw [if_pos h]
  · rw [h, if_neg (by decide), if_pos rfl]
    rcases h2 with h2 | h2 <;> rw [h2] <;> rfl
  · by_cases e47 : S[k]'hk = 47
    · rw [if_pos e47]
    · rw [if_neg e47, if_neg h, h2]
theorem rf_eq (S : List UInt8) : rfB S = fmtB S := by
  rw [rfB, fmtB]
  by_cases hl : 1 ≤ S.length ∧ S.length ≤ 40
  · rw [decide_eq_true hl, Bool.true_and, Bool.true_and]
    by_cases ho : onlyB S [43, 45, 37, 47] = true
    · rw [ho, Bool.true_and]
      have hox := (only_iff S).1 ho
      by_cases hs : 47 ∈ S
      · rw [if_pos (decide_eq_true (ib_in 47 S hs))]
        have c47 : 1 ≤ S.count 47 := List.count_pos_iff.2 hs
        by_cases h37 : S.count 37 = 0
        · have ga : (List.range S.length).all (gdAt S) = true := gd_of fun A B c e => by
            have hc : c ∈ S := by rw [e]; simp
            have n37 := cnt0 h37 c hc
            rcases hox c hc with h | h | h
            · exact absurd h n37
            · exact Or.inl h
            · exact Or.inr (Or.inr ⟨n37, h⟩)
          rw [ga, h37, Bool.true_and]
          by_cases h1 : S.count 47 = 1
          · rw [h1]; rfl
          · rw [decide_eq_false (by omega), decide_eq_false (p := (S.count 47 : Int) = 1) (by omega)]; simp
        · rw [decide_eq_false (p := S.count 47 + S.count 37 < 2) (by omega), decide_eq_false (p := (S.count 37 : Int) = 0) (by omega)]; simp
      · have i47 : Lib.indexByte S 47 = -1 := ib_no 47 S (fun x hx e => hs (e ▸ hx))
        have n47 : S.count 47 = 0 := List.count_eq_zero.2 hs
        rw [if_neg (by rw [i47]; decide), n47, Nat.zero_add]
        by_cases h0 : S.count 37 = 0
        · have ga : (List.range S.length).all (gdAt S) = true := gd_of fun A B c e => by
            have hc : c ∈ S := by rw [e]; simp
            have n37 := cnt0 h0 c hc
            rcases hox c hc with h | h | h
            · exact absurd h n37
            · exact Or.inl h
            · exact Or.inr (Or.inr ⟨n37, h⟩)
          rw [ga, h0]; rfl
        · rw [decide_eq_false (p := (S.count 37 : Int) = 0) (by omega), Bool.false_or]
          by_cases h1 : S.count 37 = 1
          · have hm : 37 ∈ S := List.count_pos_iff.1 (by omega)
            obtain ⟨A, B, e⟩ := mem_split hm
            have hcc : A.count 37 = 0 ∧ B.count 37 = 0 := by
              rw [e, List.count_append, List.count_cons] at h1
              simp at h1; omega
            have a37 := cnt0 hcc.1
            have b37 := cnt0 hcc.2
            have hind : ∀ d : UInt8, Lib.contains S [37, d] = decide (B[0]? = some d) := fun d => by
              have hx : Lib.index S [37, d] = if Lib.index (37 :: B) [37, d] = -1 then -1 else Lib.index (37 :: B) [37, d] + A.length := by rw [e]; exact idx_app 37 [d] (37 :: B) A a37
              have hB := idx_no 37 [d] B b37
              rw [Lib.contains, hx, Lib.index, hB]
              match B with
              | [] => simp [List.isPrefixOf]
              | b :: B' =>
                by_cases hd : d = b
                · subst hd; simp [List.isPrefixOf] <;> omega
                · simp [List.isPrefixOf, hd, Ne.symm hd]
            have ga : (List.range S.length).all (gdAt S) = (decide (B[0]? = some 115) || decide (B[0]? = some 122)) := by
              by_cases hb : B[0]? = some 115 ∨ B[0]? = some 122
              · have : (decide (B[0]? = some 115) || decide (B[0]? = some 122)) = true := by
                  rcases hb with h | h <;> rw [h] <;> rfl
                rw [this]
                refine gd_of fun A' B' c' e' => ?_
                have hc : c' ∈ S := by rw [e']; simp
                by_cases h37 : c' = 37
                · right; left
                  refine ⟨h37, ?_⟩
                  subst h37
                  have hcc' : A'.count 37 = 0 ∧ B'.count 37 = 0 := by
                    rw [e', List.count_append, List.count_cons] at h1
                    simp at h1; omega
                  have hBB : B' = B := by
                    have k1 := e'.symm.trans e
                    rcases List.append_eq_append_iff.1 k1 with ⟨u, hu, hv⟩ | ⟨u, hu, hv⟩
                    · cases u with
                      | nil => simp at hv; exact hv
                      | cons x u =>
                        have : (37 : UInt8) = x := (List.cons.inj hv).1
                        exact absurd (this.symm) (cnt0 hcc.1 x (by rw [hu]; simp))
                    · cases u with
                      | nil => simp at hv; exact hv.symm
                      | cons x u =>
                        have : (37 : UInt8) = x := (List.cons.inj hv).1
                        exact absurd (this.symm) (cnt0 hcc'.1 x (by rw [hu]; simp))
                  rw [hBB]; exact hb
                · rcases hox c' hc with h | h | h
                  · exact absurd h h37
                  · exact Or.inl h
                  · exact Or.inr (Or.inr ⟨h37, h⟩)
              · have n1 : ¬ B[0]? = some 115 := fun h => hb (Or.inl h)
                have n2 : ¬ B[0]? = some 122 := fun h => hb (Or.inr h)
                rw [decide_eq_false n1, decide_eq_false n2]
                cases ek : (List.range S.length).all (gdAt S) with
                | false => rfl
                | true =>
                  have := gd_all ek e
                  rw [e, gd_mid, if_neg (by decide), if_pos rfl, decide_eq_false n1, decide_eq_false n2] at this
                  cases this
            rw [ga, hind 115, hind 122, h1]
            simp
          · rw [decide_eq_false (p := S.count 37 < 2) (by omega), decide_eq_false (p := (S.count 37 : Int) = 1) (by omega)]; simp
    · have hof : onlyB S [43, 45, 37, 47] = false := by simpa using ho
      rw [hof, Bool.false_and]
      have : ∃ x ∈ S, ¬ (x = 37 ∨ x = 47 ∨ okB [43, 45] x = true) := by
        have hn := mt (only_iff S).2 ho
        exact Classical.not_forall.1 hn |>.imp fun x hx => by
          have := Classical.not_forall.1 hx
          exact ⟨this.1, this.2⟩
      obtain ⟨x, hx, hn⟩ := this
      obtain ⟨A, B, e⟩ := mem_split hx
      have gf : gdAt S A.length = false := by
        rw [e, gd_mid, if_neg (fun h => hn (Or.inr (Or.inl h))), if_neg (fun h => hn (Or.inl h))]
        cases ek : okB [43, 45] x with
        | false => rfl
        | true => exact absurd (Or.inr (Or.inr ek)) hn
      cases ek : (List.range S.length).all (gdAt S) with
      | false => rfl
      | true =>
        have := gd_all ek e
        rw [gf] at this; cases this
  · rw [decide_eq_false hl, Bool.false_and, Bool.false_and]
end Fm
end Go.Proofs.YthefgagmjamdkaaGreatDoor
