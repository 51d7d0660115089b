/-
  Plain words: a text's pieces between commas; strings.Split at a comma.
-/
import Derived.Lib.SplitLaws
namespace Go.Proofs.YtffbkmokjcgflaaDoor
namespace Val
/-- The pieces between commas; the first one has begun. -/
def cmG : List UInt8 → List UInt8 → List (List UInt8)
  | cur, [] => [cur]
  | cur, c :: T => if c = 44 then cur :: cmG [] T else cmG (cur ++ [c]) T
theorem cby_ge (l : List UInt8) (c : UInt8) : -1 ≤ Lib.indexByte l c := Lib.indexByte_ge l c
theorem cm_some : ∀ (T cur : List UInt8) (m : Nat), Lib.indexByte T 44 = m → cmG cur T = (cur ++ T.take m) :: cmG [] (T.drop (m + 1))
  | [], _, m, h => by rw [Lib.indexByte] at h; omega
  | c :: T, cur, m, h => by
    rw [Lib.indexByte] at h
    by_cases hc : c = 44
    · subst hc
      simp at h
      have : m = 0 := by omega
      subst this
      rw [cmG, if_pos rfl]; simp
    · have e : (c == 44) = false := beq_eq_false_iff_ne.2 hc
      rw [e] at h
      by_cases h1 : Lib.indexByte T 44 = -1
      · have e1 : (Lib.indexByte T 44 == -1) = true := beq_iff_eq.2 h1
        rw [e1] at h
        simp at h
      · have e1 : (Lib.indexByte T 44 == -1) = false := beq_eq_false_iff_ne.2 h1
        rw [e1] at h
        simp at h
        match m, h with
        | 0, h => exact absurd (show Lib.indexByte T 44 = -1 by omega) h1
        | m + 1, h =>
          rw [cmG, if_neg hc, cm_some T (cur ++ [c]) m (by omega)]
          simp
theorem cm_none : ∀ (T cur : List UInt8), Lib.indexByte T 44 = -1 → cmG cur T = [cur ++ T]
  | [], cur, _ => by rw [cmG, List.append_nil]
  | c :: T, cur, h => by
    rw [Lib.indexByte] at h
    by_cases hc : c = 44
    · subst hc; simp at h
    · have e : (c == 44) = false := beq_eq_false_iff_ne.2 hc
      rw [e] at h
      by_cases h1 : Lib.indexByte T 44 = -1
      · rw [cmG, if_neg hc, cm_none T _ h1]
        simp
      · have e1 : (Lib.indexByte T 44 == -1) = false := beq_eq_false_iff_ne.2 h1
        rw [e1] at h
        simp at h
        have := cby_ge T 44
        omega
theorem cm_len : ∀ (T cur : List UInt8), (cmG cur T).length ≤ T.length + 1
  | [], cur => by rw [cmG]; simp
  | c :: T, cur => by
    rw [cmG]
    have h1 := cm_len T []
    have h2 := cm_len T (cur ++ [c])
    split
    · simp only [List.length_cons]; omega
    · simp only [List.length_cons]; omega
theorem cm_sz : ∀ (T cur t : List UInt8), t ∈ cmG cur T → t.length ≤ cur.length + T.length
  | [], cur, t, h => by rw [cmG] at h; simp at h; subst h; simp
  | c :: T, cur, t, h => by
    rw [cmG] at h
    split at h
    · rcases List.mem_cons.1 h with rfl | h
      · simp
      · have := cm_sz T [] t h
        simp only [List.length_cons, List.length_nil] at *; omega
    · have := cm_sz T (cur ++ [c]) t h
      simp only [List.length_cons, List.length_append, List.length_nil] at *; omega
/-- strings.Split at a comma. -/
theorem split_cm : ∀ (n : Nat) (S : List UInt8), S.length ≤ n → Lib.splitK [44] 0 (Lib.count S [44]) S = cmG [] S
  | n, S, hn => by
    have hi := Lib.index_one S 44
    by_cases h1 : Lib.indexByte S 44 = -1
    · rw [Lib.count_miss (by rw [hi]; exact h1), Lib.splitK, cm_none S [] h1]; rfl
    · have hg := cby_ge S 44
      obtain ⟨m, hm⟩ : ∃ m : Nat, Lib.indexByte S 44 = m := ⟨(Lib.indexByte S 44).toNat, by omega⟩
      have hix : Lib.index S [44] = (m : Int) := by rw [hi]; exact hm
      have hlt : S.length ≠ 0 := fun e => by
        have := List.length_eq_zero_iff.1 e
        subst this
        rw [Lib.indexByte] at hm; omega
      rw [Lib.count_hit (by simp) hix, Nat.add_comm, Lib.splitK, hix]
      have e1 : ((m : Int) == -1) = false := beq_eq_false_iff_ne.2 (by omega)
      rw [e1, cm_some S [] m hm]
      have e2 : ((m : Int)).toNat = m := by omega
      match n, hn with
      | 0, hn => omega
      | n + 1, hn =>
        have ih := split_cm n (S.drop (m + 1)) (by rw [List.length_drop]; omega)
        rw [e2]
        simp only [Bool.false_eq_true, if_false, List.length_singleton, Nat.add_zero, List.nil_append]
        rw [ih]
theorem cm_split (s : ByteArray) : (Lib.splitB ⟨#[44]⟩ 0 (Lib.countB s ⟨#[44]⟩) s).map (·.data.toList) = cmG [] s.data.toList := by
  rw [Lib.splitB_data]
  exact split_cm _ _ (Nat.le_refl _)
theorem cm_app : ∀ (P cur R : List UInt8), (∀ c ∈ P, c ≠ 44) → cmG cur (P ++ 44 :: R) = (cur ++ P) :: cmG [] R
  | [], cur, R, _ => by rw [List.nil_append, cmG, if_pos rfl, List.append_nil]
  | c :: P, cur, R, h => by
    rw [List.cons_append, cmG, if_neg (h c List.mem_cons_self), cm_app P _ R (fun x hx => h x (List.mem_cons_of_mem _ hx))]
    simp
theorem cm_last : ∀ (P cur : List UInt8), (∀ c ∈ P, c ≠ 44) → cmG cur P = [cur ++ P]
  | [], cur, _ => by rw [cmG, List.append_nil]
  | c :: P, cur, h => by
    rw [cmG, if_neg (h c List.mem_cons_self), cm_last P _ (fun x hx => h x (List.mem_cons_of_mem _ hx))]
    simp
/-- Texts with a comma between. -/
def cmJ : List (List UInt8) → List UInt8
  | [] => []
  | [p] => p
  | p :: q :: L => p ++ 44 :: cmJ (q :: L)
theorem cm_join : ∀ L : List (List UInt8), L ≠ [] → (∀ p ∈ L, ∀ c ∈ p, c ≠ 44) → cmG [] (cmJ L) = L
  | [], h, _ => absurd rfl h
  | [p], _, h => by rw [cmJ, cm_last p [] (h p List.mem_cons_self)]; rfl
  | p :: q :: L, _, h => by
    rw [cmJ, cm_app p [] _ (h p List.mem_cons_self), cm_join (q :: L) (by simp) (fun x hx => h x (List.mem_cons_of_mem _ hx))]
    rfl
theorem cmJ_snoc : ∀ (L : List (List UInt8)) (p : List UInt8), L ≠ [] → cmJ (L ++ [p]) = cmJ L ++ 44 :: p
  | [], _, h => absurd rfl h
  | [q], p, _ => rfl
  | q :: r :: L, p, _ => by
    show q ++ 44 :: cmJ ((r :: L) ++ [p]) = _
    rw [cmJ_snoc (r :: L) p (by simp)]
    show _ = (q ++ 44 :: cmJ (r :: L)) ++ 44 :: p
    simp
end Val
end Go.Proofs.YtffbkmokjcgflaaDoor
