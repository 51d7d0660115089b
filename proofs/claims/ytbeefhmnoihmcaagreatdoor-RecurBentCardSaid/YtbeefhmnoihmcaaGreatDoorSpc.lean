/-
  Plain words: a text's pieces between signs d; strings.Split at one sign.
-/
import Derived.Lib.SplitLaws
namespace Go.Proofs.YtbeefhmnoihmcaaGreatDoor
namespace Spc
/-- The pieces between signs; the first one has begun. -/
def spG (d : UInt8) : List UInt8 → List UInt8 → List (List UInt8)
  | cur, [] => [cur]
  | cur, c :: T => if c = d then cur :: spG d [] T else spG d (cur ++ [c]) T
variable {d : UInt8}
theorem sby_ge (l : List UInt8) (c : UInt8) : -1 ≤ Lib.indexByte l c := Lib.indexByte_ge l c
theorem sp_some : ∀ (T cur : List UInt8) (m : Nat), Lib.indexByte T d = m → spG d cur T = (cur ++ T.take m) :: spG d [] (T.drop (m + 1))
  | [], _, m, h => by rw [Lib.indexByte] at h; omega
  | c :: T, cur, m, h => by
    rw [Lib.indexByte] at h
    by_cases hc : c = d
    · subst hc
      simp at h
      have : m = 0 := by omega
      subst this
      rw [spG, if_pos rfl]; simp
    · have e : (c == d) = false := beq_eq_false_iff_ne.2 hc
      rw [e] at h
      by_cases h1 : Lib.indexByte T d = -1
      · have e1 : (Lib.indexByte T d == -1) = true := beq_iff_eq.2 h1
        rw [e1] at h
        simp at h
      · have e1 : (Lib.indexByte T d == -1) = false := beq_eq_false_iff_ne.2 h1
        rw [e1] at h
        simp at h
        match m, h with
        | 0, h => exact absurd (show Lib.indexByte T d = -1 by omega) h1
        | m + 1, h =>
          rw [spG, if_neg hc, sp_some T (cur ++ [c]) m (by omega)]
          simp
theorem sp_none : ∀ (T cur : List UInt8), Lib.indexByte T d = -1 → spG d cur T = [cur ++ T]
  | [], cur, _ => by rw [spG, List.append_nil]
  | c :: T, cur, h => by
    rw [Lib.indexByte] at h
    by_cases hc : c = d
    · subst hc; simp at h
    · have e : (c == d) = false := beq_eq_false_iff_ne.2 hc
      rw [e] at h
      by_cases h1 : Lib.indexByte T d = -1
      · rw [spG, if_neg hc, sp_none T _ h1]
        simp
      · have e1 : (Lib.indexByte T d == -1) = false := beq_eq_false_iff_ne.2 h1
        rw [e1] at h
        simp at h
        have := sby_ge T d
        omega
theorem sp_len : ∀ (T cur : List UInt8), (spG d cur T).length ≤ T.length + 1
  | [], cur => by rw [spG]; simp
  | c :: T, cur => by
    rw [spG]
    have h1 := sp_len T []
    have h2 := sp_len T (cur ++ [c])
    split
    · simp only [List.length_cons]; omega
    · simp only [List.length_cons]; omega
theorem sp_sz : ∀ (T cur t : List UInt8), t ∈ spG d cur T → t.length ≤ cur.length + T.length
  | [], cur, t, h => by rw [spG] at h; simp at h; subst h; simp
  | c :: T, cur, t, h => by
    rw [spG] at h
    split at h
    · rcases List.mem_cons.1 h with rfl | h
      · simp
      · have := sp_sz T [] t h
        simp only [List.length_cons, List.length_nil] at *; omega
    · have := sp_sz T (cur ++ [c]) t h
      simp only [List.length_cons, List.length_append, List.length_nil] at *; omega
/-- strings.Split at a comma. -/
theorem split_sp : ∀ (n : Nat) (S : List UInt8), S.length ≤ n → Lib.splitK [d] 0 (Lib.count S [d]) S = spG d [] S
  | n, S, hn => by
    have hi := Lib.index_one S d
    by_cases h1 : Lib.indexByte S d = -1
    · rw [Lib.count_miss (by rw [hi]; exact h1), Lib.splitK, sp_none S [] h1]; rfl
    · have hg := sby_ge S d
      obtain ⟨m, hm⟩ : ∃ m : Nat, Lib.indexByte S d = m := ⟨(Lib.indexByte S d).toNat, by omega⟩
      have hix : Lib.index S [d] = (m : Int) := by rw [hi]; exact hm
      have hlt : S.length ≠ 0 := fun e => by
        have := List.length_eq_zero_iff.1 e
        subst this
        rw [Lib.indexByte] at hm; omega
      rw [Lib.count_hit (by simp) hix, Nat.add_comm, Lib.splitK, hix]
      have e1 : ((m : Int) == -1) = false := beq_eq_false_iff_ne.2 (by omega)
      rw [e1, sp_some S [] m hm]
      have e2 : ((m : Int)).toNat = m := by omega
      match n, hn with
      | 0, hn => omega
      | n + 1, hn =>
        have ih := split_sp n (S.drop (m + 1)) (by rw [List.length_drop]; omega)
        rw [e2]
        simp only [Bool.false_eq_true, if_false, List.length_singleton, Nat.add_zero, List.nil_append]
        rw [ih]
theorem sp_split (s : ByteArray) : (Lib.splitB ⟨#[d]⟩ 0 (Lib.countB s ⟨#[d]⟩) s).map (·.data.toList) = spG d [] s.data.toList := by
  rw [Lib.splitB_data]
  exact split_sp _ _ (Nat.le_refl _)
theorem sp_app : ∀ (P cur R : List UInt8), (∀ c ∈ P, c ≠ d) → spG d cur (P ++ d :: R) = (cur ++ P) :: spG d [] R
  | [], cur, R, _ => by rw [List.nil_append, spG, if_pos rfl, List.append_nil]
  | c :: P, cur, R, h => by
    rw [List.cons_append, spG, if_neg (h c List.mem_cons_self), sp_app P _ R (fun x hx => h x (List.mem_cons_of_mem _ hx))]
    simp
theorem sp_last : ∀ (P cur : List UInt8), (∀ c ∈ P, c ≠ d) → spG d cur P = [cur ++ P]
  | [], cur, _ => by rw [spG, List.append_nil]
  | c :: P, cur, h => by
    rw [spG, if_neg (h c List.mem_cons_self), sp_last P _ (fun x hx => h x (List.mem_cons_of_mem _ hx))]
    simp
end Spc
end Go.Proofs.YtbeefhmnoihmcaaGreatDoor
