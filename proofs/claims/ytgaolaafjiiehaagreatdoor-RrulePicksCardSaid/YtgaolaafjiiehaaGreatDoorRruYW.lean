/-
  Plain words: a list that is gathered round by round.
-/

namespace Go.Proofs.YtgaolaafjiiehaaGreatDoor
namespace Rru
/-- What is gathered in so many rounds. -/
def wL (T : Nat → Option Int) : Nat → List Int
  | 0 => []
  | i + 1 => wL T i ++ (T i).toList
theorem wL_app (T : Nat → Option Int) (i : Nat) : ∀ b : Nat, ∃ S, wL T (i + b) = wL T i ++ S
  | 0 => ⟨[], by simp⟩
  | b + 1 => by
    obtain ⟨S, h⟩ := wL_app T i b
    exact ⟨S ++ (T (i + b)).toList, by rw [show i + (b + 1) = (i + b) + 1 by omega, wL, h, List.append_assoc]⟩
theorem wL_le {T : Nat → Option Int} {i j : Nat} (h : i ≤ j) : (wL T i).length ≤ (wL T j).length := by
  obtain ⟨S, e⟩ := wL_app T i (j - i)
  rw [show i + (j - i) = j by omega] at e
  rw [e, List.length_append]; omega
theorem wL_one {T : Nat → Option Int} {i : Nat} {a : Int} (h : T i = some a) : (wL T (i + 1)).length = (wL T i).length + 1 := by
  rw [wL, h, List.length_append]; rfl
theorem wL_len (T : Nat → Option Int) (i : Nat) : (wL T (i + 1)).length ≤ (wL T i).length + 1 := by
  rw [wL, List.length_append]
  cases T i <;> simp
theorem wL_many {T : Nat → Option Int} {b : Nat} : ∀ n : Nat, (∀ s, s < n → ∃ i a, b * s ≤ i ∧ i < b * s + b ∧ T i = some a) → n ≤ (wL T (b * n)).length
  | 0, _ => Nat.zero_le _
  | n + 1, h => by
    have ih := wL_many n (fun s hs => h s (by omega))
    obtain ⟨i, a, h1, h2, h3⟩ := h n (by omega)
    have k1 := wL_le (T := T) h1
    have k2 := wL_one h3
    have k3 := wL_le (T := T) (show i + 1 ≤ b * (n + 1) by rw [Nat.mul_add]; omega)
    omega
theorem wL_take {T : Nat → Option Int} {n i k : Nat} (hi : (wL T i).length = n) (hk : n ≤ (wL T k).length) : (wL T k).take n = wL T i := by
  by_cases h : i ≤ k
  · obtain ⟨S, e⟩ := wL_app T i (k - i)
    rw [show i + (k - i) = k by omega] at e
    rw [e, ← hi, List.take_left]
  · obtain ⟨S, e⟩ := wL_app T k (i - k)
    rw [show k + (i - k) = i by omega] at e
    have l := congrArg List.length e
    rw [List.length_append] at l
    have s : S = [] := List.length_eq_zero_iff.1 (by omega)
    rw [s, List.append_nil] at e
    rw [← e, ← hi, List.take_length]
theorem wL_pick (p : Nat → Bool) (f : Nat → Int) : ∀ k : Nat, wL (fun i => if p i = true then some (f i) else none) k = ((List.range k).filter p).map f
  | 0 => rfl
  | k + 1 => by
    rw [wL, wL_pick p f k, List.range_succ, List.filter_append, List.map_append, List.filter_cons]
    cases h : p k <;> simp
end Rru
end Go.Proofs.YtgaolaafjiiehaaGreatDoor
