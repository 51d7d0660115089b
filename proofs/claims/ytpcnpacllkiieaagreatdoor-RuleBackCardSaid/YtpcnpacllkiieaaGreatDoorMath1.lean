/-
  Plain facts on digits: the value of a list of digits, that it is bounded, that it is read back.
-/
import Derived.Lib.ItoaNum
namespace Go.Proofs.YtpcnpacllkiieaaGreatDoor
namespace Sol
def isDig (c : UInt8) : Bool := decide (48 ≤ (c.toNat : Int) ∧ (c.toNat : Int) ≤ 57)
def digVal (l : List UInt8) : Int := l.foldl (fun n c => 10 * n + ((c.toNat : Int) - 48)) 0
def parseB (l : List UInt8) : Bool := decide (1 ≤ l.length ∧ l.length ≤ 18) && l.all isDig
def parseV (l : List UInt8) : Int := if parseB l then digVal l else 0

theorem isDig_iff (c : UInt8) : isDig c = true ↔ 48 ≤ (c.toNat : Int) ∧ (c.toNat : Int) ≤ 57 := by simp [isDig]
theorem isDig_lo {c : UInt8} (h : ¬ 48 ≤ (c.toNat : Int)) : isDig c = false := by simp [isDig]; omega
theorem isDig_hi {c : UInt8} (h : ¬ (c.toNat : Int) ≤ 57) : isDig c = false := by simp [isDig]; omega
theorem digVal_nil : digVal [] = 0 := rfl
theorem digVal_snoc (l : List UInt8) (c : UInt8) : digVal (l ++ [c]) = 10 * digVal l + ((c.toNat : Int) - 48) := by simp [digVal, List.foldl_append]
theorem all_snoc (l : List UInt8) (c : UInt8) : (l ++ [c]).all isDig = (l.all isDig && isDig c) := by simp [List.all_append]
theorem digVal_rev : ∀ (l : List UInt8), l.all isDig = true → 0 ≤ digVal l.reverse ∧ digVal l.reverse < 10 ^ l.length
  | [], _ => by simp [digVal]
  | c :: l, h => by
    rw [List.all_cons, Bool.and_eq_true] at h
    have ih := digVal_rev l h.2
    have hc := (isDig_iff c).1 h.1
    rw [List.reverse_cons, digVal_snoc, List.length_cons, Int.pow_succ]
    omega
theorem digVal_bd (l : List UInt8) (h : l.all isDig = true) : 0 ≤ digVal l ∧ digVal l < 10 ^ l.length := by
  have := digVal_rev l.reverse (by rw [List.all_reverse]; exact h)
  simpa using this
theorem pow10_le {k : Nat} (h : k ≤ 18) : (10 : Int) ^ k ≤ 1000000000000000000 := by
  have : (10 : Nat) ^ k ≤ 10 ^ 18 := Nat.pow_le_pow_right (by decide) h
  have h2 : ((10 ^ k : Nat) : Int) ≤ ((10 ^ 18 : Nat) : Int) := Int.ofNat_le.2 this
  simpa using h2
theorem digVal_le (l : List UInt8) (h : l.all isDig = true) (k : l.length ≤ 18) : 0 ≤ digVal l ∧ digVal l < 1000000000000000000 := by
  have := digVal_bd l h
  have := pow10_le k
  omega
theorem digVal_le17 (l : List UInt8) (h : l.all isDig = true) (k : l.length ≤ 17) : 0 ≤ digVal l ∧ digVal l < 100000000000000000 := by
  have h1 := digVal_bd l h
  have : (10 : Nat) ^ l.length ≤ 10 ^ 17 := Nat.pow_le_pow_right (by decide) k
  have h2 : ((10 ^ l.length : Nat) : Int) ≤ ((10 ^ 17 : Nat) : Int) := Int.ofNat_le.2 this
  have h3 : (10 : Int) ^ l.length ≤ 100000000000000000 := by simpa using h2
  omega
theorem list_len (s : ByteArray) : s.data.toList.length = s.size := by rw [Array.length_toList]; rfl
theorem parseB_short {l : List UInt8} (h : ¬ 1 ≤ l.length) : parseB l = false := by simp [parseB]; omega
theorem parseB_long {l : List UInt8} (h : ¬ l.length ≤ 18) : parseB l = false := by simp [parseB]; omega
theorem parseB_yes {l : List UInt8} (h1 : 1 ≤ l.length) (h2 : l.length ≤ 18) (h : l.all isDig = true) : parseB l = true := by simp only [parseB, h, h1, h2]; rfl
theorem parseB_at {l : List UInt8} {k : Nat} (hk : k < l.length) (h : isDig l[k] = false) : parseB l = false := by
  have : l.all isDig = false := by
    rw [List.all_eq_false]
    exact ⟨l[k], List.getElem_mem hk, by simp [h]⟩
  simp [parseB, this]
theorem parseV_no {l : List UInt8} (h : parseB l = false) : parseV l = 0 := by simp [parseV, h]
theorem parseV_yes {l : List UInt8} (h : parseB l = true) : parseV l = digVal l := by simp [parseV, h]
theorem take_snoc (s : ByteArray) (k : Nat) (h : k < s.size) : s.data.toList.take (k + 1) = s.data.toList.take k ++ [s[k]] := by
  rw [List.take_succ_eq_append_getElem (by simpa using h)]; rfl

/-- The digits of a number that is written, with noughts ahead. -/
def padL (d : Nat) (l : List UInt8) : List UInt8 := List.replicate (d - l.length) 48 ++ l
def textL (n digits : Int) : List UInt8 := if n < 0 then [] else padL (if 0 ≤ digits ∧ digits ≤ 20 then digits.toNat else 0) (Lib.decDigits n.toNat)

theorem dig_toNat {k : Nat} (h : k < 10) : (UInt8.ofNat (48 + k)).toNat = 48 + k := by
  rw [UInt8.toNat_ofNat']; omega
theorem isDig_of {k : Nat} (h : k < 10) : isDig (UInt8.ofNat (48 + k)) = true := by
  rw [isDig_iff, dig_toNat h]; omega
theorem decDigits_all (u : Nat) : (Lib.decDigits u).all isDig = true := by
  induction u using Nat.strongRecOn with
  | _ u ih =>
    rw [Lib.decDigits]
    split
    · rename_i h
      rw [List.all_cons, isDig_of h]; rfl
    · rename_i h
      rw [all_snoc, ih (u / 10) (by omega), isDig_of (k := u % 10) (by omega)]; rfl
theorem decDigits_val (u : Nat) : digVal (Lib.decDigits u) = (u : Int) := by
  induction u using Nat.strongRecOn with
  | _ u ih =>
    rw [Lib.decDigits]
    split
    · rename_i h
      have := dig_toNat h
      simp only [digVal, List.foldl_cons, List.foldl_nil, this]; omega
    · rename_i h
      rw [digVal_snoc, ih (u / 10) (by omega), dig_toNat (k := u % 10) (by omega)]; omega
theorem digVal_zeros (k : Nat) (l : List UInt8) : digVal (List.replicate k 48 ++ l) = digVal l := by
  induction k with
  | zero => simp
  | succ k ih =>
    rw [List.replicate_succ, List.cons_append]
    have : digVal (48 :: (List.replicate k 48 ++ l)) = digVal (List.replicate k 48 ++ l) := by
      simp only [digVal, List.foldl_cons]; rfl
    rw [this, ih]
theorem padL_val (d u : Nat) : digVal (padL d (Lib.decDigits u)) = (u : Int) := by rw [padL, digVal_zeros, decDigits_val]
theorem padL_all (d u : Nat) : (padL d (Lib.decDigits u)).all isDig = true := by
  rw [padL, List.all_append, decDigits_all, Bool.and_true, List.all_eq_true]
  intro x hx
  rw [(List.mem_replicate.1 hx).2]; decide
theorem padL_len (d : Nat) (l : List UInt8) : (padL d l).length = max d l.length := by
  simp [padL]; omega
theorem nDigits_le {k u : Nat} (h : u < 10 ^ (k + 1)) : Lib.nDigits u ≤ k + 1 := by
  induction k generalizing u with
  | zero => rw [Lib.nDigits_small (by simpa using h)]; exact Nat.le_refl _
  | succ k ih =>
    by_cases h1 : u < 10
    · rw [Lib.nDigits_small h1]; omega
    · rw [Lib.nDigits_big h1]
      have := ih (u := u / 10) (by rw [Nat.pow_succ] at h; omega)
      omega
theorem decDigits_len {k u : Nat} (h : u < 10 ^ (k + 1)) : (Lib.decDigits u).length ≤ k + 1 := by
  rw [Lib.decDigits_length]; exact nDigits_le h
theorem decDigits_pos (u : Nat) : 1 ≤ (Lib.decDigits u).length := by rw [Lib.decDigits_length]; exact Lib.nDigits_pos u
theorem decDigits_head (u : Nat) (h : 2 ≤ (Lib.decDigits u).length) : ∃ c r, Lib.decDigits u = c :: r ∧ c ≠ 48 := by
  induction u using Nat.strongRecOn with
  | _ u ih =>
    rw [Lib.decDigits] at h ⊢
    split
    · rename_i h1; rw [dif_pos h1] at h; simp at h
    · rename_i h1
      by_cases h2 : 2 ≤ (Lib.decDigits (u / 10)).length
      · obtain ⟨c, r, e, n⟩ := ih (u / 10) (by omega) h2
        exact ⟨c, r ++ [UInt8.ofNat (48 + u % 10)], by rw [e]; rfl, n⟩
      · have h3 : u / 10 < 10 := by
          by_cases h4 : u / 10 < 10
          · exact h4
          · exfalso; apply h2
            rw [Lib.decDigits_length, Lib.nDigits_big h4]
            have := Lib.nDigits_pos (u / 10 / 10); omega
        refine ⟨UInt8.ofNat (48 + u / 10), [UInt8.ofNat (48 + u % 10)], ?_, ?_⟩
        · rw [Lib.decDigits, dif_pos h3]; rfl
        · intro e
          have := congrArg UInt8.toNat e
          rw [dig_toNat h3] at this
          simp at this; omega
end Sol
end Go.Proofs.YtpcnpacllkiieaaGreatDoor
