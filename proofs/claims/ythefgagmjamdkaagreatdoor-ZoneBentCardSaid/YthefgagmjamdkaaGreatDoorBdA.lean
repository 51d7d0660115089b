/-
  Several texts in one (NumD, Math1, CivMath, ClkMath, ClkForms, AtMath).
-/
import Derived.Test.YthefgagmjamdkaaGreatDoorRows
import Derived.WalkKit
import Derived.WalkSpells
import Derived.WalkLawsBesides
import Derived.Deep.QuietTactic
import Derived.BigQuiet
import Derived.Lib.Hide
import Derived.Lib.ItoaNum
import Derived.Lib.IndexLaws
import Derived.Lib.Strings
/-
  Plain words and facts for package num.
-/
namespace Go.Proofs.YthefgagmjamdkaaGreatDoor
open Go.RowKit
namespace Sol
def inB (a : Int) : Bool := decide (-4611686018427387904 ≤ a ∧ a ≤ 4611686018427387904)
def addB (a b : Int) : Bool := inB a && inB b && inB (a + b)
def addV (a b : Int) : Int := if addB a b then a + b else 0
def mulB (a b : Int) : Bool := inB a && inB b && inB (a * b)
def mulV (a b : Int) : Int := if mulB a b then a * b else 0
def divB (a b : Int) : Bool := decide (1 ≤ b) && inB a && inB b
def divQ (a b : Int) : Int := if divB a b then a / b else 0
def divR (a b : Int) : Int := if divB a b then a % b else 0
theorem inB_iff (a : Int) : inB a = true ↔ -4611686018427387904 ≤ a ∧ a ≤ 4611686018427387904 := by simp [inB]
theorem inB_no {a : Int} (h : ¬ (-4611686018427387904 ≤ a ∧ a ≤ 4611686018427387904)) : inB a = false := by
  cases e : inB a with
  | false => rfl
  | true => exact absurd ((inB_iff a).1 e) h
theorem inB_lo {a : Int} (h : ¬ -4611686018427387904 ≤ a) : inB a = false := inB_no (fun x => h x.1)
theorem inB_hi {a : Int} (h : ¬ a ≤ 4611686018427387904) : inB a = false := inB_no (fun x => h x.2)
theorem addB_a {a b : Int} (h : inB a = false) : addB a b = false := by simp [addB, h]
theorem addB_b {a b : Int} (h : inB b = false) : addB a b = false := by simp [addB, h]
theorem addB_s {a b : Int} (h : inB (a + b) = false) : addB a b = false := by simp [addB, h]
theorem addB_mk {a b : Int} (ha : inB a = true) (hb : inB b = true) (h : inB (a + b) = true) : addB a b = true := by simp [addB, ha, hb, h]
theorem addV_no {a b : Int} (h : addB a b = false) : addV a b = 0 := by simp [addV, h]
theorem addV_yes {a b : Int} (h : addB a b = true) : addV a b = a + b := by simp [addV, h]
theorem mulB_a {a b : Int} (h : inB a = false) : mulB a b = false := by simp [mulB, h]
theorem mulB_b {a b : Int} (h : inB b = false) : mulB a b = false := by simp [mulB, h]
theorem mulB_s {a b : Int} (h : inB (a * b) = false) : mulB a b = false := by simp [mulB, h]
theorem mulB_mk {a b : Int} (ha : inB a = true) (hb : inB b = true) (h : inB (a * b) = true) : mulB a b = true := by simp [mulB, ha, hb, h]
theorem mulV_no {a b : Int} (h : mulB a b = false) : mulV a b = 0 := by simp [mulV, h]
theorem mulV_yes {a b : Int} (h : mulB a b = true) : mulV a b = a * b := by simp [mulV, h]
theorem divB_1 {a b : Int} (h : ¬ 1 ≤ b) : divB a b = false := by simp [divB, h]
theorem divB_a {a b : Int} (h : inB a = false) : divB a b = false := by simp [divB, h]
theorem divB_b {a b : Int} (h : inB b = false) : divB a b = false := by simp [divB, h]
theorem divB_mk {a b : Int} (h : 1 ≤ b) (ha : inB a = true) (hb : inB b = true) : divB a b = true := by simp [divB, ha, hb, h]
theorem divQ_no {a b : Int} (h : divB a b = false) : divQ a b = 0 := by simp [divQ, h]
theorem divR_no {a b : Int} (h : divB a b = false) : divR a b = 0 := by simp [divR, h]
theorem divQ_yes {a b : Int} (h : divB a b = true) : divQ a b = a / b := by simp [divQ, h]
theorem divR_yes {a b : Int} (h : divB a b = true) : divR a b = a % b := by simp [divR, h]
end Sol
theorem ret_ib {a a' : Int} {b b' : Bool} (h : a = a') (k : b = b') : Ending.returned (.tuple #[.int .i64 a, .bool b]) = .returned (.tuple #[.int .i64 a', .bool b']) := by rw [h, k]
theorem ret_iib {a a' c c' : Int} {b b' : Bool} (h : a = a') (h' : c = c') (k : b = b') : Ending.returned (.tuple #[.int .i64 a, .int .i64 c, .bool b]) = .returned (.tuple #[.int .i64 a', .int .i64 c', .bool b']) := by rw [h, h', k]
theorem ret_b {b b' : Bool} (k : b = b') : Ending.returned (.bool b) = .returned (.bool b') := by rw [k]
theorem ret_i {b b' : Int} (k : b = b') : Ending.returned (.int .i64 b) = .returned (.int .i64 b') := by rw [k]

theorem mul_le {x y : Nat} (hx : 0 < x) : y ≤ 4611686018427387904 / x ↔ x * y ≤ 4611686018427387904 := by
  rw [Nat.le_div_iff_mul_le hx, Nat.mul_comm]
theorem abs_in {z : Int} : (-4611686018427387904 ≤ z ∧ z ≤ 4611686018427387904) ↔ z.natAbs ≤ 4611686018427387904 := by omega
theorem div_abs {a : Int} (_ha : 0 < a.natAbs) : (4611686018427387904 : Int) / (a.natAbs : Int) = ((4611686018427387904 / a.natAbs : Nat) : Int) := by
  rw [Int.natCast_ediv]; rfl

theorem tq_neg {a b : Int} (hb : 1 ≤ b) (h : a.tmod b < 0) : a / b = a.tdiv b - 1 ∧ a % b = a.tmod b + b := by
  have h1 := Int.tdiv_eq_ediv (a := a) (b := b)
  have h2 := Int.tmod_eq_emod (a := a) (b := b)
  have h3 := Int.emod_nonneg a (show b ≠ 0 by omega)
  have hs : b.sign = 1 := Int.sign_eq_one_of_pos (by omega)
  split at h2
  · omega
  · rename_i hn
    rw [if_neg hn, hs] at h1
    omega
theorem tq_nn {a b : Int} (hb : 1 ≤ b) (h : ¬ a.tmod b < 0) : a / b = a.tdiv b ∧ a % b = a.tmod b := by
  have h1 := Int.tdiv_eq_ediv (a := a) (b := b)
  have h2 := Int.tmod_eq_emod (a := a) (b := b)
  have h3 := Int.emod_lt_of_pos a (show 0 < b by omega)
  split at h2
  · rename_i hn
    rw [if_pos hn] at h1
    omega
  · omega
theorem tq_bd {a b : Int} (hb : 1 ≤ b) (h1 : -4611686018427387904 ≤ a) (h2 : a ≤ 4611686018427387904) :
    (-4611686018427387904 ≤ a.tdiv b ∧ a.tdiv b ≤ 4611686018427387904) ∧ (-b < a.tmod b ∧ a.tmod b < b) := by
  have k := Int.natAbs_tdiv_le_natAbs a b
  have m1 := Int.tmod_lt_of_pos a (show 0 < b by omega)
  have m2 := Int.lt_tmod_of_pos a (show 0 < b by omega)
  omega

end Go.Proofs.YthefgagmjamdkaaGreatDoor
/-
  Plain facts on digits: the value of a list of digits, that it is bounded, that it is read back.
-/
namespace Go.Proofs.YthefgagmjamdkaaGreatDoor
namespace Sol
def isDig (c : UInt8) : Bool := decide (48 ≤ (c.toNat : Int) ∧ (c.toNat : Int) ≤ 57)
def digVal (l : List UInt8) : Int := l.foldl (fun n c => 10 * n + ((c.toNat : Int) - 48)) 0
def parseB (l : List UInt8) : Bool := decide (1 ≤ l.length ∧ l.length ≤ 18) && l.all isDig
def parseV (l : List UInt8) : Int := if parseB l then digVal l else 0

theorem isDig_iff (c : UInt8) : isDig c = true ↔ 48 ≤ (c.toNat : Int) ∧ (c.toNat : Int) ≤ 57 := by simp [isDig]
theorem isDig_lo {c : UInt8} (h : ¬ 48 ≤ (c.toNat : Int)) : isDig c = false := by simp [isDig]; omega
theorem isDig_hi {c : UInt8} (h : ¬ (c.toNat : Int) ≤ 57) : isDig c = false := by simp [isDig]; omega
theorem digVal_nil : digVal [] = 0 := rfl
theorem digVal_snoc (l : List UInt8) (c : UInt8) : digVal (l ++ [c]) = 10 * digVal l + ((c.toNat : Int) - 48) := by simp [digVal, List.foldl_append]
theorem all_snoc (l : List UInt8) (c : UInt8) : (l ++ [c]).all isDig = (l.all isDig && isDig c) := by simp [List.all_append]
theorem digVal_rev : ∀ (l : List UInt8), l.all isDig = true → 0 ≤ digVal l.reverse ∧ digVal l.reverse < 10 ^ l.length
  | [], _ => by simp [digVal]
  | c :: l, h => by
    rw [List.all_cons, Bool.and_eq_true] at h
    have ih := digVal_rev l h.2
    have hc := (isDig_iff c).1 h.1
    rw [List.reverse_cons, digVal_snoc, List.length_cons, Int.pow_succ]
    omega
theorem digVal_bd (l : List UInt8) (h : l.all isDig = true) : 0 ≤ digVal l ∧ digVal l < 10 ^ l.length := by
  have := digVal_rev l.reverse (by rw [List.all_reverse]; exact h)
  simpa using this
theorem pow10_le {k : Nat} (h : k ≤ 18) : (10 : Int) ^ k ≤ 1000000000000000000 := by
  have : (10 : Nat) ^ k ≤ 10 ^ 18 := Nat.pow_le_pow_right (by decide) h
  have h2 : ((10 ^ k : Nat) : Int) ≤ ((10 ^ 18 : Nat) : Int) := Int.ofNat_le.2 this
  simpa using h2
theorem digVal_le (l : List UInt8) (h : l.all isDig = true) (k : l.length ≤ 18) : 0 ≤ digVal l ∧ digVal l < 1000000000000000000 := by
  have := digVal_bd l h
  have := pow10_le k
  omega
theorem digVal_le17 (l : List UInt8) (h : l.all isDig = true) (k : l.length ≤ 17) : 0 ≤ digVal l ∧ digVal l < 100000000000000000 := by
  have h1 := digVal_bd l h
  have : (10 : Nat) ^ l.length ≤ 10 ^ 17 := Nat.pow_le_pow_right (by decide) k
  have h2 : ((10 ^ l.length : Nat) : Int) ≤ ((10 ^ 17 : Nat) : Int) := Int.ofNat_le.2 this
  have h3 : (10 : Int) ^ l.length ≤ 100000000000000000 := by simpa using h2
  omega
theorem list_len (s : ByteArray) : s.data.toList.length = s.size := by rw [Array.length_toList]; rfl
theorem parseB_short {l : List UInt8} (h : ¬ 1 ≤ l.length) : parseB l = false := by simp [parseB]; omega
theorem parseB_long {l : List UInt8} (h : ¬ l.length ≤ 18) : parseB l = false := by simp [parseB]; omega
theorem parseB_yes {l : List UInt8} (h1 : 1 ≤ l.length) (h2 : l.length ≤ 18) (h : l.all isDig = true) : parseB l = true := by simp only [parseB, h, h1, h2]; rfl
theorem parseB_at {l : List UInt8} {k : Nat} (hk : k < l.length) (h : isDig l[k] = false) : parseB l = false := by
  have : l.all isDig = false := by
    rw [List.all_eq_false]
    exact ⟨l[k], List.getElem_mem hk, by simp [h]⟩
  simp [parseB, this]
theorem parseV_no {l : List UInt8} (h : parseB l = false) : parseV l = 0 := by simp [parseV, h]
theorem parseV_yes {l : List UInt8} (h : parseB l = true) : parseV l = digVal l := by simp [parseV, h]
theorem take_snoc (s : ByteArray) (k : Nat) (h : k < s.size) : s.data.toList.take (k + 1) = s.data.toList.take k ++ [s[k]] := by
  rw [List.take_succ_eq_append_getElem (by simpa using h)]; rfl

/-- The digits of a number that is written, with noughts ahead. -/
def padL (d : Nat) (l : List UInt8) : List UInt8 := List.replicate (d - l.length) 48 ++ l
def textL (n digits : Int) : List UInt8 := if n < 0 then [] else padL (if 0 ≤ digits ∧ digits ≤ 20 then digits.toNat else 0) (Lib.decDigits n.toNat)

theorem dig_toNat {k : Nat} (h : k < 10) : (UInt8.ofNat (48 + k)).toNat = 48 + k := by
  rw [UInt8.toNat_ofNat']; omega
theorem isDig_of {k : Nat} (h : k < 10) : isDig (UInt8.ofNat (48 + k)) = true := by
  rw [isDig_iff, dig_toNat h]; omega
theorem decDigits_all (u : Nat) : (Lib.decDigits u).all isDig = true := by
  induction u using Nat.strongRecOn with
  | _ u ih =>
    rw [Lib.decDigits]
    split
    · rename_i h
      rw [List.all_cons, isDig_of h]; rfl
    · rename_i h
      rw [all_snoc, ih (u / 10) (by omega), isDig_of (k := u % 10) (by omega)]; rfl
theorem decDigits_val (u : Nat) : digVal (Lib.decDigits u) = (u : Int) := by
  induction u using Nat.strongRecOn with
  | _ u ih =>
    rw [Lib.decDigits]
    split
    · rename_i h
      have := dig_toNat h
      simp only [digVal, List.foldl_cons, List.foldl_nil, this]; omega
    · rename_i h
      rw [digVal_snoc, ih (u / 10) (by omega), dig_toNat (k := u % 10) (by omega)]; omega
theorem digVal_zeros (k : Nat) (l : List UInt8) : digVal (List.replicate k 48 ++ l) = digVal l := by
  induction k with
  | zero => simp
  | succ k ih =>
    rw [List.replicate_succ, List.cons_append]
    have : digVal (48 :: (List.replicate k 48 ++ l)) = digVal (List.replicate k 48 ++ l) := by
      simp only [digVal, List.foldl_cons]; rfl
    rw [this, ih]
theorem padL_val (d u : Nat) : digVal (padL d (Lib.decDigits u)) = (u : Int) := by rw [padL, digVal_zeros, decDigits_val]
theorem padL_all (d u : Nat) : (padL d (Lib.decDigits u)).all isDig = true := by
  rw [padL, List.all_append, decDigits_all, Bool.and_true, List.all_eq_true]
  intro x hx
  rw [(List.mem_replicate.1 hx).2]; decide
theorem padL_len (d : Nat) (l : List UInt8) : (padL d l).length = max d l.length := by
  simp [padL]; omega
theorem nDigits_le {k u : Nat} (h : u < 10 ^ (k + 1)) : Lib.nDigits u ≤ k + 1 := by
  induction k generalizing u with
  | zero => rw [Lib.nDigits_small (by simpa using h)]; exact Nat.le_refl _
  | succ k ih =>
    by_cases h1 : u < 10
    · rw [Lib.nDigits_small h1]; omega
    · rw [Lib.nDigits_big h1]
      have := ih (u := u / 10) (by rw [Nat.pow_succ] at h; omega)
      omega
theorem decDigits_len {k u : Nat} (h : u < 10 ^ (k + 1)) : (Lib.decDigits u).length ≤ k + 1 := by
  rw [Lib.decDigits_length]; exact nDigits_le h
theorem decDigits_pos (u : Nat) : 1 ≤ (Lib.decDigits u).length := by rw [Lib.decDigits_length]; exact Lib.nDigits_pos u
theorem decDigits_head (u : Nat) (h : 2 ≤ (Lib.decDigits u).length) : ∃ c r, Lib.decDigits u = c :: r ∧ c ≠ 48 := by
  induction u using Nat.strongRecOn with
  | _ u ih =>
    rw [Lib.decDigits] at h ⊢
    split
    · rename_i h1; rw [dif_pos h1] at h; simp at h
    · rename_i h1
      by_cases h2 : 2 ≤ (Lib.decDigits (u / 10)).length
      · obtain ⟨c, r, e, n⟩ := ih (u / 10) (by omega) h2
        exact ⟨c, r ++ [UInt8.ofNat (48 + u % 10)], by rw [e]; rfl, n⟩
      · have h3 : u / 10 < 10 := by
          by_cases h4 : u / 10 < 10
          · exact h4
          · exfalso; apply h2
            rw [Lib.decDigits_length, Lib.nDigits_big h4]
            have := Lib.nDigits_pos (u / 10 / 10); omega
        refine ⟨UInt8.ofNat (48 + u / 10), [UInt8.ofNat (48 + u % 10)], ?_, ?_⟩
        · rw [Lib.decDigits, dif_pos h3]; rfl
        · intro e
          have := congrArg UInt8.toNat e
          rw [dig_toNat h3] at this
          simp at this; omega
end Sol
end Go.Proofs.YthefgagmjamdkaaGreatDoor
/-
  Plain facts on the calendar: long years, lengths of months, the number of a date and back.
-/
namespace Go.Proofs.YthefgagmjamdkaaGreatDoor
namespace Cal
def long (y : Int) : Bool := decide (y % 4 = 0 ∧ (y % 100 ≠ 0 ∨ y % 400 = 0))
def lp (y : Int) : Int := if long y then 1 else 0
/-- How many days of a year that is not long stand ahead of a month. -/
def cum0 (m : Int) : Int := if m ≤ 1 then 0 else if m = 2 then 31 else if m = 3 then 59 else if m = 4 then 90 else if m = 5 then 120 else if m = 6 then 151 else if m = 7 then 181 else if m = 8 then 212 else if m = 9 then 243 else if m = 10 then 273 else if m = 11 then 304 else 334
def cum (y m : Int) : Int := cum0 m + (if 2 < m then lp y else 0)
def mlen (y m : Int) : Int := if m = 2 then 28 + lp y else if m = 4 ∨ m = 6 ∨ m = 9 ∨ m = 11 then 30 else if 1 ≤ m ∧ m ≤ 12 then 31 else 0
def ny (y : Int) : Int := 365 * y + ((y + 3) / 4 - (y + 99) / 100 + (y + 399) / 400) - 719528
def valid (y m d : Int) : Bool := decide (0 ≤ y ∧ y ≤ 10000 ∧ 1 ≤ d ∧ d ≤ mlen y m)
def num (y m d : Int) : Int := ny y + cum y m + d - 1
def wday (n : Int) : Int := (n + 4) % 7
/-- The year of a day. -/
def yr (n : Int) : Int := if n < ny ((n + 719528) * 400 / 146097) then (n + 719528) * 400 / 146097 - 1 else if ny ((n + 719528) * 400 / 146097 + 1) ≤ n then (n + 719528) * 400 / 146097 + 1 else (n + 719528) * 400 / 146097
/-- The month of a day of a year. -/
def mon (y r : Int) : Int := if cum y 12 ≤ r then 12 else if cum y 11 ≤ r then 11 else if cum y 10 ≤ r then 10 else if cum y 9 ≤ r then 9 else if cum y 8 ≤ r then 8 else if cum y 7 ≤ r then 7 else if cum y 6 ≤ r then 6 else if cum y 5 ≤ r then 5 else if cum y 4 ≤ r then 4 else if cum y 3 ≤ r then 3 else if cum y 2 ≤ r then 2 else 1

theorem lp_01 (y : Int) : 0 ≤ lp y ∧ lp y ≤ 1 := by unfold lp; split <;> omega
theorem ny_succ (y : Int) : ny (y + 1) = ny y + 365 + lp y := by
  unfold ny lp long
  by_cases h : y % 4 = 0 ∧ (y % 100 ≠ 0 ∨ y % 400 = 0)
  · rw [if_pos (by simpa using h)]; omega
  · rw [if_neg (by simpa using h)]; omega
theorem ny_mono {a b : Int} (h : a ≤ b) : ny a + 365 * (b - a) ≤ ny b := by unfold ny; omega
theorem ny_bd {y : Int} (h0 : 0 ≤ y) (h1 : y ≤ 10001) : -719528 ≤ ny y ∧ ny y ≤ 2933263 := by unfold ny; omega
theorem ny_10001 : ny 10001 = 2933263 := rfl
theorem guess {n : Int} (h0 : -719528 ≤ n) (h1 : n ≤ 2933262) (g : Int) (hg : g = (n + 719528) * 400 / 146097) : 0 ≤ g ∧ g ≤ 10000 + 1 ∧ ny (g - 1) ≤ n ∧ n < ny (g + 2) := by
  subst hg
  unfold ny
  omega
theorem ny_inj {a b n : Int} (a1 : ny a ≤ n) (a2 : n < ny (a + 1)) (b1 : ny b ≤ n) (b2 : n < ny (b + 1)) : a = b := by
  rcases Int.lt_trichotomy a b with h | h | h
  · have := ny_mono (a := a + 1) (b := b) (by omega); omega
  · exact h
  · have := ny_mono (a := b + 1) (b := a) (by omega); omega
theorem yr_spec {n : Int} (h0 : -719528 ≤ n) (h1 : n ≤ 2933262) : ny (yr n) ≤ n ∧ n < ny (yr n + 1) ∧ 0 ≤ yr n ∧ yr n ≤ 10000 := by
  obtain ⟨g0, g1, g2, g3⟩ := guess h0 h1 _ rfl
  have hb : ∀ y : Int, ny y ≤ n → y ≤ 10000 := fun y hy => by
    rcases Int.lt_or_le 10000 y with h | h
    · have := ny_mono (a := 10001) (b := y) (by omega); have := ny_10001; omega
    · exact h
  have hl : ∀ y : Int, n < ny (y + 1) → 0 ≤ y := fun y hy => by
    rcases Int.lt_or_le y 0 with h | h
    · have := ny_mono (a := y + 1) (b := 0) (by omega); have : ny 0 = -719528 := rfl; omega
    · exact h
  unfold yr
  generalize (n + 719528) * 400 / 146097 = g at *
  split
  · rename_i h
    have e : g - 1 + 1 = g := by omega
    refine ⟨g2, by rw [e]; exact h, hl _ (by rw [e]; exact h), hb _ g2⟩
  · split
    · rename_i h1 h2
      have e : g + 1 + 1 = g + 2 := by omega
      exact ⟨h2, by rw [e]; exact g3, hl _ (by rw [e]; exact g3), hb _ h2⟩
    · rename_i h1 h2
      exact ⟨by omega, by omega, hl _ (by omega), hb _ (by omega)⟩
theorem yr_of {n y : Int} (h1 : ny y ≤ n) (h2 : n < ny (y + 1)) (h0 : -719528 ≤ n) (hn : n ≤ 2933262) : yr n = y := by
  obtain ⟨a, b, _, _⟩ := yr_spec h0 hn
  exact ny_inj a b h1 h2
theorem yr_le {n y : Int} (h0 : -719528 ≤ n) (h1 : n ≤ 2933262) (h : ny y ≤ n) : y ≤ yr n := by
  obtain ⟨a, b, _, _⟩ := yr_spec h0 h1
  rcases Int.lt_or_le (yr n) y with k | k
  · have := ny_mono (a := yr n + 1) (b := y) (by omega); omega
  · exact k
theorem yr_lt {n y : Int} (h0 : -719528 ≤ n) (h1 : n ≤ 2933262) (h : n < ny y) : yr n < y := by
  obtain ⟨a, b, _, _⟩ := yr_spec h0 h1
  rcases Int.lt_or_le (yr n) y with k | k
  · exact k
  · have := ny_mono (a := y) (b := yr n) k; omega
theorem mlen_bd (y m : Int) : 0 ≤ mlen y m ∧ mlen y m ≤ 31 := by
  have := lp_01 y
  unfold mlen
  split
  · omega
  · split
    · omega
    · split <;> omega
theorem mlen_pos {y m : Int} (h : 1 ≤ mlen y m) : 1 ≤ m ∧ m ≤ 12 := by
  unfold mlen at h
  split at h
  · omega
  · split at h
    · omega
    · split at h <;> omega
theorem mlen_28 {y m : Int} (h1 : 1 ≤ m) (h2 : m ≤ 12) : 28 ≤ mlen y m := by
  have := lp_01 y
  unfold mlen
  split
  · omega
  · split
    · omega
    · split <;> omega
theorem cum_succ {y m : Int} (h1 : 1 ≤ m) (h2 : m ≤ 11) : cum y (m + 1) = cum y m + mlen y m := by
  have hm : m = 1 ∨ m = 2 ∨ m = 3 ∨ m = 4 ∨ m = 5 ∨ m = 6 ∨ m = 7 ∨ m = 8 ∨ m = 9 ∨ m = 10 ∨ m = 11 := by omega
  rcases hm with h | h | h | h | h | h | h | h | h | h | h <;> subst h <;> simp [cum, cum0, mlen] <;> omega
theorem cum_12 (y : Int) : cum y 12 + mlen y 12 = 365 + lp y := by simp [cum, cum0, mlen]; omega
theorem cum_1 (y : Int) : cum y 1 = 0 := rfl
theorem cum_bd {y m : Int} (h1 : 1 ≤ m) (h2 : m ≤ 12) : 0 ≤ cum y m ∧ cum y m + mlen y m ≤ 365 + lp y := by
  have hl := lp_01 y
  have hm : m = 1 ∨ m = 2 ∨ m = 3 ∨ m = 4 ∨ m = 5 ∨ m = 6 ∨ m = 7 ∨ m = 8 ∨ m = 9 ∨ m = 10 ∨ m = 11 ∨ m = 12 := by omega
  rcases hm with h | h | h | h | h | h | h | h | h | h | h | h <;> subst h <;> simp [cum, cum0, mlen] <;> omega
theorem cum_mono {y a b : Int} (h1 : 1 ≤ a) (h2 : a < b) (h3 : b ≤ 12) : cum y a + mlen y a ≤ cum y b := by
  have hl := lp_01 y
  have hm : a = 1 ∨ a = 2 ∨ a = 3 ∨ a = 4 ∨ a = 5 ∨ a = 6 ∨ a = 7 ∨ a = 8 ∨ a = 9 ∨ a = 10 ∨ a = 11 := by omega
  rcases hm with h | h | h | h | h | h | h | h | h | h | h <;> subst h
  all_goals
    have hb : b = 2 ∨ b = 3 ∨ b = 4 ∨ b = 5 ∨ b = 6 ∨ b = 7 ∨ b = 8 ∨ b = 9 ∨ b = 10 ∨ b = 11 ∨ b = 12 := by omega
    rcases hb with h | h | h | h | h | h | h | h | h | h | h <;> subst h <;> first | omega | (simp [cum, cum0, mlen] <;> omega)
theorem mon_spec {y r : Int} (h0 : 0 ≤ r) (h1 : r < 365 + lp y) : 1 ≤ mon y r ∧ mon y r ≤ 12 ∧ cum y (mon y r) ≤ r ∧ r < cum y (mon y r) + mlen y (mon y r) := by
  have c1 := cum_1 y
  have s12 := cum_12 y
  unfold mon
  by_cases h12 : cum y 12 ≤ r
  · rw [if_pos h12]; omega
  rw [if_neg h12]
  by_cases h11 : cum y 11 ≤ r
  · have s11 : cum y 12 = cum y 11 + mlen y 11 := cum_succ (m := 11) (by decide) (by decide)
    rw [if_pos h11]; omega
  rw [if_neg h11]
  by_cases h10 : cum y 10 ≤ r
  · have s10 : cum y 11 = cum y 10 + mlen y 10 := cum_succ (m := 10) (by decide) (by decide)
    rw [if_pos h10]; omega
  rw [if_neg h10]
  by_cases h9 : cum y 9 ≤ r
  · have s9 : cum y 10 = cum y 9 + mlen y 9 := cum_succ (m := 9) (by decide) (by decide)
    rw [if_pos h9]; omega
  rw [if_neg h9]
  by_cases h8 : cum y 8 ≤ r
  · have s8 : cum y 9 = cum y 8 + mlen y 8 := cum_succ (m := 8) (by decide) (by decide)
    rw [if_pos h8]; omega
  rw [if_neg h8]
  by_cases h7 : cum y 7 ≤ r
  · have s7 : cum y 8 = cum y 7 + mlen y 7 := cum_succ (m := 7) (by decide) (by decide)
    rw [if_pos h7]; omega
  rw [if_neg h7]
  by_cases h6 : cum y 6 ≤ r
  · have s6 : cum y 7 = cum y 6 + mlen y 6 := cum_succ (m := 6) (by decide) (by decide)
    rw [if_pos h6]; omega
  rw [if_neg h6]
  by_cases h5 : cum y 5 ≤ r
  · have s5 : cum y 6 = cum y 5 + mlen y 5 := cum_succ (m := 5) (by decide) (by decide)
    rw [if_pos h5]; omega
  rw [if_neg h5]
  by_cases h4 : cum y 4 ≤ r
  · have s4 : cum y 5 = cum y 4 + mlen y 4 := cum_succ (m := 4) (by decide) (by decide)
    rw [if_pos h4]; omega
  rw [if_neg h4]
  by_cases h3 : cum y 3 ≤ r
  · have s3 : cum y 4 = cum y 3 + mlen y 3 := cum_succ (m := 3) (by decide) (by decide)
    rw [if_pos h3]; omega
  rw [if_neg h3]
  by_cases h2 : cum y 2 ≤ r
  · have s2 : cum y 3 = cum y 2 + mlen y 2 := cum_succ (m := 2) (by decide) (by decide)
    rw [if_pos h2]; omega
  rw [if_neg h2]
  have s1 : cum y 2 = cum y 1 + mlen y 1 := cum_succ (m := 1) (by decide) (by decide)
  omega
theorem mon_of {y r m : Int} (h1 : 1 ≤ m) (h2 : m ≤ 12) (h3 : cum y m ≤ r) (h4 : r < cum y m + mlen y m) : mon y r = m := by
  have b := cum_bd (y := y) h1 h2
  obtain ⟨a1, a2, a3, a4⟩ := mon_spec (y := y) (r := r) (by omega) (by omega)
  rcases Int.lt_trichotomy (mon y r) m with h | h | h
  · have := cum_mono (y := y) a1 h h2; omega
  · exact h
  · have := cum_mono (y := y) h1 h a2; omega
end Cal
end Go.Proofs.YthefgagmjamdkaaGreatDoor
/-
  Plain facts on times of a day: what a text says, the text of seconds, and that one is the other's.
-/
namespace Go.Proofs.YthefgagmjamdkaaGreatDoor
namespace Clk
open Sol
def hdL (l : List UInt8) : List UInt8 := l.takeWhile (fun c => c != 58)
def tlL (l : List UInt8) : List UInt8 := l.dropWhile (fun c => c != 58)
def sixS (l : List UInt8) : List UInt8 := (l.drop 1).take 2
def sixB (l : List UInt8) : Bool := l.isEmpty || (decide (3 ≤ l.length) && (l.head? == some 58) && parseB (sixS l) && decide (parseV (sixS l) < 60))
def sixV (l : List UInt8) : Int := parseV (sixS l)
def sixR (l : List UInt8) : List UInt8 := l.drop 3
def readB (l : List UInt8) : Bool := parseB (hdL l) && decide ((hdL l).length ≤ 3) && sixB (tlL l) && sixB (sixR (tlL l)) && (sixR (sixR (tlL l))).isEmpty
def readV (l : List UInt8) : Int := if readB l then parseV (hdL l) * 3600 + sixV (tlL l) * 60 + sixV (sixR (tlL l)) else 0
def neg (l : List UInt8) : Bool := Lib.hasPrefix l [45]
def dg (l : List UInt8) : List UInt8 := Lib.trimPrefix l [45]
def clB (l : List UInt8) : Bool := decide (l = [45]) || (readB (dg l) && decide (readV (dg l) ≤ 345600))
def clV (l : List UInt8) : Int := if l = [45] then 0 else if clB l then (if neg l then -readV (dg l) else readV (dg l)) else 0
def clE (l : List UInt8) : Int := if clB l then 0 else 5
/-- The text of seconds. -/
def body (m : Int) : List UInt8 := textL (m / 3600) 1 ++ (if m % 3600 = 0 then [] else 58 :: textL (m / 60 % 60) 2) ++ (if m % 60 = 0 then [] else 58 :: textL (m % 60) 2)
def ctL (n : Int) : List UInt8 := if n < 0 then 45 :: body (-n) else body n

theorem hd_tl (l : List UInt8) : hdL l ++ tlL l = l := List.takeWhile_append_dropWhile ..
theorem idx_hd : ∀ l : List UInt8, (Lib.indexByte l 58 < 0 ∧ hdL l = l ∧ tlL l = []) ∨ (Lib.indexByte l 58 = ((hdL l).length : Int) ∧ (tlL l).head? = some 58)
  | [] => Or.inl ⟨by decide, rfl, rfl⟩
  | b :: l => by
    by_cases h : b = 58
    · subst h
      exact Or.inr ⟨by simp [Lib.indexByte, hdL], by simp [tlL, List.dropWhile]⟩
    · have hb : (b == 58) = false := beq_eq_false_iff_ne.2 h
      have hn : (b != 58) = true := by simp [bne, hb]
      have h1 : hdL (b :: l) = b :: hdL l := by simp only [hdL, List.takeWhile_cons, hn, if_true]
      have h2 : tlL (b :: l) = tlL l := by simp only [tlL, List.dropWhile_cons, hn, if_true]
      have hi : Lib.indexByte (b :: l) 58 = if Lib.indexByte l 58 == -1 then -1 else Lib.indexByte l 58 + 1 := by
        rw [Lib.indexByte, hb]; rfl
      have hg := Lib.indexByte_ge l 58
      rw [h1, h2, hi]
      rcases idx_hd l with ⟨a, b, c⟩ | ⟨a, b⟩
      · have e : Lib.indexByte l 58 = -1 := by omega
        rw [e]
        exact Or.inl ⟨by decide, by rw [b], c⟩
      · have e : (Lib.indexByte l 58 == -1) = false := beq_eq_false_iff_ne.2 (by omega)
        rw [e]
        exact Or.inr ⟨by rw [if_neg (by decide), a, List.length_cons]; omega, b⟩
theorem hd_of {a b : List UInt8} (h : ∀ x ∈ a, x ≠ 58) : hdL (a ++ 58 :: b) = a ∧ tlL (a ++ 58 :: b) = 58 :: b := by
  constructor
  · rw [hdL, List.takeWhile_append_of_pos (by intro x hx; simpa using h x hx)]; simp
  · rw [tlL, List.dropWhile_append_of_pos (by intro x hx; simpa using h x hx)]; simp
theorem hd_all : ∀ {a : List UInt8}, (∀ x ∈ a, x ≠ 58) → hdL a = a ∧ tlL a = []
  | [], _ => ⟨rfl, rfl⟩
  | c :: a, h => by
    have hc : (c != 58) = true := by simpa using h c (by simp)
    obtain ⟨p, q⟩ := hd_all (a := a) fun x hx => h x (by simp [hx])
    exact ⟨by rw [hdL, List.takeWhile_cons, if_pos hc]; exact congrArg _ p, by rw [tlL, List.dropWhile_cons, if_pos hc]; exact q⟩
theorem dig_ne {c : UInt8} (h : isDig c = true) (k : UInt8) (hk : isDig k = false) : c ≠ k := fun e => by rw [e, hk] at h; cases h
theorem digs_ne {a : List UInt8} (h : a.all isDig = true) (k : UInt8) (hk : isDig k = false) : ∀ x ∈ a, x ≠ k := fun x hx => dig_ne (List.all_eq_true.1 h x hx) k hk

/-- What is written of a number below so many digits. -/
theorem text1 {h : Int} (h0 : 0 ≤ h) (h1 : h ≤ 96) : (textL h 1).all isDig = true ∧ 1 ≤ (textL h 1).length ∧ (textL h 1).length ≤ 2 ∧ digVal (textL h 1) = h := by
  have e : textL h 1 = padL 1 (Lib.decDigits h.toNat) := by rw [textL, if_neg (by omega), if_pos (by decide)]; rfl
  rw [e]
  have l1 := decDigits_len (k := 1) (u := h.toNat) (by omega)
  have l2 := padL_len 1 (Lib.decDigits h.toNat)
  have l3 := decDigits_pos h.toNat
  refine ⟨padL_all _ _, by omega, by omega, by rw [padL_val]; omega⟩
theorem text2 {h : Int} (h0 : 0 ≤ h) (h1 : h < 60) : (textL h 2).all isDig = true ∧ (textL h 2).length = 2 ∧ digVal (textL h 2) = h := by
  have e : textL h 2 = padL 2 (Lib.decDigits h.toNat) := by rw [textL, if_neg (by omega), if_pos (by decide)]; rfl
  rw [e]
  have l1 := decDigits_len (k := 1) (u := h.toNat) (by omega)
  have l2 := padL_len 2 (Lib.decDigits h.toNat)
  refine ⟨padL_all _ _, by omega, by rw [padL_val]; omega⟩
theorem six_ok {d r : List UInt8} (hd : d.all isDig = true) (hl : d.length = 2) (hv : digVal d < 60) : sixB (58 :: (d ++ r)) = true ∧ sixV (58 :: (d ++ r)) = digVal d ∧ sixR (58 :: (d ++ r)) = r := by
  have es : sixS (58 :: (d ++ r)) = d := by
    rw [sixS, List.drop_one, List.tail_cons, List.take_append_of_le_length (by omega), List.take_of_length_le (by omega)]
  have hp : parseB d = true := parseB_yes (by omega) (by omega) hd
  have hpv : parseV d = digVal d := parseV_yes hp
  refine ⟨?_, by rw [sixV, es, hpv], ?_⟩
  · rw [sixB, es, hp, hpv]; simp [hl, hv]
  · have e3 : (58 :: (d ++ r)).drop 3 = (d ++ r).drop 2 := rfl
    rw [sixR, e3, List.drop_append_of_le_length (by omega), List.drop_of_length_le (by omega)]; rfl
theorem six_nil : sixB [] = true ∧ sixV [] = 0 ∧ sixR [] = [] := by decide
theorem read_mk {l a t1 t2 : List UInt8} {v1 v2 : Int} (h1 : hdL l = a) (h2 : tlL l = t1) (ha : a.all isDig = true) (l1 : 1 ≤ a.length) (l2 : a.length ≤ 3) (s1 : sixB t1 = true ∧ sixV t1 = v1 ∧ sixR t1 = t2) (s2 : sixB t2 = true ∧ sixV t2 = v2 ∧ sixR t2 = []) :
    readB l = true ∧ readV l = digVal a * 3600 + v1 * 60 + v2 := by
  have hp : parseB a = true := parseB_yes l1 (by omega) ha
  have hb : readB l = true := by
    rw [readB, h1, h2, hp, s1.1, s1.2.2, s2.1, s2.2.2]; simp [l2]
  exact ⟨hb, by rw [readV, if_pos hb, h1, h2, parseV_yes hp, s1.2.1, s1.2.2, s2.2.1]⟩
theorem n58 : isDig 58 = false := by decide
theorem n45 : isDig 45 = false := by decide
theorem read_body {m : Int} (h0 : 0 ≤ m) (h1 : m ≤ 345600) : readB (body m) = true ∧ readV (body m) = m := by
  obtain ⟨a1, a2, a3, a4⟩ := text1 (h := m / 3600) (by omega) (by omega)
  obtain ⟨b1, b2, b3⟩ := text2 (h := m / 60 % 60) (by omega) (by omega)
  obtain ⟨c1, c2, c3⟩ := text2 (h := m % 60) (by omega) (by omega)
  have na := digs_ne a1 58 n58
  unfold body
  by_cases e1 : m % 3600 = 0
  · have e2 : m % 60 = 0 := by omega
    rw [if_pos e1, if_pos e2, List.append_nil, List.append_nil]
    obtain ⟨p1, p2⟩ := hd_all na
    obtain ⟨q1, q2⟩ := read_mk p1 p2 a1 a2 (by omega) six_nil six_nil
    exact ⟨q1, by rw [q2, a4]; omega⟩
  · rw [if_neg e1]
    by_cases e2 : m % 60 = 0
    · rw [if_pos e2, List.append_nil]
      obtain ⟨p1, p2⟩ := hd_of (b := textL (m / 60 % 60) 2) na
      have s1 := six_ok (r := []) b1 b2 (by omega)
      rw [List.append_nil] at s1
      obtain ⟨q1, q2⟩ := read_mk p1 p2 a1 a2 (by omega) s1 six_nil
      exact ⟨q1, by rw [q2, a4, b3]; omega⟩
    · rw [if_neg e2, List.append_assoc, List.cons_append]
      obtain ⟨p1, p2⟩ := hd_of (b := textL (m / 60 % 60) 2 ++ 58 :: textL (m % 60) 2) na
      have s1 := six_ok (r := 58 :: textL (m % 60) 2) b1 b2 (by omega)
      have s2 := six_ok (r := []) c1 c2 (by omega)
      rw [List.append_nil] at s2
      obtain ⟨q1, q2⟩ := read_mk p1 p2 a1 a2 (by omega) s1 s2
      exact ⟨q1, by rw [q2, a4, b3, c3]; omega⟩
theorem body_head {m : Int} (h0 : 0 ≤ m) (h1 : m ≤ 345600) : ∃ c r, body m = c :: r ∧ c ≠ 45 := by
  obtain ⟨a1, a2, a3, a4⟩ := text1 (h := m / 3600) (by omega) (by omega)
  unfold body
  cases hx : textL (m / 3600) 1 with
  | nil => rw [hx] at a2; simp at a2
  | cons c r =>
    rw [hx] at a1
    exact ⟨c, _, by rw [List.append_assoc, List.cons_append], digs_ne a1 45 n45 c (by simp)⟩
theorem body_len {m : Int} (h0 : 0 ≤ m) (h1 : m ≤ 345600) : (body m).length ≤ 8 := by
  obtain ⟨a1, a2, a3, a4⟩ := text1 (h := m / 3600) (by omega) (by omega)
  obtain ⟨b1, b2, b3⟩ := text2 (h := m / 60 % 60) (by omega) (by omega)
  obtain ⟨c1, c2, c3⟩ := text2 (h := m % 60) (by omega) (by omega)
  unfold body
  split <;> split <;> simp <;> omega
theorem cl_ct {n : Int} (h0 : -345600 ≤ n) (h1 : n ≤ 345600) : clB (ctL n) = true ∧ clV (ctL n) = n := by
  unfold ctL
  by_cases hn : n < 0
  · rw [if_pos hn]
    obtain ⟨c, r, e, hc⟩ := body_head (m := -n) (by omega) (by omega)
    obtain ⟨r1, r2⟩ := read_body (m := -n) (by omega) (by omega)
    have hdg : dg (45 :: body (-n)) = body (-n) := by simp [dg, Lib.trimPrefix, Lib.hasPrefix]
    have hng : neg (45 :: body (-n)) = true := by simp [neg, Lib.hasPrefix]
    have hne : ¬ (45 :: body (-n) = [45]) := by rw [e]; simp
    have hb : clB (45 :: body (-n)) = true := by rw [clB, hdg, r1, r2]; simp; omega
    exact ⟨hb, by rw [clV, if_neg hne, if_pos hb, hng, if_pos rfl, hdg, r2]; omega⟩
  · rw [if_neg hn]
    obtain ⟨c, r, e, hc⟩ := body_head (m := n) (by omega) (by omega)
    obtain ⟨r1, r2⟩ := read_body (m := n) (by omega) (by omega)
    have hpf : Lib.hasPrefix (body n) [45] = false := by
      rw [e]
      show ([45] : List UInt8).isPrefixOf (c :: r) = false
      rw [List.isPrefixOf, beq_eq_false_iff_ne.2 (fun e => hc e.symm)]; rfl
    have hdg : dg (body n) = body n := by rw [dg, Lib.trimPrefix, hpf]; rfl
    have hng : neg (body n) = false := hpf
    have hne : ¬ (body n = [45]) := by rw [e]; intro h; simp at h; exact hc h.1
    have hb : clB (body n) = true := by rw [clB, hdg, r1, r2]; simp; omega
    exact ⟨hb, by rw [clV, if_neg hne, if_pos hb, hng, hdg, r2]; rfl⟩
theorem pre_no' {c : UInt8} {r : List UInt8} (hc : c ≠ 45) : ¬ (c :: r = [45]) ∧ Lib.hasPrefix (c :: r) [45] = false := by
  refine ⟨fun h => by simp at h; exact hc h.1, ?_⟩
  show ([45] : List UInt8).isPrefixOf (c :: r) = false
  rw [List.isPrefixOf, beq_eq_false_iff_ne.2 (fun e => hc e.symm)]; rfl
theorem read_bd {l : List UInt8} : 0 ≤ readV l := by
  unfold readV
  split
  · have p : ∀ x, 0 ≤ parseV x := fun x => by
      unfold parseV; split
      · rename_i h; exact (digVal_bd x (by simp [parseB] at h; simpa using h.2)).1
      · exact Int.le_refl _
    have := p (hdL l)
    have := p (sixS (tlL l))
    have := p (sixS (sixR (tlL l)))
    unfold sixV; omega
  · exact Int.le_refl _
theorem cl_bd {l : List UInt8} : -345600 ≤ clV l ∧ clV l ≤ 345600 := by
  have r := read_bd (l := dg l)
  unfold clV
  split
  · omega
  · rename_i hne
    split
    · rename_i hb
      have : readV (dg l) ≤ 345600 := by
        simp [clB, hne] at hb; exact hb.2
      split <;> omega
    · omega
theorem cl_no {l : List UInt8} (h : clB l = false) : clV l = 0 ∧ clE l = 5 := by
  have hne : ¬ l = [45] := fun e => by rw [e] at h; revert h; decide
  exact ⟨by rw [clV, if_neg hne, h]; rfl, by rw [clE, h]; rfl⟩
end Clk
end Go.Proofs.YthefgagmjamdkaaGreatDoor
/-
  Plain facts on times of a day written by hand: two digits each, a colon between.
-/
namespace Go.Proofs.YthefgagmjamdkaaGreatDoor
namespace Clk
open Sol
def D2 (q r : Nat) : List UInt8 := [UInt8.ofNat (48 + q), UInt8.ofNat (48 + r)]
theorem d2_ok {q r : Nat} (hq : q < 10) (hr : r < 10) : (D2 q r).all isDig = true ∧ (D2 q r).length = 2 ∧ digVal (D2 q r) = 10 * (q : Int) + r := by
  have a := dig_toNat hq
  have b := dig_toNat hr
  refine ⟨by rw [D2, List.all_cons, isDig_of hq, List.all_cons, isDig_of hr]; rfl, rfl, ?_⟩
  simp only [digVal, D2, List.foldl_cons, List.foldl_nil, a, b]; omega
theorem cl_mk {l : List UInt8} {v : Int} (hne : ¬ l = [45]) (hp : Lib.hasPrefix l [45] = false) (h : readB l = true ∧ readV l = v) (hv : v ≤ 345600) : clV l = v ∧ clE l = 0 := by
  have hdg : dg l = l := by rw [dg, Lib.trimPrefix, hp]; rfl
  have hng : neg l = false := hp
  have hb : clB l = true := by rw [clB, hdg, h.1, h.2]; simp [hv]
  exact ⟨by rw [clV, if_neg hne, if_pos hb, hng, hdg, h.2]; rfl, by rw [clE, if_pos hb]⟩
theorem cl_mk_neg {l : List UInt8} {v : Int} (hne : ¬ l = []) (h : readB l = true ∧ readV l = v) (hv : v ≤ 345600) : clV (45 :: l) = -v ∧ clE (45 :: l) = 0 := by
  have hdg : dg (45 :: l) = l := by simp [dg, Lib.trimPrefix, Lib.hasPrefix]
  have hng : neg (45 :: l) = true := by simp [neg, Lib.hasPrefix]
  have hn2 : ¬ (45 :: l = [45]) := by simpa using hne
  have hb : clB (45 :: l) = true := by rw [clB, hdg, h.1, h.2]; simp [hv]
  exact ⟨by rw [clV, if_neg hn2, if_pos hb, hng, if_pos rfl, hdg, h.2], by rw [clE, if_pos hb]⟩
theorem cl_bad {l : List UInt8} (hne : ¬ l = [45]) (hp : Lib.hasPrefix l [45] = false) (h : readB l = false) : clV l = 0 ∧ clE l = 5 := by
  have hdg : dg l = l := by rw [dg, Lib.trimPrefix, hp]; rfl
  have hb : clB l = false := by rw [clB, hdg, h, decide_eq_false hne]; rfl
  exact ⟨(by rw [clV, if_neg hne, hb]; rfl), by rw [clE, hb]; rfl⟩
theorem pre_no {c : UInt8} {r : List UInt8} (hc : c ≠ 45) : ¬ (c :: r = [45]) ∧ Lib.hasPrefix (c :: r) [45] = false := by
  refine ⟨fun h => by simp at h; exact hc h.1, ?_⟩
  show ([45] : List UInt8).isPrefixOf (c :: r) = false
  rw [List.isPrefixOf, beq_eq_false_iff_ne.2 (fun e => hc e.symm)]; rfl
theorem pre_d2 {q r : Nat} (hq : q < 10) (t : List UInt8) : ¬ (D2 q r ++ t = [45]) ∧ Lib.hasPrefix (D2 q r ++ t) [45] = false := by
  have : UInt8.ofNat (48 + q) ≠ 45 := fun e => by
    have := congrArg UInt8.toNat e
    rw [dig_toNat hq] at this
    have e2 : (45 : UInt8).toNat = 45 := rfl
    omega
  exact pre_no this
section
variable {a b c d e f : Nat} (ha : a < 10) (hb : b < 10) (hc : c < 10) (hd : d < 10) (he : e < 10) (hf : f < 10)
include ha hb
theorem f0 (h1 : 10 * a + b < 96) : clV (D2 a b) = 3600 * (10 * (a : Int) + b) ∧ clE (D2 a b) = 0 := by
  obtain ⟨a1, a2, a3⟩ := d2_ok ha hb
  obtain ⟨n1, n2⟩ := pre_d2 (r := b) ha []
  rw [List.append_nil] at n1 n2
  obtain ⟨p1, p2⟩ := hd_all (digs_ne a1 58 n58)
  obtain ⟨q1, q2⟩ := read_mk p1 p2 a1 (by omega) (by omega) six_nil six_nil
  exact cl_mk n1 n2 ⟨q1, by rw [q2, a3]; omega⟩ (by omega)
theorem f7 : clV (D2 a b ++ 58 :: (D2 c d).drop 1) = 0 ∧ clE (D2 a b ++ 58 :: (D2 c d).drop 1) = 5 := by
  obtain ⟨a1, a2, a3⟩ := d2_ok ha hb
  obtain ⟨n1, n2⟩ := pre_d2 (r := b) ha (58 :: (D2 c d).drop 1)
  obtain ⟨p1, p2⟩ := hd_of (b := (D2 c d).drop 1) (digs_ne a1 58 n58)
  refine cl_bad n1 n2 ?_
  rw [readB, p1, p2]
  have : sixB (58 :: (D2 c d).drop 1) = false := by simp [sixB, D2]
  rw [this]; simp
include hc hd
theorem rd1 (h2 : 10 * c + d < 60) : readB (D2 a b ++ 58 :: D2 c d) = true ∧ readV (D2 a b ++ 58 :: D2 c d) = 3600 * (10 * (a : Int) + b) + 60 * (10 * (c : Int) + d) := by
  obtain ⟨a1, a2, a3⟩ := d2_ok ha hb
  obtain ⟨b1, b2, b3⟩ := d2_ok hc hd
  obtain ⟨p1, p2⟩ := hd_of (b := D2 c d) (digs_ne a1 58 n58)
  have s1 := six_ok (r := []) b1 b2 (by omega)
  rw [List.append_nil] at s1
  obtain ⟨q1, q2⟩ := read_mk p1 p2 a1 (by omega) (by omega) s1 six_nil
  exact ⟨q1, by rw [q2, a3, b3]; omega⟩
theorem f1 (h1 : 10 * a + b < 96) (h2 : 10 * c + d < 60) : clV (D2 a b ++ 58 :: D2 c d) = 3600 * (10 * (a : Int) + b) + 60 * (10 * (c : Int) + d) ∧ clE (D2 a b ++ 58 :: D2 c d) = 0 := by
  obtain ⟨n1, n2⟩ := pre_d2 (r := b) ha (58 :: D2 c d)
  exact cl_mk n1 n2 (rd1 ha hb hc hd h2) (by omega)
theorem f3 (h1 : 10 * a + b < 96) (h2 : 10 * c + d < 60) : clV (45 :: (D2 a b ++ 58 :: D2 c d)) = -3600 * (10 * (a : Int) + b) - 60 * (10 * (c : Int) + d) ∧ clE (45 :: (D2 a b ++ 58 :: D2 c d)) = 0 := by
  obtain ⟨k1, k2⟩ := cl_mk_neg (l := D2 a b ++ 58 :: D2 c d) (by simp [D2]) (rd1 ha hb hc hd h2) (by omega)
  exact ⟨by rw [k1]; omega, k2⟩
include he hf
theorem f2 (h1 : 10 * a + b < 96) (h2 : 10 * c + d < 60) (h3 : 10 * e + f < 60) : clV (D2 a b ++ 58 :: (D2 c d ++ 58 :: D2 e f)) = 3600 * (10 * (a : Int) + b) + 60 * (10 * (c : Int) + d) + (10 * (e : Int) + f) ∧ clE (D2 a b ++ 58 :: (D2 c d ++ 58 :: D2 e f)) = 0 := by
  obtain ⟨a1, a2, a3⟩ := d2_ok ha hb
  obtain ⟨b1, b2, b3⟩ := d2_ok hc hd
  obtain ⟨c1, c2, c3⟩ := d2_ok he hf
  obtain ⟨n1, n2⟩ := pre_d2 (r := b) ha (58 :: (D2 c d ++ 58 :: D2 e f))
  obtain ⟨p1, p2⟩ := hd_of (b := D2 c d ++ 58 :: D2 e f) (digs_ne a1 58 n58)
  have s1 := six_ok (r := 58 :: D2 e f) b1 b2 (by omega)
  have s2 := six_ok (r := []) c1 c2 (by omega)
  rw [List.append_nil] at s2
  obtain ⟨q1, q2⟩ := read_mk p1 p2 a1 (by omega) (by omega) s1 s2
  exact cl_mk n1 n2 ⟨q1, by rw [q2, a3, b3, c3]; omega⟩ (by omega)
theorem f5 (h2 : 10 * c + d < 60) (h3 : 10 * e + f < 60) : clV (D2 a b ++ 58 :: (D2 c d ++ 58 :: (D2 e f ++ [58, 48, 48]))) = 0 ∧ clE (D2 a b ++ 58 :: (D2 c d ++ 58 :: (D2 e f ++ [58, 48, 48]))) = 5 := by
  obtain ⟨a1, a2, a3⟩ := d2_ok ha hb
  obtain ⟨b1, b2, b3⟩ := d2_ok hc hd
  obtain ⟨c1, c2, c3⟩ := d2_ok he hf
  obtain ⟨n1, n2⟩ := pre_d2 (r := b) ha (58 :: (D2 c d ++ 58 :: (D2 e f ++ [58, 48, 48])))
  obtain ⟨p1, p2⟩ := hd_of (b := D2 c d ++ 58 :: (D2 e f ++ [58, 48, 48])) (digs_ne a1 58 n58)
  have s1 := six_ok (r := 58 :: (D2 e f ++ [58, 48, 48])) b1 b2 (by omega)
  have s2 := six_ok (r := [58, 48, 48]) c1 c2 (by omega)
  refine cl_bad n1 n2 ?_
  rw [readB, p1, p2, s1.2.2, s2.2.2]; simp
omit hc hd he hf
theorem f6 : clV (D2 a b ++ [58, 54, 48]) = 0 ∧ clE (D2 a b ++ [58, 54, 48]) = 5 := by
  obtain ⟨a1, a2, a3⟩ := d2_ok ha hb
  obtain ⟨n1, n2⟩ := pre_d2 (r := b) ha [58, 54, 48]
  obtain ⟨p1, p2⟩ := hd_of (b := [54, 48]) (digs_ne a1 58 n58)
  refine cl_bad n1 n2 ?_
  rw [readB, p1, p2, show sixB [58, 54, 48] = false by decide]; simp
theorem f9 : clV (43 :: D2 a b) = 0 ∧ clE (43 :: D2 a b) = 5 := by
  obtain ⟨a1, a2, a3⟩ := d2_ok ha hb
  obtain ⟨n1, n2⟩ := pre_no (c := 43) (r := D2 a b) (by decide)
  have hne : ∀ x ∈ 43 :: D2 a b, x ≠ 58 := by
    intro x hx
    rcases List.mem_cons.1 hx with rfl | h
    · decide
    · exact digs_ne a1 58 n58 x h
  obtain ⟨p1, p2⟩ := hd_all hne
  refine cl_bad n1 n2 ?_
  have : parseB (43 :: D2 a b) = false := parseB_at (k := 0) (by simp) (show isDig 43 = false by decide)
  rw [readB, p1, this]; simp
end
theorem f4 : clV [45] = 0 ∧ clE [45] = 0 := by decide +kernel
theorem f8 : clV [57, 55] = 0 ∧ clE [57, 55] = 5 := by decide +kernel
end Clk
end Go.Proofs.YthefgagmjamdkaaGreatDoor
/-
  Plain facts on forms of a time: what a text says, the text of a form, and that one is the other's.
-/
namespace Go.Proofs.YthefgagmjamdkaaGreatDoor
namespace Atf
open Sol Clk
def ltV (c : UInt8) : Int := if c = 119 ∨ c = 87 then 1 else if c = 115 ∨ c = 83 then 2 else if c = 117 ∨ c = 85 ∨ c = 103 ∨ c = 71 ∨ c = 122 ∨ c = 90 then 3 else 1
def ltB (c : UInt8) : Bool := decide (c = 119 ∨ c = 87 ∨ c = 115 ∨ c = 83 ∨ c = 117 ∨ c = 85 ∨ c = 103 ∨ c = 71 ∨ c = 122 ∨ c = 90)
/-- What stands ahead of the letter, if there is one; the kind. -/
def apL (l : List UInt8) : List UInt8 := match l.getLast? with | some c => if ltB c then l.dropLast else l | none => l
def apK (l : List UInt8) : Int := match l.getLast? with | some c => ltV c | none => 1
def apV (l : List UInt8) : Int := if clB (apL l) then clV (apL l) else 0
def apKk (l : List UInt8) : Int := if clB (apL l) then apK l else 0
def apE (l : List UInt8) : Int := if clB (apL l) then 0 else 9
def isK (k : Int) : Bool := decide (1 ≤ k ∧ k ≤ 3)
def inS (n : Int) : Bool := decide (-345600 ≤ n ∧ n ≤ 345600)
def atOk (secs k : Int) : Bool := inS secs && isK k
def atE (secs k : Int) : Int := if atOk secs k then 0 else 9
def suf (k : Int) : List UInt8 := if k = 2 then [115] else if k = 3 then [117] else []
def atT (secs k : Int) : List UInt8 := if atOk secs k then ctL secs ++ suf k else []
def utB (l k d s : Int) : Bool := isK k && inB l && inS d && inS s
def utV (l k d s : Int) : Int := if utB l k d s then (if k = 1 then l - d - s else if k = 2 then l - d else l) else 0

theorem ap_snoc (l : List UInt8) (c : UInt8) : apL (l ++ [c]) = (if ltB c then l else l ++ [c]) ∧ apK (l ++ [c]) = ltV c := by
  simp [apL, apK]
theorem ap_nil : apL [] = [] ∧ apK [] = 1 := ⟨rfl, rfl⟩
theorem ltB_dig {c : UInt8} (h : isDig c = true) : ltB c = false ∧ ltV c = 1 := by
  have h1 := (isDig_iff c).1 h
  have key : ∀ k : UInt8, 57 < (k.toNat : Int) → c ≠ k := fun k hk e => by rw [e] at h1; omega
  refine ⟨decide_eq_false ?_, ?_⟩
  · rintro (e | e | e | e | e | e | e | e | e | e) <;> exact key _ (by decide) e
  · rw [ltV, if_neg, if_neg, if_neg]
    · rintro (e | e | e | e | e | e) <;> exact key _ (by decide) e
    · rintro (e | e) <;> exact key _ (by decide) e
    · rintro (e | e) <;> exact key _ (by decide) e
theorem last_dig {a : List UInt8} (h : a.all isDig = true) (hl : 1 ≤ a.length) : ∃ x d, a = x ++ [d] ∧ isDig d = true := by
  have hne : a ≠ [] := fun e => by rw [e] at hl; simp at hl
  refine ⟨a.dropLast, a.getLast hne, (List.dropLast_concat_getLast hne).symm, List.all_eq_true.1 h _ (List.getLast_mem hne)⟩
theorem body_last {m : Int} (h0 : 0 ≤ m) (h1 : m ≤ 345600) : ∃ x d, body m = x ++ [d] ∧ isDig d = true := by
  obtain ⟨a1, a2, a3, a4⟩ := text1 (h := m / 3600) (by omega) (by omega)
  obtain ⟨b1, b2, b3⟩ := text2 (h := m / 60 % 60) (by omega) (by omega)
  obtain ⟨c1, c2, c3⟩ := text2 (h := m % 60) (by omega) (by omega)
  unfold body
  by_cases e2 : m % 60 = 0
  · rw [if_pos e2, List.append_nil]
    by_cases e1 : m % 3600 = 0
    · rw [if_pos e1, List.append_nil]
      exact last_dig a1 a2
    · obtain ⟨x, d, e, hd⟩ := last_dig b1 (by omega)
      rw [if_neg e1, e]
      exact ⟨textL (m / 3600) 1 ++ 58 :: x, d, by simp, hd⟩
  · obtain ⟨x, d, e, hd⟩ := last_dig c1 (by omega)
    rw [if_neg e2, e]
    exact ⟨(textL (m / 3600) 1 ++ (if m % 3600 = 0 then [] else 58 :: textL (m / 60 % 60) 2)) ++ 58 :: x, d, by simp, hd⟩
theorem ct_last {n : Int} (h0 : -345600 ≤ n) (h1 : n ≤ 345600) : ∃ x d, ctL n = x ++ [d] ∧ isDig d = true := by
  unfold ctL
  by_cases hn : n < 0
  · obtain ⟨x, d, e, hd⟩ := body_last (m := -n) (by omega) (by omega)
    rw [if_pos hn, e]
    exact ⟨45 :: x, d, rfl, hd⟩
  · rw [if_neg hn]
    exact body_last (by omega) h1
theorem ct_len {n : Int} (h0 : -345600 ≤ n) (h1 : n ≤ 345600) : (ctL n).length ≤ 9 := by
  unfold ctL
  split
  · have := body_len (m := -n) (by omega) (by omega); simp; omega
  · have := body_len (m := n) (by omega) (by omega); omega
/-- What a form's seconds with a letter behind say. -/
theorem ap_ct {n : Int} (h0 : -345600 ≤ n) (h1 : n ≤ 345600) : (apV (ctL n) = n ∧ apKk (ctL n) = 1 ∧ apE (ctL n) = 0) ∧ ∀ c, ltB c = true → apV (ctL n ++ [c]) = n ∧ apKk (ctL n ++ [c]) = ltV c ∧ apE (ctL n ++ [c]) = 0 := by
  obtain ⟨x, d, e, hd⟩ := ct_last h0 h1
  obtain ⟨c1, c2⟩ := cl_ct h0 h1
  obtain ⟨l1, l2⟩ := ltB_dig hd
  have hs := ap_snoc x d
  rw [← e, l1, l2] at hs
  have hL : apL (ctL n) = ctL n := hs.1
  refine ⟨⟨by rw [apV, hL, if_pos c1, c2], by rw [apKk, hL, if_pos c1, hs.2], by rw [apE, hL, if_pos c1]⟩, fun c hc => ?_⟩
  obtain ⟨k1, k2⟩ := ap_snoc (ctL n) c
  rw [hc] at k1
  have hL2 : apL (ctL n ++ [c]) = ctL n := k1
  exact ⟨by rw [apV, hL2, if_pos c1, c2], by rw [apKk, hL2, if_pos c1, k2], by rw [apE, hL2, if_pos c1]⟩
theorem atOk_mk {n k : Int} (h : -345600 ≤ n ∧ n ≤ 345600) (hk : 1 ≤ k ∧ k ≤ 3) : atOk n k = true := by
  rw [atOk, inS, isK, decide_eq_true h, decide_eq_true hk]; rfl
theorem at_back {n k : Int} (h : -345600 ≤ n ∧ n ≤ 345600) (hk : 1 ≤ k ∧ k ≤ 3) : atE n k = 0 ∧ atT n k = ctL n ++ suf k ∧ apV (ctL n ++ suf k) = n ∧ apKk (ctL n ++ suf k) = k ∧ apE (ctL n ++ suf k) = 0 := by
  have ho := atOk_mk h hk
  obtain ⟨⟨a1, a2, a3⟩, a4⟩ := ap_ct h.1 h.2
  refine ⟨by rw [atE, if_pos ho], by rw [atT, if_pos ho], ?_⟩
  have : k = 1 ∨ k = 2 ∨ k = 3 := by omega
  rcases this with rfl | rfl | rfl
  · rw [show suf 1 = [] from rfl, List.append_nil]; exact ⟨a1, a2, a3⟩
  · exact a4 115 (by decide)
  · exact a4 117 (by decide)
theorem utB_mk {l k d s : Int} (h1 : 1 ≤ k ∧ k ≤ 3) (h2 : -4611686018427387904 ≤ l ∧ l ≤ 4611686018427387904) (h3 : -345600 ≤ d ∧ d ≤ 345600) (h4 : -345600 ≤ s ∧ s ≤ 345600) : utB l k d s = true := by
  rw [utB, isK, decide_eq_true h1, (inB_iff l).2 h2, inS, decide_eq_true h3, inS, decide_eq_true h4]; rfl
end Atf
end Go.Proofs.YthefgagmjamdkaaGreatDoor
