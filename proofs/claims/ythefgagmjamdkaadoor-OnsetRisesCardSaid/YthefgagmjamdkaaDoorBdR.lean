/-
  Several texts in one (RefNum, RefNum2, RefNum3).
-/
import Derived.Test.YthefgagmjamdkaaDoorBdC
/-
  Contracts of the reference's calls on numbers: In, Bound, Div, digit, Digits, Value.
-/
namespace Go.Proofs.YthefgagmjamdkaaDoor
open Go.RowKit
namespace RNum
theorem ret_ii {a a' b b' : Int} (h : a = a') (k : b = b') : Ending.returned (.tuple #[.int .i64 a, .int .i64 b]) = .returned (.tuple #[.int .i64 a', .int .i64 b']) := by rw [h, k]
theorem rin_any (n lo hi : Int) (b : Bool) (w : World) (h : Hid (b = decide (lo ≤ n ∧ n ≤ hi))) :
    Calls Tryd.prog 49 #[.int .i64 n, .int .i64 lo, .int .i64 hi] w fun e w' => e = .returned (.bool b) ∧ w = w' := by
  by_cases h1 : lo ≤ n
  · by_cases h2 : n ≤ hi
    · have H := Lib.hid (h.out.trans (decide_eq_true (show lo ≤ n ∧ n ≤ hi from ⟨h1, h2⟩)))
      go_enter Tryd.func49, Tryd.ntmps49
      go_wp2
      go_ret
      exact ⟨ret_b H.out.symm, rfl⟩
    · have H := Lib.hid (h.out.trans (decide_eq_false (show ¬ (lo ≤ n ∧ n ≤ hi) from fun h => h2 h.2)))
      go_enter Tryd.func49, Tryd.ntmps49
      go_wp2
      go_ret
      exact ⟨ret_b H.out.symm, rfl⟩
  · have H := Lib.hid (h.out.trans (decide_eq_false (show ¬ (lo ≤ n ∧ n ≤ hi) from fun h => h1 h.1)))
    go_enter Tryd.func49, Tryd.ntmps49
    go_wp2
    go_ret
    exact ⟨ret_b H.out.symm, rfl⟩

set_option maxHeartbeats 400000 in
theorem rdiv_any (a b : Int) (w : World) (h1 : 1 ≤ b) (b2 : b ≤ 4611686018427387904) (a1 : -4611686018427387904 ≤ a) (a2 : a ≤ 4611686018427387904) :
    Calls Tryd.prog 51 #[.int .i64 a, .int .i64 b] w fun e w' => e = .returned (.tuple #[.int .i64 (a / b), .int .i64 (a % b)]) ∧ ∃ n, w' = w.drewN n := by
  obtain ⟨⟨t1, t2⟩, t3, t4⟩ := tq_bd h1 a1 a2
  by_cases hr : a.tmod b < 0
  · have K := Lib.hid (tq_neg h1 hr)
    have hn : ¬ 0 ≤ a := fun h => by have := Int.tmod_nonneg b h; omega
    go_enter Tryd.func51, Tryd.ntmps51
    go_wp2_with fail
    go_quiet (fail)
    go_wp2
    go_ret2
    exact ⟨ret_ii K.out.1.symm K.out.2.symm, _, rfl⟩
  · have K := Lib.hid (tq_nn h1 hr)
    have hm := Int.emod_nonneg a (show b ≠ 0 by omega)
    by_cases hn : 0 ≤ a
    · go_enter Tryd.func51, Tryd.ntmps51
      go_wp2_with fail
      go_quiet (fail)
      go_wp2
      go_ret2
      exact ⟨ret_ii K.out.1.symm rfl, _, rfl⟩
    · go_enter Tryd.func51, Tryd.ntmps51
      go_wp2_with fail
      go_quiet (fail)
      go_wp2
      go_ret2
      exact ⟨ret_ii K.out.1.symm K.out.2.symm, _, rfl⟩

end RNum
end Go.Proofs.YthefgagmjamdkaaDoor
/-
  Contracts of the reference's calls on numbers, the second part: Digits, Value, Text.
-/
namespace Go.Proofs.YthefgagmjamdkaaDoor
open Go.RowKit
namespace RNum
theorem parseB_parts {l : List UInt8} (h : Sol.parseB l = true) : 1 ≤ l.length ∧ l.length ≤ 18 ∧ l.all Sol.isDig = true := by
  rw [Sol.parseB, Bool.and_eq_true, decide_eq_true_eq] at h
  exact ⟨h.1.1, h.1.2, h.2⟩
theorem all_take {l : List UInt8} (h : l.all Sol.isDig = true) (k : Nat) : (l.take k).all Sol.isDig = true := by
  rw [List.all_eq_true] at h ⊢
  exact fun x hx => h x (List.mem_of_mem_take hx)

end RNum
end Go.Proofs.YthefgagmjamdkaaDoor
/-
  Contracts of the reference's calls on numbers, the third part: Text.
-/
namespace Go.Proofs.YthefgagmjamdkaaDoor
open Go.RowKit
namespace RNum
theorem dd_step (m : Nat) : Lib.decDigits m = (if m / 10 = 0 then [] else Lib.decDigits (m / 10)) ++ [UInt8.ofNat (48 + m % 10)] := by
  rw [Lib.decDigits]
  by_cases h : m < 10
  · rw [dif_pos h, if_pos (by omega), Nat.mod_eq_of_lt h]; rfl
  · rw [dif_neg h, if_neg (by omega)]
def RT (N m : Nat) (t : List UInt8) : Prop := (m = N ∧ t = []) ∨ (t ≠ [] ∧ Lib.decDigits N = (if m = 0 then [] else Lib.decDigits m) ++ t)
theorem rt_step {N m : Nat} {t : List UInt8} (h : RT N m t) (c : 0 < m ∨ t = []) : RT N (m / 10) (UInt8.ofNat (48 + m % 10) :: t) := by
  refine Or.inr ⟨by simp, ?_⟩
  rcases h with ⟨rfl, rfl⟩ | ⟨ht, h⟩
  · exact dd_step m
  · have hm : 0 < m := c.elim id (fun e => absurd e ht)
    rw [if_neg (by omega), dd_step m, List.append_assoc] at h
    exact h
theorem rt_len {N m : Nat} {t : List UInt8} (h : RT N m t) (hN : (Lib.decDigits N).length ≤ 19) (c : 0 < m ∨ t = []) : t.length ≤ 18 := by
  rcases h with ⟨_, rfl⟩ | ⟨ht, h⟩
  · simp
  · have hm : 0 < m := c.elim id (fun e => absurd e ht)
    rw [if_neg (by omega)] at h
    have := Sol.decDigits_pos m
    have e := congrArg List.length h
    rw [List.length_append] at e
    omega
theorem rt_end {N : Nat} {t : List UInt8} (h : RT N 0 t) (c : t ≠ []) : Lib.decDigits N = t := by
  rcases h with ⟨_, rfl⟩ | ⟨_, h⟩
  · exact absurd rfl c
  · simpa using h
theorem cons_str (c : UInt8) (t : List UInt8) : (⟨#[c]⟩ : ByteArray) ++ ⟨t.toArray⟩ = ⟨(c :: t).toArray⟩ := by
  apply ByteArray.ext
  simp
theorem cons_size (c : UInt8) (t : List UInt8) : ((⟨#[c]⟩ : ByteArray) ++ ⟨t.toArray⟩).size ≠ 0 := by
  rw [cons_str, ← Sol.list_len]; simp
def empt (v : Value) : Nat := match v with | .string b => (if b.size = 0 then 1 else 0) | _ => 0

theorem empt_cons (c : UInt8) (t : List UInt8) : empt (.string (⟨#[c]⟩ ++ ⟨t.toArray⟩)) = 0 := by rw [empt, if_neg (cons_size c t)]
theorem meas {m : Nat} {c : UInt8} {t : List UInt8} (h : 0 < m) : ((m : Int) / 10).toNat + empt (.string (⟨#[c]⟩ ++ ⟨t.toArray⟩)) < (m : Int).toNat + empt (.string ⟨t.toArray⟩) := by rw [empt_cons]; omega
theorem rt_zero {N : Nat} (h : RT N 0 []) : RT N 0 [48] := rt_step h (Or.inr rfl)

def ssz (v : Value) : Nat := match v with | .string b => b.size | _ => 0
theorem ssz_cons (u : List UInt8) : ssz (.string (⟨#[48]⟩ ++ ⟨u.toArray⟩)) = u.length + 1 := by rw [ssz, cons_str, ← Sol.list_len]; simp
theorem ssz_list (u : List UInt8) : ssz (.string ⟨u.toArray⟩) = u.length := by rw [ssz, ← Sol.list_len]
theorem meas2 {u : List UInt8} {D : Nat} (h : (u.length : Int) < (D : Int)) : D - ssz (.string (⟨#[48]⟩ ++ ⟨u.toArray⟩)) < D - ssz (.string ⟨u.toArray⟩) := by rw [ssz_cons, ssz_list]; omega
theorem pad_end {D j : Nat} {t u : List UInt8} (hu : u = List.replicate j 48 ++ t) (hj : j = 0 ∨ j + t.length ≤ D) (hc : ¬ (u.length : Int) < (D : Int)) : Sol.padL D t = u := by
  have e : u.length = j + t.length := by rw [hu]; simp
  rw [Sol.padL, hu]
  have : D - t.length = j := by omega
  rw [this]

end RNum
end Go.Proofs.YthefgagmjamdkaaDoor
