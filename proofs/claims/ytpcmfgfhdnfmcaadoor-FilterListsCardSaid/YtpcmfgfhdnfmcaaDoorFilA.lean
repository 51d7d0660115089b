/-
  Package filter, the small functions: slices.Contains of a list of numbers that came in; quotient, isYear, eitherWay, letsOne.
-/
import Derived.Test.YtpcmfgfhdnfmcaaDoorRcvA
import Derived.Test.YtpcmfgfhdnfmcaaDoorShelf
namespace Go.Proofs.YtpcmfgfhdnfmcaaDoor
open Go.RowKit
namespace Fil
open Rcv (IntV)
theorem cont_to (v : Value) (L : List Int) (x : Int) (w : World) (hv : IntV w v L) (hL : L.length ≤ 1000000) :
    Calls Tryd.prog 67 #[v, .int .i64 x] w fun e w' => e = .returned (.bool (L.contains x)) ∧ w' = w := by
  obtain ⟨a, n, c, rfl, rfl, hc⟩ := hv
  by_cases h0 : L.length = 0
  · have hL0 : L = [] := List.length_eq_zero_iff.1 h0
    subst hL0
    exact Tryd.slices_Contains_int_empty a c x w
  · obtain ⟨b, off, rfl, _, _⟩ := hc 0 (by omega)
    have q := Tryd.slices_Contains_int b off L.length c L x w (Nat.le_refl _) (by omega) (fun j hj => by
      obtain ⟨b', off', e, _, h2⟩ := hc j hj
      cases e
      rw [h2]
      simp [List.getD, hj])
    rw [List.take_length] at q
    exact q
/-- What a number's list lets: the numbers that it has, or the start's alone where it is empty and that is asked. -/
def onB (L : List Int) (asks : Bool) (s n : Int) : Bool := if L.length = 0 then (!asks || decide (n = s)) else L.contains n
/-- A list has a number, or that number counted from the end of so many. -/
def ewB (L : List Int) (n m : Int) : Bool := L.contains n || L.contains (n - m - 1)
theorem isy_to (y : Int) (w : World) : Calls Tryd.prog 65 #[.int .i64 y] w fun e w' => e = .returned (.bool (decide (1 ≤ y ∧ y ≤ 9999))) ∧ w' = w := by
  by_cases h1 : 1 ≤ y
  · by_cases h2 : y ≤ 9999
    · go_enter Tryd.func65, Tryd.ntmps65
      go_wp2
      go_ret
      simp [h1, h2]
    · go_enter Tryd.func65, Tryd.ntmps65
      go_wp2
      go_ret
      simp [h2]
  · go_enter Tryd.func65, Tryd.ntmps65
    go_wp2
    go_ret
    simp
    omega
theorem ew_to (v : Value) (L : List Int) (n m : Int) (w : World) (hv : IntV w v L) (hL : L.length ≤ 1000000) (hn : -1000000 ≤ n ∧ n ≤ 1000000) (hm : -1000000 ≤ m ∧ m ≤ 1000000) :
    Calls Tryd.prog 68 #[v, .int .i64 n, .int .i64 m] w fun e w' => e = .returned (.bool (ewB L n m)) ∧ w' = w := by
  have V := Lib.hid hv
  clear hv
  obtain ⟨b, hb⟩ : ∃ b, L.contains n = b := ⟨_, rfl⟩
  go_enter Tryd.func68, Tryd.ntmps68
  go_wp2_with fail
  refine (cont_to v L n w V.out hL).mono ?_
  rintro e w1 ⟨rfl, rfl⟩
  rw [hb]
  cases b with
  | true =>
    go_wp2
    go_ret
    have hm : n ∈ L := by simpa using hb
    simp [ewB, hm]
  | false =>
    go_wp2_with fail
    refine (cont_to v L (n - m - 1) _ V.out hL).mono ?_
    rintro e w1 ⟨rfl, rfl⟩
    go_wp2
    go_ret
    have hm : n ∉ L := by simpa using hb
    simp [ewB, hm]
theorem one_to (v : Value) (L : List Int) (asks : Bool) (s n : Int) (w : World) (hv : IntV w v L) (hL : L.length ≤ 1000000) :
    Calls Tryd.prog 66 #[v, .bool asks, .int .i64 s, .int .i64 n] w fun e w' => e = .returned (.bool (onB L asks s n)) ∧ w' = w := by
  obtain ⟨a, k, c, rfl, rfl, hc⟩ := hv
  have V : Hid (IntV w (.slice a L.length c) L) := Lib.hid ⟨a, _, c, rfl, rfl, hc⟩
  clear hc
  by_cases h0 : L.length = 0
  · have z0 : (L.length : Int) = 0 := by omega
    cases asks with
    | false =>
      go_enter Tryd.func66, Tryd.ntmps66
      go_wp2
      go_ret
      simp [onB, h0]
    | true =>
      by_cases hs : n = s
      · go_enter Tryd.func66, Tryd.ntmps66
        go_wp2
        go_ret
        simp [onB, h0, hs]
      · go_enter Tryd.func66, Tryd.ntmps66
        go_wp2
        go_ret
        simp [onB, h0, hs]
  · have z0 : (L.length : Int) ≠ 0 := by omega
    have z1 : ¬ (L.length : Int) = 0 := z0
    go_enter Tryd.func66, Tryd.ntmps66
    go_wp2_with fail
    refine (cont_to _ L n _ V.out hL).mono ?_
    rintro e w1 ⟨rfl, rfl⟩
    go_wp2
    go_ret
    simp [onB, h0]
theorem quo_bd {n k : Int} (hk : 1 ≤ k) : (0 ≤ n → 0 ≤ n / k ∧ n / k ≤ n) ∧ (n < 0 → n ≤ n / k ∧ n / k < 0) :=
  ⟨fun h => ⟨Int.ediv_nonneg h (by omega), Int.ediv_le_self k h⟩, fun h => ⟨Int.le_ediv_of_mul_le (by omega) (by
    have := Int.mul_le_mul_of_nonpos_left (show n ≤ 0 by omega) hk
    simpa using this), Int.ediv_neg_of_neg_of_pos h (by omega)⟩⟩
theorem quo_td {n k : Int} (hk : 1 ≤ k) : n / k = if n.tmod k < 0 then n.tdiv k - 1 else n.tdiv k := by
  have e1 : n = k * (n.tdiv k) + n.tmod k := (Int.mul_tdiv_add_tmod n k).symm
  have l1 := Int.tmod_lt_of_pos n (show 0 < k by omega)
  have l2 : -k < n.tmod k := by
    have := Int.lt_tmod_of_pos n (show 0 < k by omega)
    exact this
  split
  · rename_i h
    refine (Int.ediv_emod_unique (a := n) (b := k) (r := n.tmod k + k) (q := n.tdiv k - 1) (by omega)).2 ⟨?_, by omega, by omega⟩ |>.1
    rw [Int.mul_sub]
    omega
  · rename_i h
    exact ((Int.ediv_emod_unique (a := n) (b := k) (r := n.tmod k) (q := n.tdiv k) (by omega)).2 ⟨by omega, by omega, by omega⟩).1
theorem quo_to (n k : Int) (w : World) (hn : -1000000000000000 ≤ n ∧ n ≤ 1000000000000000) (hk : 1 ≤ k ∧ k ≤ 1000000) :
    Calls Tryd.prog 35 #[.int .i64 n, .int .i64 k] w fun e w' => e = .returned (.int .i64 (n / k)) ∧ w' = w := by
  have hk0 : k ≠ 0 := by omega
  have bd := quo_bd (n := n) hk.1
  have td := quo_td (n := n) hk.1
  obtain ⟨q, hq⟩ : ∃ q, n.tdiv k = q := ⟨_, rfl⟩
  obtain ⟨m, hm⟩ : ∃ m, n.tmod k = m := ⟨_, rfl⟩
  rw [hq, hm] at td
  by_cases h : m < 0
  · rw [if_pos h] at td
    go_enter Tryd.func35, Tryd.ntmps35
    go_wp2
    go_ret
    refine ⟨?_, rfl⟩
    first | (rw [td]; rfl) | (show Ending.returned (.int .i64 _) = _; rw [td]) | (simp [td]; done)
  · rw [if_neg h] at td
    go_enter Tryd.func35, Tryd.ntmps35
    go_wp2
    go_ret
    refine ⟨?_, rfl⟩
    first | (rw [td]; rfl) | (show Ending.returned (.int .i64 _) = _; rw [td]) | (simp; done) | (simp [td]; done)
end Fil
end Go.Proofs.YtpcmfgfhdnfmcaaDoor
