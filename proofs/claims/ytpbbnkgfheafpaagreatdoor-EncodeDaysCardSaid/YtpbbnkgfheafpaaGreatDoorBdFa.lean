/-
  Several texts in one (FilA, FilB, FilC).
-/
import Derived.Test.YtpbbnkgfheafpaaGreatDoorBdCl
import Derived.Test.YtpbbnkgfheafpaaGreatDoorShelf
import Derived.Test.YtpbbnkgfheafpaaGreatDoorBdD
import Derived.Test.YtpbbnkgfheafpaaGreatDoorBdF
/-
  Package filter, the small functions: slices.Contains of a list of numbers that came in; quotient, isYear, eitherWay, letsOne.
-/
namespace Go.Proofs.YtpbbnkgfheafpaaGreatDoor
open Go.RowKit
namespace Fil
open Rcv (IntV)
theorem cont_to (v : Value) (L : List Int) (x : Int) (w : World) (hv : IntV w v L) (hL : L.length ≤ 1000000) :
    Calls Tryz.prog 52 #[v, .int .i64 x] w fun e w' => e = .returned (.bool (L.contains x)) ∧ w' = w := by
  obtain ⟨a, n, c, rfl, rfl, hc⟩ := hv
  by_cases h0 : L.length = 0
  · have hL0 : L = [] := List.length_eq_zero_iff.1 h0
    subst hL0
    exact Tryz.slices_Contains_int_empty a c x w
  · obtain ⟨b, off, rfl, _, _⟩ := hc 0 (by omega)
    have q := Tryz.slices_Contains_int b off L.length c L x w (Nat.le_refl _) (by omega) (fun j hj => by
      obtain ⟨b', off', e, _, h2⟩ := hc j hj
      cases e
      rw [h2]
      simp [List.getD, hj])
    rw [List.take_length] at q
    exact q
/-- What a number's list lets: the numbers that it has, or the start's alone where it is empty and that is asked. -/
def onB (L : List Int) (asks : Bool) (s n : Int) : Bool := if L.length = 0 then (!asks || decide (n = s)) else L.contains n
/-- A list has a number, or that number counted from the end of so many. -/
def ewB (L : List Int) (n m : Int) : Bool := L.contains n || L.contains (n - m - 1)
theorem isy_to (y : Int) (w : World) : Calls Tryz.prog 60 #[.int .i64 y] w fun e w' => e = .returned (.bool (decide (1 ≤ y ∧ y ≤ 9999))) ∧ w' = w := by
  by_cases h1 : 1 ≤ y
  · by_cases h2 : y ≤ 9999
    · go_enter Tryz.func60, Tryz.ntmps60
      go_wp2
      go_ret
      simp [h1, h2]
    · go_enter Tryz.func60, Tryz.ntmps60
      go_wp2
      go_ret
      simp [h2]
  · go_enter Tryz.func60, Tryz.ntmps60
    go_wp2
    go_ret
    simp
    omega
theorem ew_to (v : Value) (L : List Int) (n m : Int) (w : World) (hv : IntV w v L) (hL : L.length ≤ 1000000) (hn : -1000000 ≤ n ∧ n ≤ 1000000) (hm : -1000000 ≤ m ∧ m ≤ 1000000) :
    Calls Tryz.prog 80 #[v, .int .i64 n, .int .i64 m] w fun e w' => e = .returned (.bool (ewB L n m)) ∧ w' = w := by
  have V := Lib.hid hv
  clear hv
  obtain ⟨b, hb⟩ : ∃ b, L.contains n = b := ⟨_, rfl⟩
  go_enter Tryz.func80, Tryz.ntmps80
  go_wp2_with fail
  refine (cont_to v L n w V.out hL).mono ?_
  rintro e w1 ⟨rfl, rfl⟩
  rw [hb]
  cases b with
  | true =>
    go_wp2
    go_ret
    have hm : n ∈ L := by simpa using hb
    simp [ewB, hm]
  | false =>
    go_wp2_with fail
    refine (cont_to v L (n - m - 1) _ V.out hL).mono ?_
    rintro e w1 ⟨rfl, rfl⟩
    go_wp2
    go_ret
    have hm : n ∉ L := by simpa using hb
    simp [ewB, hm]
theorem one_to (v : Value) (L : List Int) (asks : Bool) (s n : Int) (w : World) (hv : IntV w v L) (hL : L.length ≤ 1000000) :
    Calls Tryz.prog 79 #[v, .bool asks, .int .i64 s, .int .i64 n] w fun e w' => e = .returned (.bool (onB L asks s n)) ∧ w' = w := by
  obtain ⟨a, k, c, rfl, rfl, hc⟩ := hv
  have V : Hid (IntV w (.slice a L.length c) L) := Lib.hid ⟨a, _, c, rfl, rfl, hc⟩
  clear hc
  by_cases h0 : L.length = 0
  · have z0 : (L.length : Int) = 0 := by omega
    cases asks with
    | false =>
      go_enter Tryz.func79, Tryz.ntmps79
      go_wp2
      go_ret
      simp [onB, h0]
    | true =>
      by_cases hs : n = s
      · go_enter Tryz.func79, Tryz.ntmps79
        go_wp2
        go_ret
        simp [onB, h0, hs]
      · go_enter Tryz.func79, Tryz.ntmps79
        go_wp2
        go_ret
        simp [onB, h0, hs]
  · have z0 : (L.length : Int) ≠ 0 := by omega
    have z1 : ¬ (L.length : Int) = 0 := z0
    go_enter Tryz.func79, Tryz.ntmps79
    go_wp2_with fail
    refine (cont_to _ L n _ V.out hL).mono ?_
    rintro e w1 ⟨rfl, rfl⟩
    go_wp2
    go_ret
    simp [onB, h0]
theorem quo_bd {n k : Int} (hk : 1 ≤ k) : (0 ≤ n → 0 ≤ n / k ∧ n / k ≤ n) ∧ (n < 0 → n ≤ n / k ∧ n / k < 0) :=
  ⟨fun h => ⟨Int.ediv_nonneg h (by omega), Int.ediv_le_self k h⟩, fun h => ⟨Int.le_ediv_of_mul_le (by omega) (by
    have := Int.mul_le_mul_of_nonpos_left (show n ≤ 0 by omega) hk
    simpa using this), Int.ediv_neg_of_neg_of_pos h (by omega)⟩⟩
theorem quo_td {n k : Int} (hk : 1 ≤ k) : n / k = if n.tmod k < 0 then n.tdiv k - 1 else n.tdiv k := by
  have e1 : n = k * (n.tdiv k) + n.tmod k := (Int.mul_tdiv_add_tmod n k).symm
  have l1 := Int.tmod_lt_of_pos n (show 0 < k by omega)
  have l2 : -k < n.tmod k := by
    have := Int.lt_tmod_of_pos n (show 0 < k by omega)
    exact this
  split
  · rename_i h
    refine (Int.ediv_emod_unique (a := n) (b := k) (r := n.tmod k + k) (q := n.tdiv k - 1) (by omega)).2 ⟨?_, by omega, by omega⟩ |>.1
    rw [Int.mul_sub]
    omega
  · rename_i h
    exact ((Int.ediv_emod_unique (a := n) (b := k) (r := n.tmod k) (q := n.tdiv k) (by omega)).2 ⟨by omega, by omega, by omega⟩).1
theorem quo_to (n k : Int) (w : World) (hn : -1000000000000000 ≤ n ∧ n ≤ 1000000000000000) (hk : 1 ≤ k ∧ k ≤ 1000000) :
    Calls Tryz.prog 47 #[.int .i64 n, .int .i64 k] w fun e w' => e = .returned (.int .i64 (n / k)) ∧ w' = w := by
  have hk0 : k ≠ 0 := by omega
  have bd := quo_bd (n := n) hk.1
  have td := quo_td (n := n) hk.1
  obtain ⟨q, hq⟩ : ∃ q, n.tdiv k = q := ⟨_, rfl⟩
  obtain ⟨m, hm⟩ : ∃ m, n.tmod k = m := ⟨_, rfl⟩
  rw [hq, hm] at td
  by_cases h : m < 0
  · rw [if_pos h] at td
    go_enter Tryz.func47, Tryz.ntmps47
    go_wp2
    go_ret
    refine ⟨?_, rfl⟩
    first | (rw [td]; rfl) | (show Ending.returned (.int .i64 _) = _; rw [td]) | (simp [td]; done)
  · rw [if_neg h] at td
    go_enter Tryz.func47, Tryz.ntmps47
    go_wp2
    go_ret
    refine ⟨?_, rfl⟩
    first | (rw [td]; rfl) | (show Ending.returned (.int .i64 _) = _; rw [td]) | (simp; done) | (simp [td]; done)
end Fil
end Go.Proofs.YtpbbnkgfheafpaaGreatDoor
/-
  Package filter: momentOf, a time taken to pieces.
-/
namespace Go.Proofs.YtpbbnkgfheafpaaGreatDoor
open Go.RowKit
namespace Fil
open Civ (dY dM dD dnE Ahead)
open Cel
/-- The pieces of a time: day, date, weekday, second, minute, hour. -/
def moL (t : Int) : List Value := [.int .i64 (t / 86400), .int .i64 (dY (t / 86400)), .int .i64 (dM (t / 86400)), .int .i64 (dD (t / 86400)), .int .i64 (Cal.wday (t / 86400)), .int .i64 (t % 86400 % 60), .int .i64 (t % 86400 / 60 % 60), .int .i64 (t % 86400 / 3600)]
def noL : List Value := [.int .i64 0, .int .i64 0, .int .i64 0, .int .i64 0, .int .i64 0, .int .i64 0, .int .i64 0, .int .i64 0]
def moO (t : Int) : Bool := decide (dnE (t / 86400) = 0 ∧ 1 ≤ dY (t / 86400) ∧ dY (t / 86400) ≤ 9999)
theorem bdrew {w w' : World} (h : Below w.heap.size w w') (k : Nat) : Below w.heap.size w (w'.drewN k) := bstep h ⟨rfl, rfl, rfl, Nat.le_refl _, fun _ _ => rfl⟩
theorem below_sets8 {w w' : World} (h : Below w.heap.size w w') {v0 v1 v2 v3 v4 v5 v6 v7 : Value} : Below w.heap.size w ((((((((w'.setCell ⟨w.heap.size, 0, none⟩ v0).setCell ⟨w.heap.size, 1, none⟩ v1).setCell ⟨w.heap.size, 2, none⟩ v2).setCell ⟨w.heap.size, 3, none⟩ v3).setCell ⟨w.heap.size, 4, none⟩ v4).setCell ⟨w.heap.size, 5, none⟩ v5).setCell ⟨w.heap.size, 6, none⟩ v6).setCell ⟨w.heap.size, 7, none⟩ v7) :=
  (((((((h.setCell (Nat.le_refl _) _).setCell (Nat.le_refl _) _).setCell (Nat.le_refl _) _).setCell (Nat.le_refl _) _).setCell (Nat.le_refl _) _).setCell (Nat.le_refl _) _).setCell (Nat.le_refl _) _).setCell (Nat.le_refl _) _
set_option maxHeartbeats 6400000 in
theorem mo_no (t : Int) (w : World) (hA : Ahead w) (h1 : -9223372036854775808 ≤ t) (h2 : t ≤ 9223372036854775807) (ho : moO t = false) :
    Calls Tryz.prog 46 #[.int .i64 t] w fun e w' => e = .returned (.tuple #[.agg noL.toArray, .bool false]) ∧ Below w.heap.size w w' := by
  have HA := Lib.hid hA
  have HO := Lib.hid ho
  clear hA ho
  go_enter Tryz.func46, Tryz.ntmps46
  go_upto_region 0 with fail
  go_cut [2] (fun p wz => p = .pointer (some ⟨w.heap.size, 0, none⟩) ∧ Hid (Cs w.heap.size wz noL) ∧ Hid (Below w.heap.size w wz))
  case first =>
    go_wp2
    go_meet
    exact ⟨rfl, Lib.hid (Cs.new w noL _), Lib.hid ((Below.refl _ _).alloc (Nat.le_refl _) _)⟩
  case rest =>
  obtain ⟨w1, rfl⟩ : ∃ x : World, x = wc := ⟨_, rfl⟩
  obtain ⟨rfl, C, B⟩ := hcut
  obtain ⟨d, hd⟩ : ∃ d, t / 86400 = d := ⟨_, rfl⟩
  obtain ⟨s, hs⟩ : ∃ s, t % 86400 = s := ⟨_, rfl⟩
  have sb : 0 ≤ s ∧ s < 86400 := by omega
  have HD := Lib.hid hd
  have HS := Lib.hid hs
  have T1 := Lib.hid (And.intro h1 h2)
  clear hd hs h1 h2
  go_upto_region 1 with fail
  go_cut [4, 5] (fun p q wz => p = .int .i64 d ∧ q = .int .i64 s ∧ Hid (Cs w.heap.size wz noL) ∧ Hid (Below w.heap.size w wz))
  case first =>
    go_wp2_with fail
    refine (Clk.csplit_any t _ T1.out.1 T1.out.2).mono ?_
    rintro e w2 ⟨rfl, n, rfl⟩
    rw [HD.out, HS.out]
    go_wp2
    go_meet
    exact ⟨rfl, rfl, Lib.hid (C.out.drewN n), Lib.hid (bdrew B.out n)⟩
  case rest =>
  obtain ⟨w2, rfl⟩ : ∃ x : World, x = wc := ⟨_, rfl⟩
  clear C B
  obtain ⟨rfl, rfl, C, B⟩ := hcut
  obtain ⟨Y, hY⟩ : ∃ Y, dY d = Y := ⟨_, rfl⟩
  obtain ⟨M, hM⟩ : ∃ M, dM d = M := ⟨_, rfl⟩
  obtain ⟨D, hDD⟩ : ∃ D, dD d = D := ⟨_, rfl⟩
  obtain ⟨E, hE⟩ : ∃ E, dnE d = E := ⟨_, rfl⟩
  have HY := Lib.hid (And.intro hY (And.intro hM (And.intro hDD hE)))
  clear hY hM hDD hE
  go_upto_region 2 with fail
  go_cut [6, 7] (fun p q wz => ∃ g6, p = .pointer (some ⟨g6, 0, none⟩) ∧ w.heap.size < g6 ∧ q = .int .i64 E ∧ Hid (Cs g6 wz [.int .i64 Y, .int .i64 M, .int .i64 D]) ∧ Hid (Cs w.heap.size wz noL) ∧ Hid (Below w.heap.size w wz))
  case first =>
    go_wp2_with fail
    refine (Civ.date_w d _ (HA.out.stays B.out)).mono ?_
    rintro e w3 ⟨rfl, hw⟩
    have k : Below w2.heap.size w2 w3 := by rw [← hw]; exact (Below.refl _ _).alloc (Nat.le_refl _) _
    have C := Lib.hid (C.out.below k)
    have B := Lib.hid (bstep B.out k)
    clear hw k
    rw [HY.out.1, HY.out.2.1, HY.out.2.2.1, HY.out.2.2.2]
    have lt := C.out.1
    go_wp2
    go_meet
    exact ⟨_, rfl, by omega, rfl, Lib.hid (Cs.new w3 [.int .i64 Y, .int .i64 M, .int .i64 D] _), Lib.hid (C.out.alloc _), Lib.hid (B.out.alloc B.out.size _)⟩
  case rest =>
  obtain ⟨w3, rfl⟩ : ∃ x : World, x = wc := ⟨_, rfl⟩
  clear C B
  obtain ⟨g6, rfl, hg, rfl, DC, C, B⟩ := hcut
  have e0 := (DC.out.2 0 _ rfl).1
  have c0 := (C.out.2 0 (.int .i64 0) rfl).1
  have f0 := (C.out.2 0 (.int .i64 0) rfl).2
  have c1 := (C.out.2 1 (.int .i64 0) rfl).1
  have f1 := (C.out.2 1 (.int .i64 0) rfl).2
  have c2 := (C.out.2 2 (.int .i64 0) rfl).1
  have f2 := (C.out.2 2 (.int .i64 0) rfl).2
  have c3 := (C.out.2 3 (.int .i64 0) rfl).1
  have f3 := (C.out.2 3 (.int .i64 0) rfl).2
  have c4 := (C.out.2 4 (.int .i64 0) rfl).1
  have f4 := (C.out.2 4 (.int .i64 0) rfl).2
  have c5 := (C.out.2 5 (.int .i64 0) rfl).1
  have f5 := (C.out.2 5 (.int .i64 0) rfl).2
  have c6 := (C.out.2 6 (.int .i64 0) rfl).1
  have f6 := (C.out.2 6 (.int .i64 0) rfl).2
  have c7 := (C.out.2 7 (.int .i64 0) rfl).1
  have f7 := (C.out.2 7 (.int .i64 0) rfl).2
  have hE : E = 0 ∨ E = 23 := by
    rw [← HY.out.2.2.2, dnE]
    split
    · exact Or.inl rfl
    · exact Or.inr rfl
  rcases hE with rfl | rfl
  · obtain ⟨y, hy⟩ : ∃ y, decide (1 ≤ Y ∧ Y ≤ 9999) = y := ⟨_, rfl⟩
    go_wp2_with fail
    refine (isy_to Y _).mono ?_
    rintro e w4 ⟨rfl, rfl⟩
    rw [hy]
    cases y with
    | false =>
      go_wp2
      exact bodyPost_ret (v := .tuple #[.agg noL.toArray, .bool false]) (by simp [results, Tryz.results46, go_sem, noL, c0, c1, c2, c3, c4, c5, c6, c7]) rfl ⟨rfl, below_sets8 B.out⟩
    | true =>
      have q := HO.out
      rw [moO, HD.out, HY.out.1, HY.out.2.2.2] at q
      have hy := of_decide_eq_true hy
      exact absurd q (by simp; omega)
  · go_wp2
    exact bodyPost_ret (v := .tuple #[.agg noL.toArray, .bool false]) (by simp [results, Tryz.results46, go_sem, noL, c0, c1, c2, c3, c4, c5, c6, c7]) rfl ⟨rfl, below_sets8 B.out⟩
end Fil
end Go.Proofs.YtpbbnkgfheafpaaGreatDoor
/-
  Package filter: momentOf of a time that counts.
-/
namespace Go.Proofs.YtpbbnkgfheafpaaGreatDoor
open Go.RowKit
namespace Fil
open Civ (dY dM dD dnE Ahead)
open Cel
theorem resM {P : Program} {fn : Func} {tmps : Array Value} {g : Nat} {W : World} {vs : List Value} {v : Value} (h : Cs g W vs) (k : ∀ W', Cs g W' vs → (results fn tmps).run P W' = .ok v W') : (results fn tmps).run P W = .ok v W := k W h
set_option maxHeartbeats 6400000 in
theorem mo_yes (t : Int) (w : World) (hA : Ahead w) (h1 : -9223372036854775808 ≤ t) (h2 : t ≤ 9223372036854775807) (ho : moO t = true) :
    Calls Tryz.prog 46 #[.int .i64 t] w fun e w' => e = .returned (.tuple #[.agg (moL t).toArray, .bool true]) ∧ Below w.heap.size w w' := by
  have HA := Lib.hid hA
  have HO := Lib.hid ho
  clear hA ho
  go_enter Tryz.func46, Tryz.ntmps46
  go_upto_region 0 with fail
  go_cut [2] (fun p wz => p = .pointer (some ⟨w.heap.size, 0, none⟩) ∧ Hid (Cs w.heap.size wz noL) ∧ Hid (Below w.heap.size w wz))
  case first =>
    go_wp2
    go_meet
    exact ⟨rfl, Lib.hid (Cs.new w noL _), Lib.hid ((Below.refl _ _).alloc (Nat.le_refl _) _)⟩
  case rest =>
  obtain ⟨w1, rfl⟩ : ∃ x : World, x = wc := ⟨_, rfl⟩
  obtain ⟨rfl, C, B⟩ := hcut
  obtain ⟨d, hd⟩ : ∃ d, t / 86400 = d := ⟨_, rfl⟩
  obtain ⟨s, hs⟩ : ∃ s, t % 86400 = s := ⟨_, rfl⟩
  have sb : 0 ≤ s ∧ s < 86400 := by omega
  have HD := Lib.hid hd
  have HS := Lib.hid hs
  have T1 := Lib.hid (And.intro h1 h2)
  clear hd hs h1 h2
  go_upto_region 1 with fail
  go_cut [4, 5] (fun p q wz => p = .int .i64 d ∧ q = .int .i64 s ∧ Hid (Cs w.heap.size wz noL) ∧ Hid (Below w.heap.size w wz))
  case first =>
    go_wp2_with fail
    refine (Clk.csplit_any t _ T1.out.1 T1.out.2).mono ?_
    rintro e w2 ⟨rfl, n, rfl⟩
    rw [HD.out, HS.out]
    go_wp2
    go_meet
    exact ⟨rfl, rfl, Lib.hid (C.out.drewN n), Lib.hid (bdrew B.out n)⟩
  case rest =>
  obtain ⟨w2, rfl⟩ : ∃ x : World, x = wc := ⟨_, rfl⟩
  clear C B
  obtain ⟨rfl, rfl, C, B⟩ := hcut
  obtain ⟨Y, hY⟩ : ∃ Y, dY d = Y := ⟨_, rfl⟩
  obtain ⟨M, hM⟩ : ∃ M, dM d = M := ⟨_, rfl⟩
  obtain ⟨D, hDD⟩ : ∃ D, dD d = D := ⟨_, rfl⟩
  obtain ⟨E, hE⟩ : ∃ E, dnE d = E := ⟨_, rfl⟩
  have HY := Lib.hid (And.intro hY (And.intro hM (And.intro hDD hE)))
  clear hY hM hDD hE
  go_upto_region 2 with fail
  go_cut [6, 7] (fun p q wz => ∃ g6, p = .pointer (some ⟨g6, 0, none⟩) ∧ w.heap.size < g6 ∧ q = .int .i64 E ∧ Hid (Cs g6 wz [.int .i64 Y, .int .i64 M, .int .i64 D]) ∧ Hid (Cs w.heap.size wz noL) ∧ Hid (Below w.heap.size w wz))
  case first =>
    go_wp2_with fail
    refine (Civ.date_w d _ (HA.out.stays B.out)).mono ?_
    rintro e w3 ⟨rfl, hw⟩
    have k : Below w2.heap.size w2 w3 := by rw [← hw]; exact (Below.refl _ _).alloc (Nat.le_refl _) _
    have C := Lib.hid (C.out.below k)
    have B := Lib.hid (bstep B.out k)
    clear hw k
    rw [HY.out.1, HY.out.2.1, HY.out.2.2.1, HY.out.2.2.2]
    have lt := C.out.1
    go_wp2
    go_meet
    exact ⟨_, rfl, by omega, rfl, Lib.hid (Cs.new w3 [.int .i64 Y, .int .i64 M, .int .i64 D] _), Lib.hid (C.out.alloc _), Lib.hid (B.out.alloc B.out.size _)⟩
  case rest =>
  obtain ⟨w3, rfl⟩ : ∃ x : World, x = wc := ⟨_, rfl⟩
  clear C B
  obtain ⟨g6, rfl, hg, rfl, DC, C, B⟩ := hcut
  have e0 := (DC.out.2 0 _ rfl).1
  have c0 := (C.out.2 0 (.int .i64 0) rfl).1
  have f0 := (C.out.2 0 (.int .i64 0) rfl).2
  have c1 := (C.out.2 1 (.int .i64 0) rfl).1
  have f1 := (C.out.2 1 (.int .i64 0) rfl).2
  have c2 := (C.out.2 2 (.int .i64 0) rfl).1
  have f2 := (C.out.2 2 (.int .i64 0) rfl).2
  have c3 := (C.out.2 3 (.int .i64 0) rfl).1
  have f3 := (C.out.2 3 (.int .i64 0) rfl).2
  have c4 := (C.out.2 4 (.int .i64 0) rfl).1
  have f4 := (C.out.2 4 (.int .i64 0) rfl).2
  have c5 := (C.out.2 5 (.int .i64 0) rfl).1
  have f5 := (C.out.2 5 (.int .i64 0) rfl).2
  have c6 := (C.out.2 6 (.int .i64 0) rfl).1
  have f6 := (C.out.2 6 (.int .i64 0) rfl).2
  have c7 := (C.out.2 7 (.int .i64 0) rfl).1
  have f7 := (C.out.2 7 (.int .i64 0) rfl).2
  have q := HO.out
  rw [moO, HD.out, HY.out.1, HY.out.2.2.2] at q
  obtain ⟨rfl, y1, y2⟩ := of_decide_eq_true q
  clear q
  have e1 := (DC.out.2 1 _ rfl).1
  have e2 := (DC.out.2 2 _ rfl).1
  go_wp2_with fail
  refine (isy_to Y _).mono ?_
  rintro e w4 ⟨rfl, rfl⟩
  rw [decide_eq_true (And.intro y1 y2)]
  have r1 : s.tmod 60 = s % 60 := Int.tmod_eq_emod_of_nonneg sb.1
  have r2 : s.tdiv 60 = s / 60 := Int.tdiv_eq_ediv_of_nonneg sb.1
  have r3 : (s / 60).tmod 60 = s / 60 % 60 := Int.tmod_eq_emod_of_nonneg (by omega)
  have r4 : s.tdiv 3600 = s / 3600 := Int.tdiv_eq_ediv_of_nonneg sb.1
  have r5 : IntKind.i64.wrap (s / 60) = s / 60 := IntWalk.i64_in _ (by omega)
  have r6 : IntKind.i64.wrap (s / 3600) = s / 3600 := IntWalk.i64_in _ (by omega)
  go_upto_region 5 with fail
  go_region_with ((go_at_call 42; (refine (Civ.weekday_any _ _).mono ?_); rintro e w5 ⟨rfl, rfl⟩))
  all_goals clear r1 r2 r3 r4 r5 r6 e0 e1 e2 f0 f1 f2 f3 f4 f5 f6 f7
  all_goals go_wp2
  all_goals refine bodyPost_ret (v := .tuple #[.agg (moL t).toArray, .bool true]) (resM (((((((((C.out.set 0 (by simp [noL]) (.int .i64 d)).set 1 (by simp [noL]) (.int .i64 Y)).set 2 (by simp [noL]) (.int .i64 M)).set 3 (by simp [noL]) (.int .i64 D)).set 4 (by simp [noL]) (.int .i64 (Cal.wday d))).set 5 (by simp [noL]) (.int .i64 (s % 60))).set 6 (by simp [noL]) (.int .i64 (s / 60 % 60))).set 7 (by simp [noL]) (.int .i64 (s / 3600))).drewN 1) (fun W h => ?_)) rfl ⟨rfl, bdrew (below_sets8 B.out) 1⟩
  all_goals change (results _ (Act.put _ (some 3) (.bool true)).tmps).run _ _ = _
  all_goals have t0 := (h.2 0 _ rfl).1; have t1 := (h.2 1 _ rfl).1; have t2 := (h.2 2 _ rfl).1; have t3 := (h.2 3 _ rfl).1; have t4 := (h.2 4 _ rfl).1; have t5 := (h.2 5 _ rfl).1; have t6 := (h.2 6 _ rfl).1; have t7 := (h.2 7 _ rfl).1
  all_goals clear HA HO
  all_goals rw [moL, HD.out, HS.out, HY.out.1, HY.out.2.1, HY.out.2.2.1]
  all_goals simp [results, Tryz.results46, go_sem, t0, t1, t2, t3, t4, t5, t6, t7]
end Fil
end Go.Proofs.YtpbbnkgfheafpaaGreatDoor
