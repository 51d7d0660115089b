/-
  Contracts of package civil: Number, Date, YearDay.
-/
import Derived.Test.YtpcnpacllkiieaaGreatDoorCiv
namespace Go.Proofs.YtpcnpacllkiieaaGreatDoor
open Go.RowKit
namespace Civ
theorem len_same (y m : Int) (w : World) :
    Calls Tryz.prog 104 #[.int .i64 y, .int .i64 m] w fun e w' => e = .returned (.int .i64 (Cal.mlen y m)) ∧ w' = w := (len_any y m w).mono fun _ _ ⟨h, k⟩ => ⟨h, k.symm⟩
def numE (y m d : Int) : Int := if Cal.valid y m d then 0 else 4
def numV (y m d : Int) : Int := if Cal.valid y m d then Cal.num y m d else 0
theorem valid_mk {y m d : Int} (h : 0 ≤ y ∧ y ≤ 10000 ∧ 1 ≤ d ∧ d ≤ Cal.mlen y m) : Cal.valid y m d = true := decide_eq_true h
theorem valid_no {y m d : Int} (h : ¬ (0 ≤ y ∧ y ≤ 10000 ∧ 1 ≤ d ∧ d ≤ Cal.mlen y m)) : Cal.valid y m d = false := decide_eq_false h
theorem numE_no {y m d : Int} (h : ¬ (0 ≤ y ∧ y ≤ 10000 ∧ 1 ≤ d ∧ d ≤ Cal.mlen y m)) : numE y m d = 4 ∧ numV y m d = 0 := by
  rw [numE, numV, valid_no h]; exact ⟨rfl, rfl⟩
theorem numE_yes {y m d : Int} (h : 0 ≤ y ∧ y ≤ 10000 ∧ 1 ≤ d ∧ d ≤ Cal.mlen y m) : numE y m d = 0 ∧ numV y m d = Cal.num y m d := by
  rw [numE, numV, valid_mk h]; exact ⟨rfl, rfl⟩
theorem ret_ii {a a' b b' : Int} (h : a = a') (k : b = b') : Ending.returned (.tuple #[.int .i64 a, .int .i64 b]) = .returned (.tuple #[.int .i64 a', .int .i64 b']) := by rw [h, k]

theorem Ahead.alloc {w : World} (h : Ahead w) (o : Obj) : Ahead (w.alloc o) := h.stays ((Below.refl _ _).alloc (Nat.le_refl _) o)
theorem Ahead.drewN {w : World} (h : Ahead w) (n : Nat) : Ahead (w.drewN n) := h.stays (below_drewN (Below.refl _ _) n)
theorem Ahead.drew {w : World} (h : Ahead w) : Ahead w.drew := h.drewN 1
theorem quiet_add_left {P : Program} {f : FuncId} {args : Array Value} {w : World} {a n : Nat} {v : Value}
    (h : Calls P f args (w.drewN (a + n)) fun e w' => e = .returned v ∧ w.drewN (a + n) = w') :
    Calls P f args (w.drewN (a + n)) fun e w'' => e = .returned v ∧ ∃ m, w'' = w.drewN (a + m) :=
  h.mono fun _ _ ⟨he, hm⟩ => ⟨he, n, hm.symm⟩
theorem quiet_left {P : Program} {f : FuncId} {args : Array Value} {w : World} {n : Nat} {v : Value}
    (h : Calls P f args (w.drewN n) fun e w' => e = .returned v ∧ w.drewN n = w') : Calls P f args (w.drewN n) fun e w'' => e = .returned v ∧ ∃ m, w'' = w.drewN m :=
  h.mono fun _ _ ⟨he, hm⟩ => ⟨he, n, hm.symm⟩

set_option maxHeartbeats 1600000 in
theorem number_w (y m d : Int) (w : World) (hA : Ahead w) (i1 : -9223372036854775808 ≤ d) (i2 : d ≤ 9223372036854775807) :
    Calls Tryz.prog 160 #[.agg #[.int .i64 y, .int .i64 m, .int .i64 d]] w fun e w' => e = .returned (.tuple #[.int .i64 (numV y m d), .int .i64 (numE y m d)]) ∧ ∃ n, w' = (w.alloc (Obj.cells #[.int .i64 y, .int .i64 m, .int .i64 d] 140)).drewN n := by
  have HA := Lib.hid hA
  clear hA
  obtain ⟨l1, l2⟩ := Cal.mlen_bd y m
  by_cases h1 : y < 0
  · have H := Lib.hid (numE_no (y := y) (m := m) (d := d) (fun h => by omega))
    have b1 : decide (y < 0) = true := decide_eq_true h1
    go_enter Tryz.func160, Tryz.ntmps160
    go_wp2_with fail
    go_quiet (fail)
    go_wp2
    go_ret2
    exact ⟨ret_ii H.out.2.symm H.out.1.symm, _, rfl⟩
  · have b1 : decide (y < 0) = false := decide_eq_false h1
    by_cases h2 : 10000 < y
    · have H := Lib.hid (numE_no (y := y) (m := m) (d := d) (fun h => by omega))
      have b2 : decide (10000 < y) = true := decide_eq_true h2
      go_enter Tryz.func160, Tryz.ntmps160
      go_wp2_with fail
      go_quiet (fail)
      go_wp2
      go_ret2
      exact ⟨ret_ii H.out.2.symm H.out.1.symm, _, rfl⟩
    · have b2 : decide (10000 < y) = false := decide_eq_false h2
      by_cases h3 : d < 1
      · have H := Lib.hid (numE_no (y := y) (m := m) (d := d) (fun h => by omega))
        have b3 : decide (d < 1) = true := decide_eq_true h3
        go_enter Tryz.func160, Tryz.ntmps160
        go_wp2_with fail
        go_quiet (fail)
        go_wp2
        go_ret2
        exact ⟨ret_ii H.out.2.symm H.out.1.symm, _, rfl⟩
      · have b3 : decide (d < 1) = false := decide_eq_false h3
        by_cases h4 : Cal.mlen y m < d
        · have H := Lib.hid (numE_no (y := y) (m := m) (d := d) (fun h => by omega))
          have b4 : decide (Cal.mlen y m < d) = true := decide_eq_true h4
          go_enter Tryz.func160, Tryz.ntmps160
          go_wp2_with fail
          go_quiet ((go_at_call 104; exact quiet_left (len_any _ _ _)))
          go_wp2
          go_ret2
          exact ⟨ret_ii H.out.2.symm H.out.1.symm, _, rfl⟩
        · have b4 : decide (Cal.mlen y m < d) = false := decide_eq_false h4
          have H := Lib.hid (numE_yes (y := y) (m := m) (d := d) (by omega))
          obtain ⟨m1, m2⟩ := Cal.mlen_pos (y := y) (m := m) (by omega)
          obtain ⟨n1, n2⟩ := Cal.ny_bd (y := y) (by omega) (by omega)
          obtain ⟨c1, c2⟩ := Cal.cum_bd (y := y) m1 m2
          obtain ⟨p1, p2⟩ := Cal.lp_01 y
          have HN := Lib.hid (show Cal.num y m d = Cal.ny y + Cal.cum y m + d - 1 from rfl)
          go_enter Tryz.func160, Tryz.ntmps160
          go_wp2_with fail
          go_quiet ((go_at_call 104; exact quiet_left (len_any _ _ _)))
          go_wp2_with fail
          go_quiet ((first | (go_at_call 175; exact quiet_add_left (newYear_any _ _ (by omega) (by omega))) | (go_at_call 176; exact quiet_add_left (before_any _ _ _ (Ahead.drewN (Ahead.alloc HA.out _) _) m1 m2))))
          go_wp2
          go_ret2
          exact ⟨ret_ii (by rw [H.out.2, HN.out]) H.out.1.symm, _, World.drewN_drewN _ _ _⟩

theorem number_any (y m d : Int) (w : World) (hA : Ahead w) (i1 : -9223372036854775808 ≤ d) (i2 : d ≤ 9223372036854775807) :
    Calls Tryz.prog 160 #[.agg #[.int .i64 y, .int .i64 m, .int .i64 d]] w fun e w' => e = .returned (.tuple #[.int .i64 (numV y m d), .int .i64 (numE y m d)]) ∧ Below w.heap.size w w' :=
  (number_w y m d w hA i1 i2).mono fun _ _ ⟨he, n, hw⟩ => ⟨he, by rw [hw]; exact below_drewN ((Below.refl _ _).alloc (Nat.le_refl _) _) _⟩

def dnE (n : Int) : Int := if -719528 ≤ n ∧ n ≤ 2933262 then 0 else 23
def ydV (n : Int) : Int := if -719528 ≤ n ∧ n ≤ 2933262 then n - Cal.ny (Cal.yr n) + 1 else 0
theorem dn_no {n : Int} (h : ¬ (-719528 ≤ n ∧ n ≤ 2933262)) : dnE n = 23 ∧ ydV n = 0 := by
  rw [dnE, ydV, if_neg h, if_neg h]; exact ⟨rfl, rfl⟩
theorem dn_yes {n : Int} (h : -719528 ≤ n ∧ n ≤ 2933262) : dnE n = 0 ∧ ydV n = n - Cal.ny (Cal.yr n) + 1 := by
  rw [dnE, ydV, if_pos h, if_pos h]; exact ⟨rfl, rfl⟩

def dY (n : Int) : Int := if -719528 ≤ n ∧ n ≤ 2933262 then Cal.yr n else 0
def dM (n : Int) : Int := if -719528 ≤ n ∧ n ≤ 2933262 then Cal.mon (Cal.yr n) (n - Cal.ny (Cal.yr n)) else 0
def dD (n : Int) : Int := if -719528 ≤ n ∧ n ≤ 2933262 then n - Cal.ny (Cal.yr n) - Cal.cum (Cal.yr n) (Cal.mon (Cal.yr n) (n - Cal.ny (Cal.yr n))) + 1 else 0
theorem dd_no {n : Int} (h : ¬ (-719528 ≤ n ∧ n ≤ 2933262)) : dY n = 0 ∧ dM n = 0 ∧ dD n = 0 := by
  rw [dY, dM, dD, if_neg h, if_neg h, if_neg h]; exact ⟨rfl, rfl, rfl⟩
theorem dd_yes {n : Int} (h : -719528 ≤ n ∧ n ≤ 2933262) : dY n = Cal.yr n ∧ dM n = Cal.mon (Cal.yr n) (n - Cal.ny (Cal.yr n)) ∧ dD n = n - Cal.ny (Cal.yr n) - Cal.cum (Cal.yr n) (Cal.mon (Cal.yr n) (n - Cal.ny (Cal.yr n))) + 1 := by
  rw [dY, dM, dD, if_pos h, if_pos h, if_pos h]; exact ⟨rfl, rfl, rfl⟩
theorem ret_di {a a' b b' c c' e e' : Int} (h : a = a') (h2 : b = b') (h3 : c = c') (k : e = e') : Ending.returned (.tuple #[.agg #[.int .i64 a, .int .i64 b, .int .i64 c], .int .i64 e]) = .returned (.tuple #[.agg #[.int .i64 a', .int .i64 b', .int .i64 c'], .int .i64 e']) := by rw [h, h2, h3, k]

end Civ
end Go.Proofs.YtpcnpacllkiieaaGreatDoor
