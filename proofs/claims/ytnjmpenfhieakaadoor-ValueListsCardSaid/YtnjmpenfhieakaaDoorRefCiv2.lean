/-
  Contracts of the reference's calls on the calendar, second part: Weekday, Right, Number, Least, Most.
-/
import Derived.Test.YtnjmpenfhieakaaDoorRefCiv
namespace Go.Proofs.YtnjmpenfhieakaaDoor
open Go.RowKit
namespace Civ
theorem quiet_drew {P : Program} {f : FuncId} {args : Array Value} {w : World} {n : Nat} {v : Value}
    (h : Calls P f args (w.drewN n) fun e w' => e = .returned v ∧ ∃ k, w' = (w.drewN n).drewN k) : Calls P f args (w.drewN n) fun e w'' => e = .returned v ∧ ∃ m, w'' = w.drewN m :=
  h.mono fun _ _ ⟨he, k, hk⟩ => ⟨he, n + k, by rw [hk, World.drewN_drewN]⟩

set_option maxHeartbeats 1600000 in
theorem right_any (y m d : Int) (w : World) (d1 : -9223372036854775808 ≤ d) (d2 : d ≤ 9223372036854775807) :
    Calls Tryd.prog 30 #[.agg #[.int .i64 y, .int .i64 m, .int .i64 d]] w fun e w' => e = .returned (.bool (Cal.valid y m d)) ∧ ∃ q, w' = (w.alloc (Obj.cells #[.int .i64 y, .int .i64 m, .int .i64 d] 42)).drewN q := by
  by_cases hy : 0 ≤ y ∧ y ≤ 10000
  · by_cases hm : 1 ≤ m ∧ m ≤ 12
    · have l := Cal.mlen_bd y m
      by_cases hd : 1 ≤ d ∧ d ≤ Cal.mlen y m
      · have H := Lib.hid (valid_mk ⟨hy.1, hy.2, hd⟩)
        go_enter Tryd.func30, Tryd.ntmps30
        go_wp2_with fail
        go_quiet ((first | (go_at_call 48; refine quiet_left (rin_yes _ _ _ _ ?_); omega) | (go_at_call 49; refine quiet_drew (rlen_any _ _ _ ?_ ?_) <;> omega)))
        go_wp2
        go_ret
        exact ⟨ret_b H.out.symm, _, rfl⟩
      · have H := Lib.hid (valid_no (y := y) (m := m) (d := d) (fun h => hd h.2.2))
        go_enter Tryd.func30, Tryd.ntmps30
        go_wp2_with fail
        go_quiet ((first | (go_at_call 48; refine quiet_left (rin_yes _ _ _ _ ?_); omega) | (go_at_call 48; refine quiet_left (rin_no _ _ _ _ ?_); omega) | (go_at_call 49; refine quiet_drew (rlen_any _ _ _ ?_ ?_) <;> omega)))
        go_wp2
        go_ret
        exact ⟨ret_b H.out.symm, _, rfl⟩
    · have H := Lib.hid (valid_no (y := y) (m := m) (d := d) (fun h => hm (Cal.mlen_pos (y := y) (m := m) (by omega))))
      go_enter Tryd.func30, Tryd.ntmps30
      go_wp2_with fail
      go_quiet ((first | (go_at_call 48; refine quiet_left (rin_yes _ _ _ _ ?_); omega) | (go_at_call 48; refine quiet_left (rin_no _ _ _ _ ?_); omega)))
      go_wp2
      go_ret
      exact ⟨ret_b H.out.symm, _, rfl⟩
  · have H := Lib.hid (valid_no (y := y) (m := m) (d := d) (fun h => hy ⟨h.1, h.2.1⟩))
    go_enter Tryd.func30, Tryd.ntmps30
    go_wp2_with fail
    go_quiet ((go_at_call 48; refine quiet_left (rin_no _ _ _ _ ?_); omega))
    go_wp2
    go_ret
    exact ⟨ret_b H.out.symm, _, rfl⟩

set_option maxHeartbeats 1600000 in
theorem rnum_w (y m d : Int) (w : World) (y0 : 0 ≤ y) (y1 : y ≤ 10000) (m0 : 1 ≤ m) (m1 : m ≤ 12) (d0 : 1 ≤ d) (d1 : d ≤ 31) :
    Calls Tryd.prog 31 #[.agg #[.int .i64 y, .int .i64 m, .int .i64 d]] w fun e w' => e = .returned (.int .i64 (Cal.num y m d)) ∧ ∃ q, w' = (w.alloc (Obj.cells #[.int .i64 y, .int .i64 m, .int .i64 d] 42)).drewN q := by
  have HN := Lib.hid (show Cal.num y m d = Cal.ny y + Cal.cum y m + d - 1 from rfl)
  have HY : Hid (365 * y + (y + 3) / 4 - (y + 99) / 100 + (y + 399) / 400 = Cal.ny y + 719528) := Lib.hid (by unfold Cal.ny; omega)
  have HC := Lib.hid (fun k (a : 1 ≤ k) (b : k ≤ 12) => Cal.cum_bd (y := y) a b)
  have HS := Lib.hid (fun k (a : 1 ≤ k) (b : k ≤ 11) => Cal.cum_succ (y := y) a b)
  obtain ⟨n1, n2⟩ := Cal.ny_bd (y := y) y0 (by omega)
  have lp := Cal.lp_01 y
  go_enter Tryd.func31, Tryd.ntmps31
  go_wp2
  go_loopw [4, 5] (fun n i wr => ∃ k : Int, 1 ≤ k ∧ k ≤ m ∧ i = .int .i64 k ∧ n = .int .i64 (Cal.ny y + 719528 + Cal.cum y k) ∧ ∃ q, wr = (w.alloc (Obj.cells #[.int .i64 y, .int .i64 m, .int .i64 d] 42)).drewN q) (fun _ i _ => (m - intOf i).toNat)
  case atStart => exact ⟨1, by omega, by omega, rfl, congrArg _ (by rw [Cal.cum_1, HY.out]; omega), 0, rfl⟩
  case round =>
    obtain ⟨k, k0, k1, rfl, rfl, q, rfl⟩ := hrel
    obtain ⟨c0, c1⟩ := HC.out k k0 (by omega)
    have lb := Cal.mlen_bd y k
    by_cases hk : k < m
    · have hs := Lib.hid (HS.out k k0 (by omega))
      go_wp2_with fail
      refine (rlen_any _ _ _ (by omega) (by omega)).mono ?_
      rintro e w1 ⟨rfl, q1, rfl⟩
      go_wp2
      go_roundw
      case rel => exact ⟨k + 1, by omega, by omega, rfl, congrArg _ (by rw [hs.out]; omega), _, rfl⟩
      case measure => simp [intOf]; omega
    · obtain rfl : k = m := by omega
      go_wp2
      go_ret
      exact ⟨ret_i (by rw [HN.out]; omega), _, rfl⟩
theorem rnum_any (y m d : Int) (w : World) (y0 : 0 ≤ y) (y1 : y ≤ 10000) (m0 : 1 ≤ m) (m1 : m ≤ 12) (d0 : 1 ≤ d) (d1 : d ≤ 31) :
    Calls Tryd.prog 31 #[.agg #[.int .i64 y, .int .i64 m, .int .i64 d]] w fun e w' => e = .returned (.int .i64 (Cal.num y m d)) ∧ Below w.heap.size w w' :=
  (rnum_w y m d w y0 y1 m0 m1 d0 d1).mono fun _ _ ⟨he, q, hw⟩ => ⟨he, by rw [hw]; exact below_drewN ((Below.refl _ _).alloc (Nat.le_refl _) _) _⟩

theorem num_least : Cal.num 0 1 1 = -719528 := by decide +kernel
theorem num_most : Cal.num 10000 12 31 = 2933262 := by decide +kernel
theorem least_any (w : World) :
    Calls Tryd.prog 35 #[] w fun e w' => e = .returned (.int .i64 (-719528)) ∧ Below w.heap.size w w' := by
  go_enter Tryd.func35, Tryd.ntmps35
  go_wp2_with fail
  refine (rnum_any _ _ _ _ (by omega) (by omega) (by omega) (by omega) (by omega) (by omega)).mono ?_
  rintro e w1 ⟨rfl, hb⟩
  rw [num_least]
  go_wp2
  go_ret
  exact ⟨rfl, hb⟩
theorem most_any (w : World) :
    Calls Tryd.prog 36 #[] w fun e w' => e = .returned (.int .i64 2933262) ∧ Below w.heap.size w w' := by
  go_enter Tryd.func36, Tryd.ntmps36
  go_wp2_with fail
  refine (rnum_any _ _ _ _ (by omega) (by omega) (by omega) (by omega) (by omega) (by omega)).mono ?_
  rintro e w1 ⟨rfl, hb⟩
  rw [num_most]
  go_wp2
  go_ret
  exact ⟨rfl, hb⟩
end Civ
end Go.Proofs.YtnjmpenfhieakaaDoor
