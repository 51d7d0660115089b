/-
  Several texts in one (RefWk2, RefWk3).
-/
import Derived.Test.YthefgagmjamdkaaGreatDoorBdT
import Derived.IntWalk
/-
  Contracts of the reference's calls on weekdays: Nth, Resolve, FirstWeek, No, Weeks.
-/
namespace Go.Proofs.YthefgagmjamdkaaGreatDoor
open Go.RowKit
namespace Wk
open Civ
theorem gap_untl (f k : Int) : (k - Cal.wday f) % 7 = untl f k := by unfold untl; omega
theorem gap_since (k t : Int) : (Cal.wday t - k) % 7 = since k t := by unfold since; omega
theorem wrap_neg {x : Int} (h1 : 9223372036854775807 < x) (h2 : x ≤ 18446744073709551615) : ∃ X : Int, IntKind.i64.wrap x = X ∧ wrap64 x = X ∧ -9223372036854775808 ≤ X ∧ X < 0 := by
  refine ⟨wrap64 x, IntWalk.i64_left x, rfl, ?_, ?_⟩ <;> unfold wrap64 <;> omega

end Wk
end Go.Proofs.YthefgagmjamdkaaGreatDoor
/-
  Contracts of the reference's calls on weekdays: Resolve, FirstWeek, Weeks, No.
-/
namespace Go.Proofs.YthefgagmjamdkaaGreatDoor
open Go.RowKit
namespace Wk
open Civ
theorem quiet_add_drew {P : Program} {f : FuncId} {args : Array Value} {w : World} {a n : Nat} {v : Value}
    (h : Calls P f args (w.drewN (a + n)) fun e w' => e = .returned v ∧ ∃ k, w' = (w.drewN (a + n)).drewN k) : Calls P f args (w.drewN (a + n)) fun e w'' => e = .returned v ∧ ∃ m, w'' = w.drewN (a + m) :=
  h.mono fun _ _ ⟨he, k, hk⟩ => ⟨he, n + k, by rw [hk, World.drewN_drewN, Nat.add_assoc]⟩
/-! Which week: the page's way by the first weeks against the middle day's year. -/
theorem fw_mid {y k n : Int} : (n < fw y k ↔ mid n k < Cal.ny y) ∧ (fw y k ≤ n → (n - fw y k) / 7 = (mid n k - Cal.ny y) / 7) := by
  have e : n4 y = Cal.ny y + 3 := by unfold n4 Cal.num; rw [Cal.cum_1]; omega
  unfold fw mid since Cal.wday
  rw [e]
  generalize Cal.ny y = N
  omega
theorem no_case {n k : Int} (hn : -719528 ≤ n ∧ n ≤ 2933262) (hy : 1 ≤ Cal.yr n ∧ Cal.yr n ≤ 9999) (k0 : 0 ≤ k) (k6 : k ≤ 6) :
    (n < fw (Cal.yr n) k ∧ noY n k = Cal.yr n - 1 ∧ noN n k = (n - fw (Cal.yr n - 1) k) / 7 + 1 ∧ fw (Cal.yr n - 1) k ≤ n) ∨
    (fw (Cal.yr n) k ≤ n ∧ fw (Cal.yr n + 1) k ≤ n ∧ noY n k = Cal.yr n + 1 ∧ noN n k = (n - fw (Cal.yr n + 1) k) / 7 + 1) ∨
    (fw (Cal.yr n) k ≤ n ∧ n < fw (Cal.yr n + 1) k ∧ noY n k = Cal.yr n ∧ noN n k = (n - fw (Cal.yr n) k) / 7 + 1) := by
  obtain ⟨a1, a2, a3, a4⟩ := Cal.yr_spec hn.1 hn.2
  obtain ⟨c1, c2⟩ := mid_in (k := k) hn hy.1 hy.2
  obtain ⟨_, z2, z3⟩ := no_0 (n := n) ⟨k0, k6⟩ ⟨hn, hy⟩
  have hm : mid n k = n - since k n + 3 := rfl
  have sb := since_bd k n
  generalize Cal.yr n = y at *
  have s0 := Cal.ny_succ (y - 1)
  have s1 := Cal.ny_succ y
  have s2 := Cal.ny_succ (y + 1)
  have l0 := Cal.lp_01 (y - 1)
  have l1 := Cal.lp_01 y
  have l2 := Cal.lp_01 (y + 1)
  rw [show y - 1 + 1 = y by omega] at s0
  obtain ⟨p1, p2⟩ := fw_mid (y := y) (k := k) (n := n)
  obtain ⟨r1, r2⟩ := fw_mid (y := y + 1) (k := k) (n := n)
  obtain ⟨t1, t2⟩ := fw_mid (y := y - 1) (k := k) (n := n)
  by_cases h1 : n < fw y k
  · have hy1 : Cal.yr (mid n k) = y - 1 := Cal.yr_of (by have := p1.1 h1; omega) (by rw [show y - 1 + 1 = y by omega]; exact p1.1 h1) c1 c2
    rw [hy1] at z2 z3
    have hf : fw (y - 1) k ≤ n := by
      rcases Int.lt_or_le n (fw (y - 1) k) with h | h
      · have := t1.1 h; omega
      · exact h
    exact Or.inl ⟨h1, z2, by rw [z3, t2 hf], hf⟩
  · have h1' : fw y k ≤ n := by omega
    by_cases h2 : n < fw (y + 1) k
    · have hy1 : Cal.yr (mid n k) = y := Cal.yr_of (by have := fun h => h1 (p1.2 h); omega) (r1.1 h2) c1 c2
      rw [hy1] at z2 z3
      exact Or.inr (Or.inr ⟨h1', h2, z2, by rw [z3, p2 h1']⟩)
    · have h2' : fw (y + 1) k ≤ n := by omega
      have hy1 : Cal.yr (mid n k) = y + 1 := Cal.yr_of (by have := fun h => h2 (r1.2 h); omega) (by omega) c1 c2
      rw [hy1] at z2 z3
      exact Or.inr (Or.inl ⟨h1', h2', z2, by rw [z3, r2 h2']⟩)

def rsV (y m k v d : Int) : Int := if numE y m (rday y m k d) = 0 then resV y m k v d else 0
def rsB (y m k d : Int) : Bool := decide (numE y m (rday y m k d) = 0)
theorem rs_no {y m k v d : Int} (h : numE y m (rday y m k d) = 4) : rsV y m k v d = 0 ∧ rsB y m k d = false := by
  refine ⟨by rw [rsV, if_neg (by omega)], decide_eq_false (by omega)⟩
theorem rs_yes {y m k v d : Int} (ho : onOk k v d = true) (hy : 1 ≤ y ∧ y ≤ 9999) (h : numE y m (rday y m k d) = 0) : rsB y m k d = true ∧ rsV y m k v d = (if k = 2 ∨ k = 4 then Cal.num y m (rday y m k d) - since v (Cal.num y m (rday y m k d)) else if k = 3 then Cal.num y m (rday y m k d) + untl (Cal.num y m (rday y m k d)) v else Cal.num y m (rday y m k d)) :=
  ⟨decide_eq_true h, by rw [rsV, if_pos h]; exact (res_0 ho hy h).2⟩

set_option maxRecDepth 100000 in
set_option maxHeartbeats 3200000 in
theorem rres_any (y m k v d : Int) (w : World) (ho : onOk k v d = true) (y1 : 1 ≤ y) (y2 : y ≤ 9999) :
    Calls Tryz.prog 42 #[.int .i64 y, .int .i64 m, .agg #[.int .i64 k, .int .i64 v, .int .i64 d]] w fun e w' => e = .returned (.tuple #[.int .i64 (rsV y m k v d), .bool (rsB y m k d)]) ∧ Below w.heap.size w w' := by
  obtain ⟨⟨v0, v6⟩, ⟨k1, k4⟩, d0, d31⟩ := onOk_v ho
  have lb := Cal.mlen_bd y m
  have hk : k = 1 ∨ k = 2 ∨ k = 3 ∨ k = 4 := by omega
  have hd := of_decide_eq_true ho
  by_cases hl : Cal.mlen y m = 0
  · have hn : numE y m (rday y m k d) = 4 := (numE_no (by rw [rday]; split <;> omega)).1
    have H := Lib.hid (rs_no (v := v) hn)
    clear hn hd hk
    go_enter Tryz.func42, Tryz.ntmps42
    go_wp2_with fail
    refine (rlen_any _ _ _ (by omega) (by omega)).mono ?_
    rintro e w1 ⟨rfl, q1, rfl⟩
    go_wp2
    go_ret2
    exact ⟨ret_ib H.out.1.symm H.out.2.symm, by repeat (first | exact Below.refl _ _ | refine Below.setCell ?_ (by simp) _ | refine below_drewN ?_ _ | refine Below.drew ?_ | refine Below.alloc ?_ (by simp; try omega) _)⟩
  · have hm := Cal.mlen_pos (y := y) (m := m) (by omega)
    have l28 := Cal.mlen_28 (y := y) hm.1 hm.2
    obtain ⟨m0, m1⟩ := hm
    have b0 : (Cal.mlen y m == 0) = false := beq_eq_false_iff_ne.2 hl
    by_cases hk2 : k = 2
    · subst hk2
      have hr : rday y m 2 d = Cal.mlen y m := by rw [rday, if_pos rfl]
      have hn : numE y m (rday y m 2 d) = 0 := (numE_yes (by rw [hr]; omega)).1
      obtain ⟨z1, z2⟩ := rs_yes ho ⟨y1, y2⟩ hn
      rw [if_pos (by decide), hr, ← gap_since] at z2
      have nb := (numE_0 hn).2
      rw [hr] at nb
      have H := Lib.hid (And.intro z2 z1)
      have wb := wday_bd (Cal.num y m (Cal.mlen y m))
      obtain ⟨N, hN⟩ : ∃ N, Cal.num y m (Cal.mlen y m) = N := ⟨_, rfl⟩
      rw [hN] at H nb wb
      have HN := Lib.hid hN
      clear hn hd hk hr z1 z2 hN hl
      go_enter Tryz.func42, Tryz.ntmps42
      go_wp2_with fail
      refine (rlen_any _ _ _ (by omega) (by omega)).mono ?_
      rintro e w1 ⟨rfl, q1, rfl⟩
      go_wp2_with fail
      refine (rnum_w _ _ _ _ (by omega) (by omega) (by omega) (by omega) (by omega) (by omega)).mono ?_
      rintro e w2 ⟨rfl, q2, rfl⟩
      rw [HN.out]
      go_wp2_with fail
      go_quiet ((go_at_call 73; refine quiet_add_drew (rweekday_any _ _ ?_ ?_) <;> omega))
      go_wp2
      go_ret2
      exact ⟨ret_ib H.out.1.symm H.out.2.symm, by repeat (first | exact Below.refl _ _ | refine Below.setCell ?_ (by simp) _ | refine below_drewN ?_ _ | refine Below.drew ?_ | refine Below.alloc ?_ (by simp; try omega) _)⟩
    · have hr : rday y m k d = d := by rw [rday, if_neg hk2]
      have hd1 : 1 ≤ d := by omega
      by_cases hdl : d ≤ Cal.mlen y m
      · have hn : numE y m (rday y m k d) = 0 := (numE_yes (by rw [hr]; omega)).1
        obtain ⟨z1, z2⟩ := rs_yes ho ⟨y1, y2⟩ hn
        rw [hr] at z2
        have nb := (numE_0 hn).2
        rw [hr] at nb
        have wb := wday_bd (Cal.num y m d)
        obtain ⟨N, hN⟩ : ∃ N, Cal.num y m d = N := ⟨_, rfl⟩
        rw [hN] at z2 nb wb
        have HN := Lib.hid hN
        have Z1 := Lib.hid z1
        clear hn hd hr hN hl z1
        rcases hk with rfl | rfl | rfl | rfl
        · rw [if_neg (by decide), if_neg (by decide)] at z2
          have H := Lib.hid (And.intro z2 Z1.out)
          clear z2
          go_enter Tryz.func42, Tryz.ntmps42
          go_wp2_with fail
          refine (rlen_any _ _ _ (by omega) (by omega)).mono ?_
          rintro e w1 ⟨rfl, q1, rfl⟩
          go_wp2_with fail
          refine (rnum_w _ _ _ _ (by omega) (by omega) (by omega) (by omega) (by omega) (by omega)).mono ?_
          rintro e w2 ⟨rfl, q2, rfl⟩
          rw [HN.out]
          go_wp2
          go_ret2
          exact ⟨ret_ib H.out.1.symm H.out.2.symm, by repeat (first | exact Below.refl _ _ | refine Below.setCell ?_ (by simp) _ | refine below_drewN ?_ _ | refine Below.drew ?_ | refine Below.alloc ?_ (by simp; try omega) _)⟩
        · exact absurd rfl hk2
        · rw [if_neg (by decide), if_pos (by decide), ← gap_untl] at z2
          have H := Lib.hid (And.intro z2 Z1.out)
          clear z2
          go_enter Tryz.func42, Tryz.ntmps42
          go_wp2_with fail
          refine (rlen_any _ _ _ (by omega) (by omega)).mono ?_
          rintro e w1 ⟨rfl, q1, rfl⟩
          go_wp2_with fail
          refine (rnum_w _ _ _ _ (by omega) (by omega) (by omega) (by omega) (by omega) (by omega)).mono ?_
          rintro e w2 ⟨rfl, q2, rfl⟩
          rw [HN.out]
          go_wp2_with fail
          go_quiet ((go_at_call 73; refine quiet_add_drew (rweekday_any _ _ ?_ ?_) <;> omega))
          go_wp2
          go_ret2
          exact ⟨ret_ib H.out.1.symm H.out.2.symm, by repeat (first | exact Below.refl _ _ | refine Below.setCell ?_ (by simp) _ | refine below_drewN ?_ _ | refine Below.drew ?_ | refine Below.alloc ?_ (by simp; try omega) _)⟩
        · rw [if_pos (by decide), ← gap_since] at z2
          have H := Lib.hid (And.intro z2 Z1.out)
          clear z2
          go_enter Tryz.func42, Tryz.ntmps42
          go_wp2_with fail
          refine (rlen_any _ _ _ (by omega) (by omega)).mono ?_
          rintro e w1 ⟨rfl, q1, rfl⟩
          go_wp2_with fail
          refine (rnum_w _ _ _ _ (by omega) (by omega) (by omega) (by omega) (by omega) (by omega)).mono ?_
          rintro e w2 ⟨rfl, q2, rfl⟩
          rw [HN.out]
          go_wp2_with fail
          go_quiet ((go_at_call 73; refine quiet_add_drew (rweekday_any _ _ ?_ ?_) <;> omega))
          go_wp2
          go_ret2
          exact ⟨ret_ib H.out.1.symm H.out.2.symm, by repeat (first | exact Below.refl _ _ | refine Below.setCell ?_ (by simp) _ | refine below_drewN ?_ _ | refine Below.drew ?_ | refine Below.alloc ?_ (by simp; try omega) _)⟩
      · have hn : numE y m (rday y m k d) = 4 := (numE_no (by rw [hr]; omega)).1
        have H := Lib.hid (rs_no (v := v) hn)
        have b2 : (k != 2) = true := bne_iff_ne.2 hk2
        have b3 : (k == 2) = false := beq_eq_false_iff_ne.2 hk2
        clear hn hd hk hr hk2 hl
        go_enter Tryz.func42, Tryz.ntmps42
        go_wp2_with fail
        refine (rlen_any _ _ _ (by omega) (by omega)).mono ?_
        rintro e w1 ⟨rfl, q1, rfl⟩
        go_wp2
        go_ret2
        exact ⟨ret_ib H.out.1.symm H.out.2.symm, by repeat (first | exact Below.refl _ _ | refine Below.setCell ?_ (by simp) _ | refine below_drewN ?_ _ | refine Below.drew ?_ | refine Below.alloc ?_ (by simp; try omega) _)⟩
end Wk
end Go.Proofs.YthefgagmjamdkaaGreatDoor
