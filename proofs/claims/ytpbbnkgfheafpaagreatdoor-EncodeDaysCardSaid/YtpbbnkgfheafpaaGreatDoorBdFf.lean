/-
  Several texts in one (RefWk2, RefWk3).
-/
import Derived.Test.YtpbbnkgfheafpaaGreatDoorBdT
import Derived.IntWalk
/-
  Contracts of the reference's calls on weekdays: Nth, Resolve, FirstWeek, No, Weeks.
-/
namespace Go.Proofs.YtpbbnkgfheafpaaGreatDoor
open Go.RowKit
namespace Wk
open Civ
theorem gap_untl (f k : Int) : (k - Cal.wday f) % 7 = untl f k := by unfold untl; omega
theorem gap_since (k t : Int) : (Cal.wday t - k) % 7 = since k t := by unfold since; omega
theorem wrap_neg {x : Int} (h1 : 9223372036854775807 < x) (h2 : x ≤ 18446744073709551615) : ∃ X : Int, IntKind.i64.wrap x = X ∧ wrap64 x = X ∧ -9223372036854775808 ≤ X ∧ X < 0 := by
  refine ⟨wrap64 x, IntWalk.i64_left x, rfl, ?_, ?_⟩ <;> unfold wrap64 <;> omega

end Wk
end Go.Proofs.YtpbbnkgfheafpaaGreatDoor
/-
  Contracts of the reference's calls on weekdays: Resolve, FirstWeek, Weeks, No.
-/
namespace Go.Proofs.YtpbbnkgfheafpaaGreatDoor
open Go.RowKit
namespace Wk
open Civ
theorem quiet_add_drew {P : Program} {f : FuncId} {args : Array Value} {w : World} {a n : Nat} {v : Value}
    (h : Calls P f args (w.drewN (a + n)) fun e w' => e = .returned v ∧ ∃ k, w' = (w.drewN (a + n)).drewN k) : Calls P f args (w.drewN (a + n)) fun e w'' => e = .returned v ∧ ∃ m, w'' = w.drewN (a + m) :=
  h.mono fun _ _ ⟨he, k, hk⟩ => ⟨he, n + k, by rw [hk, World.drewN_drewN, Nat.add_assoc]⟩
/-! Which week: the page's way by the first weeks against the middle day's year. -/
theorem fw_mid {y k n : Int} : (n < fw y k ↔ mid n k < Cal.ny y) ∧ (fw y k ≤ n → (n - fw y k) / 7 = (mid n k - Cal.ny y) / 7) := by
  have e : n4 y = Cal.ny y + 3 := by unfold n4 Cal.num; rw [Cal.cum_1]; omega
  unfold fw mid since Cal.wday
  rw [e]
  generalize Cal.ny y = N
  omega
theorem no_case {n k : Int} (hn : -719528 ≤ n ∧ n ≤ 2933262) (hy : 1 ≤ Cal.yr n ∧ Cal.yr n ≤ 9999) (k0 : 0 ≤ k) (k6 : k ≤ 6) :
    (n < fw (Cal.yr n) k ∧ noY n k = Cal.yr n - 1 ∧ noN n k = (n - fw (Cal.yr n - 1) k) / 7 + 1 ∧ fw (Cal.yr n - 1) k ≤ n) ∨
    (fw (Cal.yr n) k ≤ n ∧ fw (Cal.yr n + 1) k ≤ n ∧ noY n k = Cal.yr n + 1 ∧ noN n k = (n - fw (Cal.yr n + 1) k) / 7 + 1) ∨
    (fw (Cal.yr n) k ≤ n ∧ n < fw (Cal.yr n + 1) k ∧ noY n k = Cal.yr n ∧ noN n k = (n - fw (Cal.yr n) k) / 7 + 1) := by
  obtain ⟨a1, a2, a3, a4⟩ := Cal.yr_spec hn.1 hn.2
  obtain ⟨c1, c2⟩ := mid_in (k := k) hn hy.1 hy.2
  obtain ⟨_, z2, z3⟩ := no_0 (n := n) ⟨k0, k6⟩ ⟨hn, hy⟩
  have hm : mid n k = n - since k n + 3 := rfl
  have sb := since_bd k n
  generalize Cal.yr n = y at *
  have s0 := Cal.ny_succ (y - 1)
  have s1 := Cal.ny_succ y
  have s2 := Cal.ny_succ (y + 1)
  have l0 := Cal.lp_01 (y - 1)
  have l1 := Cal.lp_01 y
  have l2 := Cal.lp_01 (y + 1)
  rw [show y - 1 + 1 = y by omega] at s0
  obtain ⟨p1, p2⟩ := fw_mid (y := y) (k := k) (n := n)
  obtain ⟨r1, r2⟩ := fw_mid (y := y + 1) (k := k) (n := n)
  obtain ⟨t1, t2⟩ := fw_mid (y := y - 1) (k := k) (n := n)
  by_cases h1 : n < fw y k
  · have hy1 : Cal.yr (mid n k) = y - 1 := Cal.yr_of (by have := p1.1 h1; omega) (by rw [show y - 1 + 1 = y by omega]; exact p1.1 h1) c1 c2
    rw [hy1] at z2 z3
    have hf : fw (y - 1) k ≤ n := by
      rcases Int.lt_or_le n (fw (y - 1) k) with h | h
      · have := t1.1 h; omega
      · exact h
    exact Or.inl ⟨h1, z2, by rw [z3, t2 hf], hf⟩
  · have h1' : fw y k ≤ n := by omega
    by_cases h2 : n < fw (y + 1) k
    · have hy1 : Cal.yr (mid n k) = y := Cal.yr_of (by have := fun h => h1 (p1.2 h); omega) (r1.1 h2) c1 c2
      rw [hy1] at z2 z3
      exact Or.inr (Or.inr ⟨h1', h2, z2, by rw [z3, p2 h1']⟩)
    · have h2' : fw (y + 1) k ≤ n := by omega
      have hy1 : Cal.yr (mid n k) = y + 1 := Cal.yr_of (by have := fun h => h2 (r1.2 h); omega) (by omega) c1 c2
      rw [hy1] at z2 z3
      exact Or.inr (Or.inl ⟨h1', h2', z2, by rw [z3, r2 h2']⟩)

def rsV (y m k v d : Int) : Int := if numE y m (rday y m k d) = 0 then resV y m k v d else 0
def rsB (y m k d : Int) : Bool := decide (numE y m (rday y m k d) = 0)
theorem rs_no {y m k v d : Int} (h : numE y m (rday y m k d) = 4) : rsV y m k v d = 0 ∧ rsB y m k d = false := by
  refine ⟨by rw [rsV, if_neg (by omega)], decide_eq_false (by omega)⟩
theorem rs_yes {y m k v d : Int} (ho : onOk k v d = true) (hy : 1 ≤ y ∧ y ≤ 9999) (h : numE y m (rday y m k d) = 0) : rsB y m k d = true ∧ rsV y m k v d = (if k = 2 ∨ k = 4 then Cal.num y m (rday y m k d) - since v (Cal.num y m (rday y m k d)) else if k = 3 then Cal.num y m (rday y m k d) + untl (Cal.num y m (rday y m k d)) v else Cal.num y m (rday y m k d)) :=
  ⟨decide_eq_true h, by rw [rsV, if_pos h]; exact (res_0 ho hy h).2⟩

end Wk
end Go.Proofs.YtpbbnkgfheafpaaGreatDoor
