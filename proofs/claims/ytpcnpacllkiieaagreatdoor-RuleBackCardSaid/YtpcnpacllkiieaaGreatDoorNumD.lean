/-
  Plain words and facts for package num.
-/
import Derived.Test.YtpcnpacllkiieaaGreatDoorRows
import Derived.WalkKit
import Derived.WalkSpells
import Derived.WalkLawsBesides
import Derived.Deep.QuietTactic
import Derived.BigQuiet
import Derived.Lib.Hide
namespace Go.Proofs.YtpcnpacllkiieaaGreatDoor
open Go.RowKit
namespace Sol
def inB (a : Int) : Bool := decide (-4611686018427387904 ≤ a ∧ a ≤ 4611686018427387904)
def addB (a b : Int) : Bool := inB a && inB b && inB (a + b)
def addV (a b : Int) : Int := if addB a b then a + b else 0
def mulB (a b : Int) : Bool := inB a && inB b && inB (a * b)
def mulV (a b : Int) : Int := if mulB a b then a * b else 0
def divB (a b : Int) : Bool := decide (1 ≤ b) && inB a && inB b
def divQ (a b : Int) : Int := if divB a b then a / b else 0
def divR (a b : Int) : Int := if divB a b then a % b else 0
theorem inB_iff (a : Int) : inB a = true ↔ -4611686018427387904 ≤ a ∧ a ≤ 4611686018427387904 := by simp [inB]
theorem inB_no {a : Int} (h : ¬ (-4611686018427387904 ≤ a ∧ a ≤ 4611686018427387904)) : inB a = false := by
  cases e : inB a with
  | false => rfl
  | true => exact absurd ((inB_iff a).1 e) h
theorem inB_lo {a : Int} (h : ¬ -4611686018427387904 ≤ a) : inB a = false := inB_no (fun x => h x.1)
theorem inB_hi {a : Int} (h : ¬ a ≤ 4611686018427387904) : inB a = false := inB_no (fun x => h x.2)
theorem addB_a {a b : Int} (h : inB a = false) : addB a b = false := by simp [addB, h]
theorem addB_b {a b : Int} (h : inB b = false) : addB a b = false := by simp [addB, h]
theorem addB_s {a b : Int} (h : inB (a + b) = false) : addB a b = false := by simp [addB, h]
theorem addB_mk {a b : Int} (ha : inB a = true) (hb : inB b = true) (h : inB (a + b) = true) : addB a b = true := by simp [addB, ha, hb, h]
theorem addV_no {a b : Int} (h : addB a b = false) : addV a b = 0 := by simp [addV, h]
theorem addV_yes {a b : Int} (h : addB a b = true) : addV a b = a + b := by simp [addV, h]
theorem mulB_a {a b : Int} (h : inB a = false) : mulB a b = false := by simp [mulB, h]
theorem mulB_b {a b : Int} (h : inB b = false) : mulB a b = false := by simp [mulB, h]
theorem mulB_s {a b : Int} (h : inB (a * b) = false) : mulB a b = false := by simp [mulB, h]
theorem mulB_mk {a b : Int} (ha : inB a = true) (hb : inB b = true) (h : inB (a * b) = true) : mulB a b = true := by simp [mulB, ha, hb, h]
theorem mulV_no {a b : Int} (h : mulB a b = false) : mulV a b = 0 := by simp [mulV, h]
theorem mulV_yes {a b : Int} (h : mulB a b = true) : mulV a b = a * b := by simp [mulV, h]
theorem divB_1 {a b : Int} (h : ¬ 1 ≤ b) : divB a b = false := by simp [divB, h]
theorem divB_a {a b : Int} (h : inB a = false) : divB a b = false := by simp [divB, h]
theorem divB_b {a b : Int} (h : inB b = false) : divB a b = false := by simp [divB, h]
theorem divB_mk {a b : Int} (h : 1 ≤ b) (ha : inB a = true) (hb : inB b = true) : divB a b = true := by simp [divB, ha, hb, h]
theorem divQ_no {a b : Int} (h : divB a b = false) : divQ a b = 0 := by simp [divQ, h]
theorem divR_no {a b : Int} (h : divB a b = false) : divR a b = 0 := by simp [divR, h]
theorem divQ_yes {a b : Int} (h : divB a b = true) : divQ a b = a / b := by simp [divQ, h]
theorem divR_yes {a b : Int} (h : divB a b = true) : divR a b = a % b := by simp [divR, h]
end Sol
theorem ret_ib {a a' : Int} {b b' : Bool} (h : a = a') (k : b = b') : Ending.returned (.tuple #[.int .i64 a, .bool b]) = .returned (.tuple #[.int .i64 a', .bool b']) := by rw [h, k]
theorem ret_iib {a a' c c' : Int} {b b' : Bool} (h : a = a') (h' : c = c') (k : b = b') : Ending.returned (.tuple #[.int .i64 a, .int .i64 c, .bool b]) = .returned (.tuple #[.int .i64 a', .int .i64 c', .bool b']) := by rw [h, h', k]
theorem ret_b {b b' : Bool} (k : b = b') : Ending.returned (.bool b) = .returned (.bool b') := by rw [k]
theorem ret_i {b b' : Int} (k : b = b') : Ending.returned (.int .i64 b) = .returned (.int .i64 b') := by rw [k]

theorem mul_le {x y : Nat} (hx : 0 < x) : y ≤ 4611686018427387904 / x ↔ x * y ≤ 4611686018427387904 := by
  rw [Nat.le_div_iff_mul_le hx, Nat.mul_comm]
theorem abs_in {z : Int} : (-4611686018427387904 ≤ z ∧ z ≤ 4611686018427387904) ↔ z.natAbs ≤ 4611686018427387904 := by omega
theorem div_abs {a : Int} (_ha : 0 < a.natAbs) : (4611686018427387904 : Int) / (a.natAbs : Int) = ((4611686018427387904 / a.natAbs : Nat) : Int) := by
  rw [Int.natCast_ediv]; rfl

theorem tq_neg {a b : Int} (hb : 1 ≤ b) (h : a.tmod b < 0) : a / b = a.tdiv b - 1 ∧ a % b = a.tmod b + b := by
  have h1 := Int.tdiv_eq_ediv (a := a) (b := b)
  have h2 := Int.tmod_eq_emod (a := a) (b := b)
  have h3 := Int.emod_nonneg a (show b ≠ 0 by omega)
  have hs : b.sign = 1 := Int.sign_eq_one_of_pos (by omega)
  split at h2
  · omega
  · rename_i hn
    rw [if_neg hn, hs] at h1
    omega
theorem tq_nn {a b : Int} (hb : 1 ≤ b) (h : ¬ a.tmod b < 0) : a / b = a.tdiv b ∧ a % b = a.tmod b := by
  have h1 := Int.tdiv_eq_ediv (a := a) (b := b)
  have h2 := Int.tmod_eq_emod (a := a) (b := b)
  have h3 := Int.emod_lt_of_pos a (show 0 < b by omega)
  split at h2
  · rename_i hn
    rw [if_pos hn] at h1
    omega
  · omega
theorem tq_bd {a b : Int} (hb : 1 ≤ b) (h1 : -4611686018427387904 ≤ a) (h2 : a ≤ 4611686018427387904) :
    (-4611686018427387904 ≤ a.tdiv b ∧ a.tdiv b ≤ 4611686018427387904) ∧ (-b < a.tmod b ∧ a.tmod b < b) := by
  have k := Int.natAbs_tdiv_le_natAbs a b
  have m1 := Int.tmod_lt_of_pos a (show 0 < b by omega)
  have m2 := Int.lt_tmod_of_pos a (show 0 < b by omega)
  omega

end Go.Proofs.YtpcnpacllkiieaaGreatDoor
