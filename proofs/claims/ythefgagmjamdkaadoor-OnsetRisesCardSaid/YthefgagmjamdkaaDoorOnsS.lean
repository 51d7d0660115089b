/-
  Package onset, plain words: the order of onsets.
-/
import Derived.Test.YthefgagmjamdkaaDoorOnsA
import Derived.Shelf.SlSortCmp.Insertion
import Derived.Sort.Statements
import Derived.Lib.Small
namespace Go.Proofs.YthefgagmjamdkaaDoor
open Go.RowKit
namespace Ons
/-- What order says of two. -/
def oCf (a b : OV) : Int := if Go.Lib.compareInt a.2.2 b.2.2 ≠ 0 then Go.Lib.compareInt a.2.2 b.2.2 else if Go.Lib.compareInt a.1 b.1 ≠ 0 then Go.Lib.compareInt a.1 b.1 else Go.Lib.compareInt a.2.1 b.2.1
theorem cmp_neg (a b : Int) : Go.Lib.compareInt a b < 0 ↔ a < b := by
  unfold Go.Lib.compareInt
  split
  · simp_all
  · split <;> simp_all <;> omega
theorem cmp_zero (a b : Int) : Go.Lib.compareInt a b = 0 ↔ a = b := by
  unfold Go.Lib.compareInt
  split
  · simp; omega
  · split
    · simp; omega
    · simp; omega
theorem oCf_lt (a b : OV) : Go.Proofs.ltOf oCf a b = oltB a b := by
  unfold Go.Proofs.ltOf oltB oCf olt
  congr 1
  have z1 := cmp_zero a.2.2 b.2.2
  have z2 := cmp_zero a.1 b.1
  have n1 := cmp_neg a.2.2 b.2.2
  have n2 := cmp_neg a.1 b.1
  have n3 := cmp_neg a.2.1 b.2.1
  generalize Go.Lib.compareInt a.2.2 b.2.2 = c1 at *
  generalize Go.Lib.compareInt a.1 b.1 = c2 at *
  generalize Go.Lib.compareInt a.2.1 b.2.1 = c3 at *
  by_cases h1 : c1 = 0
  · have e1 := z1.1 h1
    rw [if_neg (by simp [h1])]
    by_cases h2 : c2 = 0
    · have e2 := z2.1 h2
      rw [if_neg (by simp [h2]), n3]
      simp only [eq_iff_iff]
      omega
    · rw [if_pos h2, n2]
      have e2 : ¬ a.1 = b.1 := fun e => h2 (z2.2 e)
      simp only [eq_iff_iff]
      omega
  · rw [if_pos h1, n1]
    have e1 : ¬ a.2.2 = b.2.2 := fun e => h1 (z1.2 e)
    simp only [eq_iff_iff]
    omega
theorem olt_fun : Go.Proofs.ltOf oCf = oltB := by funext a b; exact oCf_lt a b
theorem olt_swo : Go.Sort.SWO (Go.Proofs.ltOf oCf) := by
  rw [olt_fun]
  refine ⟨fun x => ?_, fun x y z h1 h2 => ?_, fun x y z h1 h2 => ?_⟩
  · rw [oltB_f]; omega
  · rw [oltB_t] at *; omega
  · rw [oltB_f] at *; omega
theorem olt_tot (x y : OV) (h1 : Go.Proofs.ltOf oCf x y = false) (h2 : Go.Proofs.ltOf oCf y x = false) : x = y := by
  rw [olt_fun] at h1 h2
  exact olt_eq x y h1 h2
end Ons
end Go.Proofs.YthefgagmjamdkaaDoor
