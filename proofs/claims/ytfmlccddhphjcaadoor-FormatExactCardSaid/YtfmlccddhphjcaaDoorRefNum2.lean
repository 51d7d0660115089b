/-
  Contracts of the reference's calls on numbers, the second part: Digits, Value, Text.
-/
import Derived.Test.YtfmlccddhphjcaaDoorRefNum
namespace Go.Proofs.YtfmlccddhphjcaaDoor
open Go.RowKit
namespace RNum
theorem parseB_parts {l : List UInt8} (h : Sol.parseB l = true) : 1 ≤ l.length ∧ l.length ≤ 18 ∧ l.all Sol.isDig = true := by
  rw [Sol.parseB, Bool.and_eq_true, decide_eq_true_eq] at h
  exact ⟨h.1.1, h.1.2, h.2⟩
theorem all_take {l : List UInt8} (h : l.all Sol.isDig = true) (k : Nat) : (l.take k).all Sol.isDig = true := by
  rw [List.all_eq_true] at h ⊢
  exact fun x hx => h x (List.mem_of_mem_take hx)

end RNum
end Go.Proofs.YtfmlccddhphjcaaDoor
