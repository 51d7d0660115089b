/-
  Contracts of package clock: sixtieths, read, Parse.
-/
import Derived.Test.YtnjmpenfhieakaaDoorClkMath
import Derived.Test.YtnjmpenfhieakaaDoorPow
import Derived.Lib.IndexBytes
namespace Go.Proofs.YtnjmpenfhieakaaDoor
open Go.RowKit
namespace Clk
open Sol
theorem ret_isb {a a' : Int} {s s' : ByteArray} {b b' : Bool} (h : a = a') (k : s = s') (j : b = b') : Ending.returned (.tuple #[.int .i64 a, .string s, .bool b]) = .returned (.tuple #[.int .i64 a', .string s', .bool b']) := by rw [h, k, j]
def SixNo (w : World) (e : Ending) (w' : World) : Prop := ∃ (v : Int) (r : ByteArray) (n : Nat), e = .returned (.tuple #[.int .i64 v, .string r, .bool false]) ∧ w' = w.drewN n
theorem drop_str (s : ByteArray) (k : Nat) : s.extract k s.size = ⟨(s.data.toList.drop k).toArray⟩ := by
  rw [← Lib.extract_to_end, Lib.mk_data]
theorem sixS_str (s : ByteArray) : (s.extract 1 3).data.toList = sixS s.data.toList := by rw [Lib.extract_data]; rfl
theorem head_str (s : ByteArray) (h : 0 < s.size) : s.data.toList.head? = some s[0] := by
  obtain ⟨⟨l⟩⟩ := s
  cases l with
  | nil => exact absurd h (by decide)
  | cons a r => rfl
theorem sixB_mk {l : List UInt8} {c : UInt8} (h1 : 3 ≤ l.length) (h2 : l.head? = some c) (h3 : c = 58) : sixB l = (parseB (sixS l) && decide (parseV (sixS l) < 60)) := by
  have e : l.isEmpty = false := by cases l with | nil => simp at h1 | cons a r => rfl
  rw [sixB, e, h2, h3]; simp [h1]

theorem sixB_inv {l : List UInt8} (h : sixB l = true) : l = [] ∨ (3 ≤ l.length ∧ l.head? = some 58 ∧ parseB (sixS l) = true ∧ parseV (sixS l) < 60) := by
  unfold sixB at h
  simp at h
  rcases h with h | ⟨⟨⟨h1, h2⟩, h3⟩, h4⟩
  · exact Or.inl h
  · exact Or.inr ⟨h1, h2, h3, h4⟩
theorem parseV_nn (l : List UInt8) : 0 ≤ parseV l ∧ parseV l ≤ 1000000000000000000 := by
  unfold parseV
  split
  · rename_i h
    simp [parseB] at h
    have := digVal_le l (by simpa using h.2) h.1.2
    omega
  · omega
theorem emp_yes {s : ByteArray} (h : s.size = 0) : s.toList.isEmpty = true := by
  rw [Lib.toList_data, List.isEmpty_iff, ← List.length_eq_zero_iff, ← Lib.size_eq]; exact h
theorem emp_no {s : ByteArray} (h : ¬ s.size = 0) : s.toList.isEmpty = false := by
  rw [Lib.toList_data, Bool.eq_false_iff]
  intro e
  rw [List.isEmpty_iff, ← List.length_eq_zero_iff, ← Lib.size_eq] at e
  exact h e
theorem nil_of {s : ByteArray} (h : s.size = 0) : s.data.toList = [] := by rw [← List.length_eq_zero_iff, ← Lib.size_eq]; exact h

theorem sixB_b {l : List UInt8} (h : sixB l = false) (h1 : 3 ≤ l.length) (h2 : l.head? = some 58) : (parseB (sixS l) && decide (parseV (sixS l) < 60)) = false := by
  rw [← sixB_mk h1 h2 rfl]; exact h
end Clk
end Go.Proofs.YtnjmpenfhieakaaDoor
