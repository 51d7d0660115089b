/-
  FoldExact: the walk.
-/
import Derived.Test.YtdakpncfophjnaaFldX
namespace Go.Proofs.Ytdakpncfophjnaa
open Go.RowKit
namespace Fld
open Opn (sv TxtV)
theorem hit_snoc {S : List UInt8} {k : Nat} (h : k < S.length) : hit (S.take (k + 1)) = (hit (S.take k) || le S[k]) := by
  rw [List.take_succ_eq_append_getElem h, hit, List.any_append]
  simp [hit]
theorem hit_at {S : List UInt8} {k : Nat} (h : k < S.length) (hl : le S[k] = true) : hit S = true := List.any_eq_true.2 ⟨S[k], List.getElem_mem h, hl⟩
theorem le_cases (c : UInt8) : (c = 10 ∧ le c = true) ∨ (c = 13 ∧ le c = true) ∨ (((c.toNat : Int) == 10) = false ∧ ((c.toNat : Int) == 13) = false ∧ le c = false) := by
  by_cases h1 : c = 10
  · exact Or.inl ⟨h1, by rw [h1]; rfl⟩
  · by_cases h2 : c = 13
    · exact Or.inr (Or.inl ⟨h2, by rw [h2]; rfl⟩)
    · refine Or.inr (Or.inr ⟨Esc.u8_ne (n := 10) (by decide) h1, Esc.u8_ne (n := 13) (by decide) h2, ?_⟩)
      unfold le
      simp [h1, h2]
theorem at_list {s : ByteArray} {S : List UInt8} (hS : s.data.toList = S) (k : Nat) (h : k < s.size) : ∃ h2 : k < S.length, s[k] = S[k] := by
  have hl : S.length = s.size := by rw [← hS]; simp
  refine ⟨by omega, ?_⟩
  rw [at_get hS k h, List.getD_eq_getElem?_getD, List.getElem?_eq_getElem (by omega)]
  rfl
end Fld
end Go.Proofs.Ytdakpncfophjnaa
