/-
  ClockForms: the law answers true at every four integers, in whatever world that holds the table of powers of ten.
-/
import Derived.Test.YtpcnpacllkiieaaGreatDoorBdF
import Derived.Test.YtpcnpacllkiieaaGreatDoorBdA
import Derived.Deep.DeepCutAuto
import Derived.IntWalk
import Derived.Deep.CutBlock
namespace Go.Proofs.YtpcnpacllkiieaaGreatDoor
open Go.RowKit
namespace Clk
open Sol
theorem two_at {q : Nat} (h : q < 10) : (⟨#[48, 49, 50, 51, 52, 53, 54, 55, 56, 57]⟩ : ByteArray).extract q (q + 1) = ⟨#[UInt8.ofNat (48 + q)]⟩ := by
  have : q = 0 ∨ q = 1 ∨ q = 2 ∨ q = 3 ∨ q = 4 ∨ q = 5 ∨ q = 6 ∨ q = 7 ∨ q = 8 ∨ q = 9 := by omega
  rcases this with h | h | h | h | h | h | h | h | h | h <;> subst h <;> rfl
theorem d2_str (a b : Nat) : (⟨#[48 + UInt8.ofNat a]⟩ ++ ⟨#[48 + UInt8.ofNat b]⟩ : ByteArray) = ⟨(D2 a b).toArray⟩ := by
  rw [D2, UInt8.ofNat_add, UInt8.ofNat_add]; rfl
theorem cparse_l (s : ByteArray) (L : List UInt8) (v c : Int) (w : World) (hl : L.length ≤ 100) (hL : s.data.toList = L) (h : Hid (clV L = v ∧ clE L = c)) :
    Calls Tryz.prog 107 #[.string s] w fun e w' => e = .returned (.tuple #[.int .i64 v, .int .i64 c]) ∧ ∃ n, w' = w.drewN n :=
  cparse_to s L v c w (by rw [Lib.size_eq, hL]; unfold maxLen; omega) (Lib.hid hL) h
theorem nat_of_u (x : Int) (k : Int) (hk : 0 < k) : ∃ n : Nat, (IntKind.u64.wrap x).tmod k = (n : Int) ∧ (n : Int) < k := by
  have h0 : 0 ≤ (IntKind.u64.wrap x).tmod k := Int.tmod_nonneg _ (by rw [IntKind.wrap_u64]; omega)
  have h1 := Int.tmod_lt_of_pos (IntKind.u64.wrap x) hk
  exact ⟨((IntKind.u64.wrap x).tmod k).toNat, by omega, by omega⟩

end Clk
end Go.Proofs.YtpcnpacllkiieaaGreatDoor
