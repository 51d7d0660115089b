/-
  WordsBegin: both kinds of a slice.
-/
import Derived.Test.YtikjlnkpcjjigaaWBegin
import Derived.Test.YtikjlnkpcjjigaaOpen
namespace Go.Proofs.Ytikjlnkpcjjigaa
open Go.RowKit
namespace Wrd
open Opn
theorem wbegin_all (k0 i0 n0 : Int) (A : Option Addr) (ln lc : Nat) (ls : Nat → Bool) (w : World) (hln : ln ≤ maxLen) (hA : Bools A ln ls w) :
    Calls Try.prog 4 #[.int .i64 k0, .int .i64 i0, .int .i64 n0, .slice A ln lc] w fun e w' => e = .returned (.bool true) ∧ Below w.heap.size w w' := by
  rcases Nat.eq_zero_or_pos ln with h | h
  · subst h
    exact wbegin_nil k0 i0 n0 A lc w
  · obtain ⟨b, off, rfl, hb, _⟩ := hA 0 h
    refine wbegin_some k0 i0 n0 b off ln lc ls w hln hb (fun j hj => ?_)
    obtain ⟨b', off', e1, _, h3⟩ := hA j hj
    injection e1 with e1
    injection e1 with e2 e3
    subst e2; subst e3
    exact h3
end Wrd
end Go.Proofs.Ytikjlnkpcjjigaa
