/-
  Contracts of package num, its third part: Text, for every two integers; the law's own waking call.
-/
import Derived.Test.YtklanblifjgppaaNum2
import Derived.Test.YtklanblifjgppaaShelf
import Derived.Lib.AppendIntMem
import Derived.Lib.Repeat
import Derived.Outline
namespace Go.Proofs.Ytklanblifjgppaa
open Go.RowKit

theorem repeat48 (k : Nat) : Lib.repeatL [48] k = List.replicate k 48 := by
  induction k with
  | zero => rfl
  | succ k ih => rw [Lib.repeatL, ih]; rfl
theorem itoa_nn {n : Int} (h : 0 ≤ n) : Lib.itoa n = Lib.decDigits n.toNat := by rw [Lib.itoa, if_neg (by omega)]
theorem textL_neg {n d : Int} (h : n < 0) : Sol.textL n d = [] := by rw [Sol.textL, if_pos h]
theorem textL_in {n d : Int} (h : 0 ≤ n) (h1 : 0 ≤ d) (h2 : d ≤ 20) : Sol.textL n d = Sol.padL d.toNat (Lib.decDigits n.toNat) := by
  rw [Sol.textL, if_neg (by omega), if_pos ⟨h1, h2⟩]
theorem textL_out {n d : Int} (h : 0 ≤ n) (h1 : ¬ (0 ≤ d ∧ d ≤ 20)) : Sol.textL n d = Lib.decDigits n.toNat := by
  rw [Sol.textL, if_neg (by omega), if_neg h1, Sol.padL]; simp
theorem padL_short {d : Nat} {l : List UInt8} (h : d ≤ l.length) : Sol.padL d l = l := by
  rw [Sol.padL, show d - l.length = 0 by omega]; rfl
theorem ret_s {s t : ByteArray} (h : s = t) : Ending.returned (.string s) = .returned (.string t) := by rw [h]

theorem pad_str {d : Nat} {l r : List UInt8} (hr : r = List.replicate (d - l.length) 48) : (⟨r.toArray⟩ : ByteArray) ++ ⟨l.toArray⟩ = ⟨(Sol.padL d l).toArray⟩ := by
  rw [Sol.padL, ← hr]
  apply ByteArray.ext
  simp

end Go.Proofs.Ytklanblifjgppaa
