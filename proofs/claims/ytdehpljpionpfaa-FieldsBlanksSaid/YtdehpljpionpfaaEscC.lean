/-
  Package escape, at the waking call's texts: Unlist.
-/
import Derived.Test.YtdehpljpionpfaaEscB
import Derived.LoopN
import Derived.Lib.Strings
namespace Go.Proofs.Ytdehpljpionpfaa
open Go.RowKit
namespace Esc
theorem owns_below {w w' : World} {B : Nat} {e : TypeId} {size : Nat} {v : Value} {n : Nat} {xs : List Value} (h : w.ownsRow B e size v n xs) (hb : Below w.heap.size w w') : w'.ownsRow B e size v n xs := by
  obtain ⟨hl, h0 | ⟨g, cap, cur, hv, hB, hh, r⟩⟩ := h
  · exact ⟨hl, .inl h0⟩
  · have hg : g < w.heap.size := by
      rcases Nat.lt_or_ge g w.heap.size with h1 | h1
      · exact h1
      · rw [Array.getElem?_eq_none h1] at hh
        cases hh
    exact ⟨hl, .inr ⟨g, cap, cur, hv, hB, by rw [hb.block g hg]; exact hh, r⟩⟩
theorem is : (Try.prog.info? 9).map (fun i => (i.zero, i.size, i.bytes)) = some (some (.string ⟨#[]⟩), 1, 16) := by kernel_rfl
theorem wk_g1 : getR [97, 92, 44, 98] = ([97, 44, 98], 0) := by decide +kernel
theorem wk_g2 : getR [99] = ([99], 0) := by decide +kernel
end Esc
end Go.Proofs.Ytdehpljpionpfaa
