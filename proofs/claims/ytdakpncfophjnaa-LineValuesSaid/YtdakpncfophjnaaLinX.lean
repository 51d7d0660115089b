/-
  LineValues, whole.
-/
import Derived.Test.YtdakpncfophjnaaLinX0
import Derived.Test.YtdakpncfophjnaaLinX1
import Derived.Test.YtdakpncfophjnaaLinX2
import Derived.Test.YtdakpncfophjnaaLinX3
namespace Go.Proofs.Ytdakpncfophjnaa
open Go.RowKit
namespace Lin
theorem lvl_1 (s : ByteArray) (n : Int) (w : World) (hs : s.size ≤ maxLen) :
    Calls Try.prog 6 #[.string s, .int .i64 n] w fun e w' => e = .returned (.bool true) ∧ Below w.heap.size w w' := by
  by_cases h : 300 < s.size
  · exact lvl_big0 s n w hs h
  · have h1 : s.size ≤ 300 := by omega
    have h0 : (IntKind.u64.wrap n).tmod 4 = 0 ∨ (IntKind.u64.wrap n).tmod 4 = 1 ∨ (IntKind.u64.wrap n).tmod 4 = 2 ∨ (IntKind.u64.wrap n).tmod 4 = 3 := by
      have h0 : 0 ≤ IntKind.u64.wrap n := by rw [IntKind.wrap_u64]; omega
      rw [Int.tmod_eq_emod_of_nonneg h0]
      omega
    rcases h0 with h0 | h0 | h0 | h0
    · exact lvq_0 s n w h1 h0
    · exact lvq_1 s n w h1 h0
    · exact lvq_2 s n w h1 h0
    · exact lvq_3 s n w h1 h0
end Lin
end Go.Proofs.Ytdakpncfophjnaa
