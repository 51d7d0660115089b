/-
  Package num: the table of powers of ten.
-/
import Derived.Test.YtpcnpacllkiieaaGreatDoorNum3
import Derived.Lib.AppendIntMem
namespace Go.Proofs.YtpcnpacllkiieaaGreatDoor
open Go.RowKit

/-- The table of powers of ten lies in the world, and whatever is made later leaves it. -/
def Pow (w : World) : Prop := Lib.TabBelow Tryz.prog w.heap.size w "internal/strconv.uint64pow10" .u64 Lib.pow10Tab
theorem Pow.here {w : World} (h : Pow w) : Lib.TabIs Tryz.prog w "internal/strconv.uint64pow10" .u64 Lib.pow10Tab := Lib.TabBelow.here h
theorem Pow.stays {w w' : World} (h : Pow w) (hb : Below w.heap.size w w') : Pow w' := fun w'' hb2 => h w'' (hb.trans (hb2.mono hb.size))
theorem Pow.drewN {w : World} (h : Pow w) (n : Nat) : Pow (w.drewN n) := h.stays (below_drewN (Below.refl _ _) n)

end Go.Proofs.YtpcnpacllkiieaaGreatDoor
