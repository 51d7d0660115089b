/-
  ZoneLeft: the law. (Written by gen/gen_zonl.py.)
-/
import Derived.Test.YtpcnpacllkiieaaGreatDoorZonUA
import Derived.Test.YtpcnpacllkiieaaGreatDoorZonUB
import Derived.Test.YtpcnpacllkiieaaGreatDoorZonUC
namespace Go.Proofs.YtpcnpacllkiieaaGreatDoor
open Go.RowKit
namespace Zon
open Sol Clk Cel Rul
open Opn (TxtV)
theorem zleft_any (y0 n0 : Int) (w : World) (hp : Pow w) (hA : Civ.Ahead w) (hm : Wrd.MaxL w) :
    Calls Tryz.prog 9 #[.int .i64 y0, .int .i64 n0] w fun e w' => e = .returned (.bool true) ∧ Below w.heap.size w w' := by
  obtain ⟨k, ek, hk⟩ := nat_of_u n0 6 (by decide)
  have hc : k = 0 ∨ k = 1 ∨ k = 2 ∨ k = 3 ∨ k = 4 ∨ k = 5 := by omega
  rcases hc with rfl | rfl | rfl | rfl | rfl | rfl
  · exact zl_3 y0 n0 w hp hA hm ek
  · exact zl_4 y0 n0 w hp hA hm ek
  · exact zl_5 y0 n0 w hp hA hm ek
  · exact zl_6 y0 n0 w hp hA hm ek
  · exact zl_7 y0 n0 w hp hA hm ek
  · exact zl_8 y0 n0 w hp hA hm ek
end Zon
end Go.Proofs.YtpcnpacllkiieaaGreatDoor
