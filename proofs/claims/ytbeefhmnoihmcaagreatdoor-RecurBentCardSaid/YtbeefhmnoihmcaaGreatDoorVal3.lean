/-
  Contracts of package value: ParseOffset, Offset.
-/
import Derived.Test.YtbeefhmnoihmcaaGreatDoorVal2
namespace Go.Proofs.YtbeefhmnoihmcaaGreatDoor
open Go.RowKit
namespace Val
open Sol Civ Wk
theorem cutpre_to (s p : ByteArray) (S P X : List UInt8) (b : Bool) (w : World) (hS : Hid (s.data.toList = S)) (hP : Hid (p.data.toList = P)) (h : Hid (Lib.trimPrefix S P = X ∧ Lib.hasPrefix S P = b)) :
    Calls Tryz.prog 77 #[.string s, .string p] w fun e w' => e = .returned (.tuple #[.string ⟨X.toArray⟩, .bool b]) ∧ w = w' :=
  (Tryz.strings_CutPrefix s p w).mono fun _ _ ⟨he, hw⟩ => ⟨by rw [he, hS.out, hP.out, h.out.1, h.out.2], hw.symm⟩
/-- The digits behind the sign; whether there is one. -/
def poX (S : List UInt8) : List UInt8 := if Lib.hasPrefix S [45] = true then Lib.trimPrefix S [45] else Lib.trimPrefix S [43]
def poS (S : List UInt8) : Bool := Lib.hasPrefix S [45] || Lib.hasPrefix S [43]
def poY (X : List UInt8) : List UInt8 := if X.length = 4 then X ++ [48, 48] else X
def poD (b : Bool) (Y : List UInt8) : Int × Int :=
  if Y.length = 6 ∧ sxB Y = true ∧ ¬ (b = true ∧ sxV Y = 0) then (if b = true then -sxV Y else sxV Y, 0) else (0, 19)
def poP (S : List UInt8) : Int × Int := if poS S = true then poD (Lib.hasPrefix S [45]) (poY (poX S)) else (0, 19)
theorem ret_ii {a a' c c' : Int} (h1 : a = a') (h3 : c = c') : Ending.returned (.tuple #[.int .i64 a, .int .i64 c]) = .returned (.tuple #[.int .i64 a', .int .i64 c']) := by rw [h1, h3]
end Val
end Go.Proofs.YtbeefhmnoihmcaaGreatDoor
