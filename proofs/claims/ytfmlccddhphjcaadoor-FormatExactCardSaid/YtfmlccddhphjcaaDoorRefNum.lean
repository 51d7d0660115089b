/-
  Contracts of the reference's calls on numbers: In, Bound, Div, digit, Digits, Value.
-/
import Derived.Test.YtfmlccddhphjcaaDoorPow
namespace Go.Proofs.YtfmlccddhphjcaaDoor
open Go.RowKit
namespace RNum
theorem ret_ii {a a' b b' : Int} (h : a = a') (k : b = b') : Ending.returned (.tuple #[.int .i64 a, .int .i64 b]) = .returned (.tuple #[.int .i64 a', .int .i64 b']) := by rw [h, k]
end RNum
end Go.Proofs.YtfmlccddhphjcaaDoor
