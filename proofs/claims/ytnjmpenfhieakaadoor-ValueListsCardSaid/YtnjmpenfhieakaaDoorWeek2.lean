/-
  Contracts of package week, its second part: Resolve.
-/
import Derived.Test.YtnjmpenfhieakaaDoorWeek
namespace Go.Proofs.YtnjmpenfhieakaaDoor
open Go.RowKit
namespace Wk
open Civ
theorem numE_4 {y m d : Int} (h : numE y m d = 4) : numV y m d = 0 := by
  by_cases hv : Cal.valid y m d = true
  · rw [numE, if_pos hv] at h; omega
  · rw [numV, if_neg hv]
theorem number_at (y m d n c : Int) (w : World) (hA : Ahead w) (i1 : -9223372036854775808 ≤ d) (i2 : d ≤ 9223372036854775807) (h1 : Hid (numV y m d = n)) (h2 : Hid (numE y m d = c)) :
    Calls Tryd.prog 25 #[.agg #[.int .i64 y, .int .i64 m, .int .i64 d]] w fun e w' => e = .returned (.tuple #[.int .i64 n, .int .i64 c]) ∧ ∃ n, w' = (w.alloc (Obj.cells #[.int .i64 y, .int .i64 m, .int .i64 d] 42)).drewN n :=
  (number_w y m d w hA i1 i2).mono fun _ _ ⟨he, hw⟩ => ⟨by rw [he, h1.out, h2.out], hw⟩

end Wk
end Go.Proofs.YtnjmpenfhieakaaDoor
