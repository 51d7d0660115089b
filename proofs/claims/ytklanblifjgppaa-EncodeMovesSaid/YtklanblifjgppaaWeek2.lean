/-
  Contracts of package week, its second part: Resolve.
-/
import Derived.Test.YtklanblifjgppaaWeek
namespace Go.Proofs.Ytklanblifjgppaa
open Go.RowKit
namespace Wk
open Civ
theorem numE_4 {y m d : Int} (h : numE y m d = 4) : numV y m d = 0 := by
  by_cases hv : Cal.valid y m d = true
  · rw [numE, if_pos hv] at h; omega
  · rw [numV, if_neg hv]
theorem check_at (k v d c : Int) (w : World) (h : Hid (chE k v d = c)) :
    Calls Try.prog 13 #[.agg #[.int .i64 k, .int .i64 v, .int .i64 d]] w fun e w' => e = .returned (.int .i64 c) ∧ w.alloc (Obj.cells #[.int .i64 k, .int .i64 v, .int .i64 d] 23) = w' :=
  (check_any k v d w).mono fun _ _ ⟨he, hw⟩ => ⟨by rw [he, h.out], hw⟩
end Wk
end Go.Proofs.Ytklanblifjgppaa
