/-
  Recurrence rules at the waking texts, in plain words.
-/
import Derived.Test.YtbeefhmnoihmcaaGreatDoorRctF
import Derived.Test.YtbeefhmnoihmcaaGreatDoorRcpJ
namespace Go.Proofs.YtbeefhmnoihmcaaGreatDoor
open Go.RowKit
namespace Rct
open Rcp
open Rcv (CV)
open Rck (ckE)
/-- The last Sunday of March. -/
def x1 : CV := ⟨7, 1, 0, false, 0, false, [], [], [], [(-1, 0)], [], [], [], [3], [], 1⟩
theorem px1 : pxP [102, 114, 101, 113, 61, 121, 101, 97, 114, 108, 121, 59, 66, 89, 68, 65, 89, 61, 45, 49, 83, 85, 59, 66, 89, 77, 79, 78, 84, 72, 61, 51] = (x1, 0) := by kernel_rfl
theorem px2 : pxP [70, 82, 69, 81, 61, 68, 65, 73, 76, 89, 59, 67, 79, 85, 78, 84, 61, 49, 59, 85, 78, 84, 73, 76, 61, 49, 57, 55, 48, 48, 49, 48, 49, 84, 48, 48, 48, 48, 48, 48] = (CV.zero, 21) := by kernel_rfl
theorem tx1 : txP x1 = ([70, 82, 69, 81, 61, 89, 69, 65, 82, 76, 89, 59, 66, 89, 77, 79, 78, 84, 72, 61, 51, 59, 66, 89, 68, 65, 89, 61, 45, 49, 83, 85], 0) := by kernel_rfl
theorem cz : ckE CV.zero = 21 := by kernel_rfl
theorem q1 : ∀ q ∈ Spc.spG 59 [] [102, 114, 101, 113, 61, 121, 101, 97, 114, 108, 121, 59, 66, 89, 68, 65, 89, 61, 45, 49, 83, 85, 59, 66, 89, 77, 79, 78, 84, 72, 61, 51], q.length ≤ 10000 := by decide
theorem q2 : ∀ q ∈ Spc.spG 59 [] [70, 82, 69, 81, 61, 68, 65, 73, 76, 89, 59, 67, 79, 85, 78, 84, 61, 49, 59, 85, 78, 84, 73, 76, 61, 49, 57, 55, 48, 48, 49, 48, 49, 84, 48, 48, 48, 48, 48, 48], q.length ≤ 10000 := by decide
end Rct
end Go.Proofs.YtbeefhmnoihmcaaGreatDoor
