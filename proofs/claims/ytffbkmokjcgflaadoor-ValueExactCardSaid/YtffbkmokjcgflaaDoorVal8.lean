/-
  solsticekeep.Ints over two slices of two.
-/
import Derived.Test.YtffbkmokjcgflaaDoorVal7
namespace Go.Proofs.YtffbkmokjcgflaaDoor
open Go.RowKit
namespace Val
open Sol Civ Wk
set_option maxHeartbeats 3200000 in
set_option maxRecDepth 100000 in
theorem ints2 (g h c d : Nat) (x y : Int) (w : World)
    (g0 : w.cell? ⟨g, 0, none⟩ = some (.int .i64 x)) (g1 : w.cell? ⟨g, 1, none⟩ = some (.int .i64 y)) (h0 : w.cell? ⟨h, 0, none⟩ = some (.int .i64 x)) (h1 : w.cell? ⟨h, 1, none⟩ = some (.int .i64 y)) :
    Calls Tryd.prog 12 #[.slice (some ⟨g, 0, none⟩) 2 c, .slice (some ⟨h, 0, none⟩) 2 d] w fun e w' => e = .returned (.bool true) ∧ ∃ n, w' = w.drewN n := by
  go_enter Tryd.func12, Tryd.ntmps12
  go_wp2_with fail
  refine wp_loop_rounds 3 ?_
  rw [rounds_succ]
  go_wp2_with fail
  go_quiet (fail)
  go_wp2_with fail
  rw [rounds_succ]
  go_wp2_with fail
  go_quiet (fail)
  go_wp2_with fail
  rw [rounds_succ]
  go_wp2
  go_ret
  exact ⟨rfl, _, rfl⟩
end Val
end Go.Proofs.YtffbkmokjcgflaaDoor
