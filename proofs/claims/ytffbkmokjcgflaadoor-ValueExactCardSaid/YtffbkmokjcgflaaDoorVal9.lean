/-
  The waking call of package value's laws.
-/
import Derived.Test.YtffbkmokjcgflaaDoorVal8
import Derived.Laws.OwnMore
import Derived.Deep.AppendLies
namespace Go.Proofs.YtffbkmokjcgflaaDoor
open Go.RowKit
namespace Val
open Sol Civ Wk
theorem owns2 {w : World} {B : Nat} {e : TypeId} {v x y : Value} (h : w.ownsRow B e 1 v 2 [x, y]) : ∃ g c, v = .slice (some ⟨g, 0, none⟩) 2 c ∧ w.cell? ⟨g, 0, none⟩ = some x ∧ w.cell? ⟨g, 1, none⟩ = some y := by
  obtain ⟨g, cap, rfl, _, _⟩ := h.form (by decide)
  exact ⟨g, cap, rfl, (h.cellAt 0 (by decide)).trans rfl, (h.cellAt 1 (by decide)).trans rfl⟩
set_option maxHeartbeats 6400000 in
set_option maxRecDepth 100000 in
theorem wakes20_any (w : World) (hA : Ahead w) (hp : Pow w) (hsh : MaxL w) :
    Calls Tryd.prog 15 #[] w fun e w' => e = .returned (.bool true) ∧ Below w.heap.size w w' := by
  have HA := Lib.hid hA
  have HP := Lib.hid hp
  have HS := Lib.hid hsh
  clear hA hp hsh
  go_enter Tryd.func15, Tryd.ntmps15
  go_wp2_with fail
  refine (time_to 0 true _ _ _ HA.out HP.out (by decide) (by decide) (Lib.hid wk_6)).mono ?_
  rintro e w1 ⟨rfl, b1⟩
  go_wp2_with fail
  refine (ptime_to _ _ _ _ _ _ (HA.out.stays b1) (by decide) (Lib.hid rfl) (Lib.hid wk_3)).mono ?_
  rintro e w2 ⟨rfl, b2⟩
  have b12 := b1.trans (b2.mono b1.size)
  go_wp2_with fail
  refine (off_to _ _ _ _ (HP.out.stays b12) (Lib.hid wk_7)).mono ?_
  rintro e w3 ⟨rfl, b3⟩
  have b13 := b12.trans (b3.mono b12.size)
  go_wp2_with fail
  refine (poff_to _ _ _ _ _ (by decide) (Lib.hid rfl) (Lib.hid wk_2)).mono ?_
  rintro e w4 ⟨rfl, rfl⟩
  go_wp2_with fail
  refine (ptime_to _ _ _ _ _ _ (HA.out.stays b13) (by decide) (Lib.hid rfl) (Lib.hid wk_4)).mono ?_
  rintro e w5 ⟨rfl, b5⟩
  have b15 := b13.trans (b5.mono b13.size)
  go_wp2_with fail
  refine (times_wk _ (HA.out.stays b15) (HS.out.stays b15)).mono ?_
  rintro e w6 ⟨v, rfl, r6, b6⟩
  have b16 := b15.trans (b6.mono b15.size)
  obtain ⟨g, c, rfl, g0, g1⟩ := owns2 r6
  clear r6
  go_wp2_with fail
  have q6 : Below w6.heap.size w6 (w6.alloc (Obj.cells #[.int .i64 0, .int .i64 86400] 3)) := (Below.refl _ _).alloc (Nat.le_refl _) _
  refine (ints2 g w6.heap.size c 2 0 86400 _ ((q6.cell (block_lt_of_cell g0)).trans g0) ((q6.cell (block_lt_of_cell g1)).trans g1) (by go_simp) (by go_simp)).mono ?_
  rintro e w7 ⟨rfl, n, rfl⟩
  go_wp2
  go_ret
  exact ⟨rfl, below_drewN (b16.alloc b16.size _) n⟩
end Val
end Go.Proofs.YtffbkmokjcgflaaDoor
