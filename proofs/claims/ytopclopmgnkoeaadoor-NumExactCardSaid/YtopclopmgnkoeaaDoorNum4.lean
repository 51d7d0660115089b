/-
  Package num, its fourth part: the waking call answers true, in whatever world that holds the table of powers of ten.
-/
import Derived.Test.YtopclopmgnkoeaaDoorNum3
import Derived.Lib.AppendIntMem
namespace Go.Proofs.YtopclopmgnkoeaaDoor
open Go.RowKit

/-- The table of powers of ten lies in the world, and whatever is made later leaves it. -/
def Pow (w : World) : Prop := Lib.TabBelow Tryd.prog w.heap.size w "internal/strconv.uint64pow10" .u64 Lib.pow10Tab
theorem Pow.here {w : World} (h : Pow w) : Lib.TabIs Tryd.prog w "internal/strconv.uint64pow10" .u64 Lib.pow10Tab := Lib.TabBelow.here h
theorem Pow.stays {w w' : World} (h : Pow w) (hb : Below w.heap.size w w') : Pow w' := fun w'' hb2 => h w'' (hb.trans (hb2.mono hb.size))
theorem Pow.drewN {w : World} (h : Pow w) (n : Nat) : Pow (w.drewN n) := h.stays (below_drewN (Below.refl _ _) n)

theorem wk_parse : Sol.parseB [48, 52, 50] = true ∧ Sol.parseV [48, 52, 50] = 42 := by decide +kernel
theorem wk_div : Sol.divB (-1) 7 = true ∧ Sol.divQ (-1) 7 = -1 ∧ Sol.divR (-1) 7 = 6 := by decide +kernel
theorem wk_add : Sol.addB 2 3 = true ∧ Sol.addV 2 3 = 5 ∧ Sol.addB 4611686018427387904 1 = false := by decide +kernel
theorem wk_text : Sol.textL 7 3 = [48, 48, 55] := by
  rw [textL_in (by decide) (by decide) (by decide), show (7 : Int).toNat = 7 from rfl, Lib.decDigits, dif_pos (by decide)]
  rfl

set_option maxHeartbeats 400000 in
theorem wakes1_any (w : World) (hp : Pow w) :
    Calls Tryd.prog 26 #[] w fun e w' => e = .returned (.bool true) ∧ Below w.heap.size w w' := by
  have HP := Lib.hid hp
  clear hp
  go_enter Tryd.func26, Tryd.ntmps26
  go_wp2_with fail
  refine (div_any _ _ _ (by omega) (by omega)).mono ?_
  rintro e w1 ⟨rfl, n, rfl⟩
  rw [wk_div.1, wk_div.2.1, wk_div.2.2]
  go_wp2_with fail
  refine (add_any _ _ _).mono ?_
  rintro e w1 ⟨rfl, rfl⟩
  rw [wk_add.1, wk_add.2.1]
  go_wp2_with fail
  refine (add_any _ _ _).mono ?_
  rintro e w1 ⟨rfl, rfl⟩
  rw [wk_add.2.2]
  go_wp2_with fail
  refine (parse_any _ _ (by decide)).mono ?_
  rintro e w1 ⟨rfl, rfl⟩
  rw [show (ByteArray.mk #[48, 52, 50]).data.toList = [48, 52, 50] from rfl, wk_parse.1, wk_parse.2]
  go_wp2_with fail
  refine (text_any _ _ _ (by omega) (by omega) (by omega) (by omega) (HP.out.drewN n).here).mono ?_
  rintro e w1 ⟨rfl, hb⟩
  rw [wk_text]
  go_wp2
  go_ret
  exact ⟨rfl, (below_drewN (Below.refl _ _) n).trans hb⟩
end Go.Proofs.YtopclopmgnkoeaaDoor
