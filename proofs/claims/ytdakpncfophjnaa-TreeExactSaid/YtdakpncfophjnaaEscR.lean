/-
  The reference's Put: it says what the program's says. (Written by gen/gen_escr.py.)
-/
import Derived.Test.YtdakpncfophjnaaBdH
namespace Go.Proofs.Ytdakpncfophjnaa
open Go.RowKit
namespace Esc
theorem rbad_to (c : UInt8) (b : Bool) (w : World) (h : Hid (ctl c = b)) :
    Calls Try.prog 71 #[.int .u8 (c.toNat : Int)] w fun e w' => e = .returned (.bool b) ∧ w = w' := by
  have HH := h.out
  rw [ctl] at HH
  clear h
  have hb := c.toNat_lt
  have hc : (c = 9 ∧ b = false) ∨ ((c.toNat : Int) < 32 ∧ ((c.toNat : Int) != 9) = true ∧ b = true) ∨ (c = 127 ∧ b = true) ∨ (¬ (c.toNat : Int) < 32 ∧ ((c.toNat : Int) == 127) = false ∧ b = false) := by
    rw [← HH]
    by_cases x1 : c = 9
    · exact Or.inl ⟨x1, by rw [x1]; decide⟩
    · by_cases x2 : (c.toNat : Int) < 32
      · have := u8_ne (n := 9) (by decide) x1
        exact Or.inr (Or.inl ⟨x2, by simpa [bne] using this, decide_eq_true (Or.inl ⟨x2, x1⟩)⟩)
      · by_cases x3 : c = 127
        · exact Or.inr (Or.inr (Or.inl ⟨x3, decide_eq_true (Or.inr x3)⟩))
        · exact Or.inr (Or.inr (Or.inr ⟨x2, u8_ne (n := 127) (by decide) x3, decide_eq_false (fun h => h.elim (fun h => x2 h.1) x3)⟩))
  clear HH
  rcases hc with ⟨rfl, rfl⟩ | ⟨x1, x2, rfl⟩ | ⟨rfl, rfl⟩ | ⟨x1, x2, rfl⟩
  all_goals
    go_enter Try.func71, Try.ntmps71
    go_wp2
    go_ret
    first | exact ⟨rfl, rfl⟩ | exact ⟨ret_b (by simp [*]), rfl⟩
end Esc
end Go.Proofs.Ytdakpncfophjnaa
