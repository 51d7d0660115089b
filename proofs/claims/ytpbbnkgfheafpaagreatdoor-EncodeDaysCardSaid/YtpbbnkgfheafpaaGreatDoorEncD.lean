/-
  Contracts of package encode: days, as a world written out; what a rule with a number is.
-/
import Derived.Test.YtpbbnkgfheafpaaGreatDoorEncOn
namespace Go.Proofs.YtpbbnkgfheafpaaGreatDoor
open Go.RowKit
namespace Enc
open Wk
theorem days_w (k v d m a b : Int) (w : World) (hk : (k == 1) = false ∧ (k == 2) = false) (hk4 : 1 ≤ k ∧ k ≤ 4) (hd : 0 ≤ d ∧ d ≤ 31) (hm : -40 ≤ m ∧ m ≤ 40) (h : Hid (fromV k d m = a ∧ toV k d m = b)) :
    Calls Tryz.prog 13 #[.agg #[.int .i64 k, .int .i64 v, .int .i64 d], .int .i64 m] w fun e w' => e = .returned (.tuple #[.int .i64 a, .int .i64 b]) ∧ ∃ q, w' = (w.alloc (Obj.cells #[.int .i64 k, .int .i64 v, .int .i64 d] 24)).drewN q := by
  have h4 : k = 3 ∨ k = 4 := by
    have a1 := beq_eq_false_iff_ne.1 hk.1
    have a2 := beq_eq_false_iff_ne.1 hk.2
    omega
  obtain ⟨d0, d1⟩ := hd
  obtain ⟨m0, m1⟩ := hm
  clear hk hk4
  have S1 := Lib.hid (show IntKind.i64.wrap (d + m) = d + m from IntWalk.i64_in _ (by omega))
  rcases h4 with rfl | rfl
  all_goals
    go_enter Tryz.func13, Tryz.ntmps13
    go_wp2_with fail
    have s1 := S1.out
    go_quiet (fail)
    clear s1
    go_wp2
    go_ret2
    exact ⟨ret_ii h.out.1 h.out.2, _, rfl⟩
/-- A rule with one weekday, with a number. -/
def NumQ (n v : Int) (w : World) (e : Ending) (w' : World) : Prop := ∃ gd gm, e = .returned (.tuple #[.agg #[.int .i64 7, .int .i64 1, .int .i64 0, .bool false, .int .i64 0, .bool false, .slice none 0 0, .slice none 0 0, .slice none 0 0, .slice (some ⟨gd, 0, none⟩) 1 1, .slice none 0 0, .slice none 0 0, .slice none 0 0, .slice (some ⟨gm, 0, none⟩) 1 1, .slice none 0 0, .int .i64 1], .int .i64 0]) ∧ Below w.heap.size w w' ∧ gd < w'.heap.size ∧ w'.cell? ⟨gd, 0, none⟩ = some (.int .i64 n) ∧ w'.cell? ⟨gd, 1, none⟩ = some (.int .i64 v)
end Enc
end Go.Proofs.YtpbbnkgfheafpaaGreatDoor
