/-
  Contracts of package clock, third part: Parse, Split, Join.
-/
import Derived.Test.YtnjmpenfhieakaaDoorClk2
import Derived.Outline
namespace Go.Proofs.YtnjmpenfhieakaaDoor
open Go.RowKit
namespace Clk
open Sol
theorem ret_ii {a a' b b' : Int} (h : a = a') (k : b = b') : Ending.returned (.tuple #[.int .i64 a, .int .i64 b]) = .returned (.tuple #[.int .i64 a', .int .i64 b']) := by rw [h, k]
theorem cut_at (s : ByteArray) (L D : List UInt8) (b : Bool) (w : World) (hL : Hid (s.data.toList = L)) (h : Hid (dg L = D ∧ neg L = b)) :
    Calls Tryd.prog 26 #[.string s, .string ⟨#[45]⟩] w fun e w' => e = .returned (.tuple #[.string ⟨D.toArray⟩, .bool b]) ∧ w = w' :=
  (Tryd.strings_CutPrefix s ⟨#[45]⟩ w).mono fun _ _ ⟨he, hw⟩ => ⟨by rw [he, hL.out, ← h.out.1, ← h.out.2]; rfl, hw.symm⟩
theorem cl_dash : clB [45] = true ∧ clV [45] = 0 ∧ clE [45] = 0 := by decide +kernel
theorem clE_yes {l : List UInt8} (h : clB l = true) : clE l = 0 := by rw [clE, if_pos h]
theorem dg_len (l : List UInt8) : (dg l).length ≤ l.length := by
  unfold dg Lib.trimPrefix
  split
  · rw [List.length_drop]; omega
  · exact Nat.le_refl _

theorem csplit_any (t : Int) (w : World) (t1 : -9223372036854775808 ≤ t) (t2 : t ≤ 9223372036854775807) :
    Calls Tryd.prog 19 #[.int .i64 t] w fun e w' => e = .returned (.tuple #[.int .i64 (t / 86400), .int .i64 (t % 86400)]) ∧ ∃ n, w' = w.drewN n := by
  have b1 : -86400 < t.tmod 86400 := by have := Int.lt_tmod_of_pos t (show (0 : Int) < 86400 by decide); omega
  have b2 : t.tmod 86400 < 86400 := Int.tmod_lt_of_pos t (by decide)
  by_cases h : t.tmod 86400 < 0
  · have K := Lib.hid (tq_neg (a := t) (b := 86400) (by decide) h)
    have hn : ¬ 0 ≤ t := fun h' => by have := Int.tmod_nonneg 86400 h'; omega
    have d1 : -9223372036854775808 ≤ t.tdiv 86400 - 1 := by have := K.out.1; omega
    have d2 : t.tdiv 86400 ≤ 9223372036854775807 := by have := K.out.1; omega
    go_enter Tryd.func19, Tryd.ntmps19
    go_wp2
    all_goals go_ret2
    all_goals exact ⟨ret_ii K.out.1.symm K.out.2.symm, 0, rfl⟩
  · have K := Lib.hid (tq_nn (a := t) (b := 86400) (by decide) h)
    by_cases hn : 0 ≤ t
    · have hm := Int.emod_nonneg t (show (86400 : Int) ≠ 0 by decide)
      go_enter Tryd.func19, Tryd.ntmps19
      go_wp2
      all_goals go_ret2
      all_goals exact ⟨rfl, 0, rfl⟩
    · go_enter Tryd.func19, Tryd.ntmps19
      go_wp2
      all_goals go_ret2
      all_goals exact ⟨ret_ii K.out.1.symm K.out.2.symm, 0, rfl⟩
def jnB (d s : Int) : Bool := decide ((-1152921504606846976 ≤ d ∧ d ≤ 1152921504606846976) ∧ (-53375995583651 ≤ d + s / 86400 ∧ d + s / 86400 ≤ 53375995583650) ∧ (-4611686018427387904 ≤ d * 86400 + s ∧ d * 86400 + s ≤ 4611686018427387904))
def jnV (d s : Int) : Int := if jnB d s then d * 86400 + s else 0
theorem ret_ib {a a' : Int} {b b' : Bool} (h : a = a') (k : b = b') : Ending.returned (.tuple #[.int .i64 a, .bool b]) = .returned (.tuple #[.int .i64 a', .bool b']) := by rw [h, k]
theorem jn_no {d s : Int} (h : ¬ ((-1152921504606846976 ≤ d ∧ d ≤ 1152921504606846976) ∧ (-53375995583651 ≤ d + s / 86400 ∧ d + s / 86400 ≤ 53375995583650) ∧ (-4611686018427387904 ≤ d * 86400 + s ∧ d * 86400 + s ≤ 4611686018427387904))) : jnB d s = false ∧ jnV d s = 0 := by
  have e : jnB d s = false := decide_eq_false h
  exact ⟨e, by rw [jnV, e]; rfl⟩
theorem jn_yes {d s : Int} (h : (-1152921504606846976 ≤ d ∧ d ≤ 1152921504606846976) ∧ (-53375995583651 ≤ d + s / 86400 ∧ d + s / 86400 ≤ 53375995583650) ∧ (-4611686018427387904 ≤ d * 86400 + s ∧ d * 86400 + s ≤ 4611686018427387904)) : jnB d s = true ∧ jnV d s = d * 86400 + s := by
  have e : jnB d s = true := decide_eq_true h
  exact ⟨e, by rw [jnV, if_pos e]⟩

end Clk
end Go.Proofs.YtnjmpenfhieakaaDoor
