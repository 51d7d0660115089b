/-
  AtUtcs: the law answers true at every three numbers, in whatever world that holds the table of powers of ten.
-/
import Derived.Test.YtikjlnkpcjjigaaDoorAt2
namespace Go.Proofs.YtikjlnkpcjjigaaDoor
open Go.RowKit
namespace Atf
open Sol Clk
theorem tm_bd (x k : Int) (hk : 0 < k) : -k < x.tmod k ∧ x.tmod k < k := by
  have h1 := Int.tmod_lt_of_pos x hk
  have h2 := Int.lt_tmod_of_pos x hk
  exact ⟨by omega, h1⟩
theorem utV_k {l d s : Int} {k : Int} (h : utB l k d s = true) : utV l k d s = if k = 1 then l - d - s else if k = 2 then l - d else l := by rw [utV, if_pos h]
theorem utB_k {l d s k : Int} (h : ¬ (1 ≤ k ∧ k ≤ 3)) : utV l k d s = 0 ∧ utB l k d s = false := by
  have e : utB l k d s = false := by rw [utB, isK, decide_eq_false h]; rfl
  exact ⟨by rw [utV, e]; rfl, e⟩
theorem utB_d {l d s k : Int} (h : ¬ (-345600 ≤ d ∧ d ≤ 345600)) : utV l k d s = 0 ∧ utB l k d s = false := by
  have e : utB l k d s = false := by rw [utB, inS, decide_eq_false h]; simp
  exact ⟨by rw [utV, e]; rfl, e⟩

set_option maxRecDepth 100000 in
set_option maxHeartbeats 3200000 in
theorem utcs_any (l0 d0 s0 : Int) (w : World) (hp : Pow w) :
    Calls Tryd.prog 8 #[.int .i64 l0, .int .i64 d0, .int .i64 s0] w fun e w' => e = .returned (.bool true) ∧ Below w.heap.size w w' := by
  have HP := Lib.hid hp
  clear hp
  have b1 := tm_bd l0 1099511627776 (by decide)
  have b2 := tm_bd d0 345601 (by decide)
  have b3 := tm_bd s0 345601 (by decide)
  go_enter Tryd.func8, Tryd.ntmps8
  go_wp2_with fail
  generalize l0.tmod 1099511627776 = l at *
  generalize d0.tmod 345601 = d at *
  generalize s0.tmod 345601 = s at *
  have U3 := utB_mk (l := l) (k := 3) (d := d) (s := s) (by omega) (by omega) (by omega) (by omega)
  have U2 := utB_mk (l := l) (k := 2) (d := d) (s := s) (by omega) (by omega) (by omega) (by omega)
  have U1 := utB_mk (l := l) (k := 1) (d := d) (s := s) (by omega) (by omega) (by omega) (by omega)
  have X3 : Hid (utV l 3 d s = l ∧ utB l 3 d s = true) := Lib.hid ⟨by rw [utV_k U3, if_neg (by decide), if_neg (by decide)], U3⟩
  have X2 : Hid (utV l 2 d s = l - d ∧ utB l 2 d s = true) := Lib.hid ⟨by rw [utV_k U2, if_neg (by decide), if_pos rfl], U2⟩
  have X1 : Hid (utV l 1 d s = l - d - s ∧ utB l 1 d s = true) := Lib.hid ⟨by rw [utV_k U1, if_pos rfl], U1⟩
  have X0 := Lib.hid (utB_k (l := l) (d := d) (s := s) (k := 0) (by omega))
  have X4 := Lib.hid (utB_d (l := l) (d := 345601) (s := s) (k := 3) (by omega))
  clear U1 U2 U3
  refine (utc_to _ _ _ _ _ _ _ (by omega) (by omega) X3).mono ?_
  rintro e w1 ⟨rfl, rfl⟩
  go_wp2_with fail
  refine (utc_to _ _ _ _ _ _ _ (by omega) (by omega) X2).mono ?_
  rintro e w1 ⟨rfl, rfl⟩
  go_wp2_with fail
  refine (utc_to _ _ _ _ _ _ _ (by omega) (by omega) X1).mono ?_
  rintro e w1 ⟨rfl, rfl⟩
  go_wp2_with fail
  refine (utc_to _ _ _ _ _ _ _ (by omega) (by omega) X0).mono ?_
  rintro e w1 ⟨rfl, rfl⟩
  go_wp2_with fail
  refine (utc_to _ _ _ _ _ _ _ (by omega) (by omega) X4).mono ?_
  rintro e w1 ⟨rfl, rfl⟩
  go_wp2_with fail
  refine (wakes8_any _ HP.out).mono ?_
  rintro e w1 ⟨rfl, hb⟩
  go_wp2
  go_ret
  exact ⟨rfl, hb⟩
end Atf
end Go.Proofs.YtikjlnkpcjjigaaDoor
