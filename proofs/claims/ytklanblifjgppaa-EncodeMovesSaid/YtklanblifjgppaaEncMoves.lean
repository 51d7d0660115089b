/-
  EncodeMoves: the law answers true at every four numbers.
-/
import Derived.Test.YtklanblifjgppaaEncWk
namespace Go.Proofs.Ytklanblifjgppaa
open Go.RowKit
namespace Enc
open Sol Clk Atf
theorem tm_bd (x k : Int) (hk : 0 < k) : -k < x.tmod k ∧ x.tmod k < k := ⟨Int.lt_tmod_of_pos x hk, Int.tmod_lt_of_pos x hk⟩
theorem mv_ok {n k d s : Int} (hn : -345600 ≤ n ∧ n ≤ 345600) (hk : 1 ≤ k ∧ k ≤ 3) (hd : -86400 < d ∧ d < 86400) (hs : -86400 < s ∧ s < 86400) :
    utB n k d s = true ∧ mvB n k d s (d + s) = true ∧ mvB n k d s 172801 = false := by
  have h1 : utB n k d s = true := by
    rw [utB, isK, decide_eq_true hk, (inB_iff n).2 (by omega), inS, decide_eq_true (by omega), inS, decide_eq_true (by omega)]; rfl
  refine ⟨h1, ?_, ?_⟩
  · rw [mvB, h1, atOk, inS, decide_eq_true hn, isK, decide_eq_true hk, decide_eq_true (by omega)]; rfl
  · rw [mvB, decide_eq_false (by omega)]; simp
/-- A time's form that a call has laid at g. -/
def At2 (g : Nat) (a b : Int) (w : World) : Prop := g < w.heap.size ∧ w.cell? ⟨g, 0, none⟩ = some (.int .i64 a) ∧ w.cell? ⟨g, 1, none⟩ = some (.int .i64 b)
theorem At2.new (w : World) (t : TypeId) (a b : Int) : At2 w.heap.size a b (w.alloc (Obj.cells #[.int .i64 a, .int .i64 b] t)) := by
  refine ⟨by simp, ?_, ?_⟩ <;> go_simp
theorem At2.below {g : Nat} {a b : Int} {w w' : World} (h : At2 g a b w) (hb : Below w.heap.size w w') : At2 g a b w' := by
  obtain ⟨a0, a1, a2⟩ := h
  have c := fun i => hb.cell (p := ⟨g, i, none⟩) a0
  exact ⟨Nat.lt_of_lt_of_le a0 hb.size, (c 0).trans a1, (c 1).trans a2⟩
set_option maxHeartbeats 3200000 in
set_option maxRecDepth 100000 in
theorem emoves_any (n0 k0 d0 s0 : Int) (w : World) :
    Calls Try.prog 4 #[.int .i64 n0, .int .i64 k0, .int .i64 d0, .int .i64 s0] w fun e w' => e = .returned (.bool true) ∧ Below w.heap.size w w' := by
  have b1 := tm_bd n0 345601 (by decide)
  have b2 : 0 ≤ (IntKind.u64.wrap k0).tmod 3 ∧ (IntKind.u64.wrap k0).tmod 3 < 3 := ⟨Int.tmod_nonneg 3 (by rw [IntKind.wrap_u64]; omega), Int.tmod_lt_of_pos _ (by decide)⟩
  have b3 := tm_bd d0 86400 (by decide)
  have b4 := tm_bd s0 86400 (by decide)
  go_enter Try.func4, Try.ntmps4
  go_wp2_with fail
  generalize n0.tmod 345601 = n at *
  generalize (IntKind.u64.wrap k0).tmod 3 = j at *
  generalize d0.tmod 86400 = d at *
  generalize s0.tmod 86400 = s at *
  have hn : -345600 ≤ n ∧ n ≤ 345600 := by omega
  obtain ⟨u1, u2, u3⟩ := mv_ok hn (k := 1 + j) (by omega) b3 b4
  have hv : utV n (1 + j) d s = if 1 + j = 1 then n - d - s else if 1 + j = 2 then n - d else n := by rw [utV, if_pos u1]
  have hm := mv_yes u2
  have hm3 := mv_no u3
  obtain ⟨u, hu⟩ : ∃ u, utV n (1 + j) d s = u := ⟨_, rfl⟩
  rw [hu] at hm hv
  obtain ⟨T, hT⟩ : ∃ T, u + (d + s) = T := ⟨_, rfl⟩
  rw [hT] at hm
  obtain ⟨dd, hdd⟩ : ∃ x, T / 86400 = x := ⟨_, rfl⟩
  obtain ⟨xx, hxx⟩ : ∃ x, T % 86400 = x := ⟨_, rfl⟩
  have x0 : 0 ≤ xx ∧ xx < 86400 := by omega
  have hdx : dd * 86400 + xx = u + d + s := by omega
  rw [hdd, hxx] at hm
  have M1 := Lib.hid (And.intro hm.1 (And.intro hm.2 u2))
  have M3 := Lib.hid (And.intro hm3.1 (And.intro hm3.2 u3))
  have U1 := Lib.hid (And.intro hu u1)
  have hub : -1000000 ≤ u ∧ u ≤ 1000000 := by
    rw [hv]
    split
    · omega
    · split <;> omega
  have hdb : -20 ≤ dd ∧ dd ≤ 20 := by omega
  have HV := Lib.hid hv
  clear hv hm hm3 hu hT hdd hxx u1 u2 u3
  refine (move_to _ _ _ _ _ dd xx true _ (by omega) (by omega) M1).mono ?_
  rintro e w1 ⟨rfl, hb1⟩
  have HA1 := Lib.hid ((At2.new w 25 n (1 + j)).below hb1)
  have hB1 : Below w.heap.size w w1 := ((Below.refl _ _).alloc (Nat.le_refl _) _).trans (hb1.mono (by simp))
  obtain ⟨_, z0, z1⟩ := HA1.out
  clear hb1
  go_wp2_with fail
  refine (utc_to _ _ _ _ u true _ (by omega) (by omega) U1).mono ?_
  rintro e w2 ⟨rfl, rfl⟩
  go_wp2_with fail
  refine (move_to _ _ _ _ _ 0 0 false _ (by omega) (by omega) M3).mono ?_
  rintro e w2 ⟨rfl, hb2⟩
  have hB2 : Below w.heap.size w w2 := hB1.trans (hb2.mono hB1.size)
  obtain ⟨_, y0, y1⟩ := HA1.out.below hb2
  clear hb2 z0 z1 hB1
  by_cases hj : j = 0
  · subst hj
    have hu0 : u = n - d - s := by rw [HV.out]; rfl
    have hdx2 : dd * 86400 + xx = n := by omega
    have ht : (dd * 86400 + xx == n) = true := by rw [hdx2]; simp
    clear hu0 hdx hdx2
    go_wp2_with fail
    refine (wakes24_any _).mono ?_
    rintro e w3 ⟨rfl, hb3⟩
    go_wp2
    go_ret
    exact ⟨rfl, hB2.trans (hb3.mono hB2.size)⟩
  · have hj1 : ((1 + j) == 1) = false := beq_eq_false_iff_ne.2 (by omega)
    have hj2 : ((1 + j) != 1) = true := by simp [bne, hj1]
    go_wp2_with fail
    refine (wakes24_any _).mono ?_
    rintro e w3 ⟨rfl, hb3⟩
    go_wp2
    go_ret
    exact ⟨rfl, hB2.trans (hb3.mono hB2.size)⟩
end Enc
end Go.Proofs.Ytklanblifjgppaa
