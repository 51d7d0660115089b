/-
  AtBack: the law answers true at every three numbers, in whatever world that holds the table of powers of ten.
-/
import Derived.Test.YtikjlnkpcjjigaaDoorAt2
namespace Go.Proofs.YtikjlnkpcjjigaaDoor
open Go.RowKit
namespace Atf
open Sol Clk
def lets : Nat → List UInt8 := fun k => [[], [119], [87], [115], [83], [117], [85], [103], [71], [122], [90]].getD k []
def wantK (k : Nat) : Int := if 4 < k then 3 else if 2 < k then 2 else 1
theorem lets_ok {n : Int} (h : -345600 ≤ n ∧ n ≤ 345600) (k : Nat) (hk : k < 11) : apV (ctL n ++ lets k) = n ∧ apKk (ctL n ++ lets k) = wantK k ∧ apE (ctL n ++ lets k) = 0 := by
  obtain ⟨⟨a1, a2, a3⟩, a4⟩ := ap_ct h.1 h.2
  have hc : k = 0 ∨ k = 1 ∨ k = 2 ∨ k = 3 ∨ k = 4 ∨ k = 5 ∨ k = 6 ∨ k = 7 ∨ k = 8 ∨ k = 9 ∨ k = 10 := by omega
  rcases hc with rfl | rfl | rfl | rfl | rfl | rfl | rfl | rfl | rfl | rfl | rfl
  · rw [show lets 0 = [] from rfl, List.append_nil]; exact ⟨a1, a2, a3⟩
  · exact a4 119 (by decide)
  · exact a4 87 (by decide)
  · exact a4 115 (by decide)
  · exact a4 83 (by decide)
  · exact a4 117 (by decide)
  · exact a4 85 (by decide)
  · exact a4 103 (by decide)
  · exact a4 71 (by decide)
  · exact a4 122 (by decide)
  · exact a4 90 (by decide)
theorem bcell2 {W w1 : World} (hb : Below W.heap.size W w1) : ∀ b o, b < W.heap.size → w1.cell? ⟨b, o, none⟩ = W.cell? ⟨b, o, none⟩ :=
  fun b o h => hb.cell (p := ⟨b, o, none⟩) h
theorem u3_bd (x : Int) (k : Int) (hk : 0 < k) : 0 ≤ (IntKind.u64.wrap x).tmod k ∧ (IntKind.u64.wrap x).tmod k < k :=
  ⟨Int.tmod_nonneg _ (by rw [IntKind.wrap_u64]; omega), Int.tmod_lt_of_pos _ hk⟩

set_option maxRecDepth 100000 in
set_option maxHeartbeats 6400000 in
theorem aback_any (s0 k0 i0 : Int) (w : World) (hp : Pow w) :
    Calls Tryd.prog 7 #[.int .i64 s0, .int .i64 k0, .int .i64 i0] w fun e w' => e = .returned (.bool true) ∧ Below w.heap.size w w' := by
  have HP := Lib.hid hp
  clear hp
  have b1 : -345601 < s0.tmod 345601 ∧ s0.tmod 345601 < 345601 := by
    have h1 := Int.tmod_lt_of_pos s0 (show (0 : Int) < 345601 by decide)
    have h2 := Int.lt_tmod_of_pos s0 (show (0 : Int) < 345601 by decide)
    omega
  have b2 := u3_bd k0 3 (by decide)
  obtain ⟨k, ek, hk⟩ : ∃ k : Nat, (IntKind.u64.wrap i0).tmod 11 = (k : Int) ∧ k < 11 := by
    have b3 := u3_bd i0 11 (by decide)
    exact ⟨((IntKind.u64.wrap i0).tmod 11).toNat, by omega, by omega⟩
  go_enter Tryd.func7, Tryd.ntmps7
  go_wp2_with fail
  generalize s0.tmod 345601 = n at *
  generalize (IntKind.u64.wrap k0).tmod 3 = j at *
  have hn : -345600 ≤ n ∧ n ≤ 345600 := by omega
  obtain ⟨e1, e2, e3, e4, e5⟩ := at_back (n := n) (k := 1 + j) hn (by omega)
  obtain ⟨f1, f2, _, _, _⟩ := at_back (n := n) (k := 1) hn (by omega)
  rw [show suf 1 = [] from rfl, List.append_nil] at f2
  have hlen := ct_len hn.1 hn.2
  have hsl : (suf (1 + j)).length ≤ 1 := by unfold suf; split; simp; split <;> simp
  have HO := Lib.hid (fun k hk => lets_ok hn k hk)
  obtain ⟨C, hC⟩ : ∃ C, ctL n = C := ⟨_, rfl⟩
  rw [hC] at e2 e3 e4 e5 f2 hlen HO
  obtain ⟨S, hS⟩ : ∃ S, suf (1 + j) = S := ⟨_, rfl⟩
  rw [hS] at e2 e3 e4 e5 hsl
  have T1 := Lib.hid (And.intro e2 e1)
  have P1 := Lib.hid (And.intro e3 (And.intro e4 e5))
  have T2 := Lib.hid (And.intro f2 f1)
  clear e1 e2 e3 e4 e5 f1 f2 hC hS
  refine (atext_to _ _ _ _ _ (HP.out.stays (by repeat (first | exact Below.refl _ _ | refine below_drewN ?_ _ | refine Below.alloc ?_ (by simp; try omega) _))) T1).mono ?_
  rintro e w1 ⟨rfl, hb1⟩
  have hB1 : Below w.heap.size w w1 := Below.trans (by repeat (first | exact Below.refl _ _ | refine below_drewN ?_ _ | refine Below.alloc ?_ (by simp; try omega) _)) (hb1.mono (by simp; try omega))
  go_wp2_with fail
  refine (aparse_to _ (C ++ S) _ _ _ _ (by rw [List.length_append]; omega) (Lib.hid rfl) P1).mono ?_
  rintro e w2 ⟨rfl, hb2⟩
  have hB2 : Below w.heap.size w w2 := hB1.trans (hb2.mono hB1.size)
  have hz1 := hb1.size
  simp at hz1
  have hz2 := hb2.size
  have z0 : w2.cell? ⟨w.heap.size, 0, none⟩ = some (.int .i64 n) := (hb2.cell (p := ⟨w.heap.size, 0, none⟩) (by show w.heap.size < _; omega)).trans ((hb1.cell (p := ⟨w.heap.size, 0, none⟩) (by simp)).trans (by go_simp))
  have z1 : w2.cell? ⟨w.heap.size, 1, none⟩ = some (.int .i64 (1 + j)) := (hb2.cell (p := ⟨w.heap.size, 1, none⟩) (by show w.heap.size < _; omega)).trans ((hb1.cell (p := ⟨w.heap.size, 1, none⟩) (by simp)).trans (by go_simp))
  have f1 : w2.frozen? ⟨w.heap.size, 1, none⟩ = false := (hb2.frozen (p := ⟨w.heap.size, 1, none⟩) (by show w.heap.size < _; omega)).trans ((hb1.frozen (p := ⟨w.heap.size, 1, none⟩) (by simp)).trans (by go_simp))
  have hs2 : w.heap.size < w2.heap.size := by omega
  have hne : w.heap.size ≠ w2.heap.size := by omega
  clear hb1 hb2 hz1 hz2 hB1 b2 P1 T1
  go_wp2_with fail
  refine (atext_to _ _ _ _ _ (HP.out.stays (by repeat (first | exact hB2 | refine Below.setCell ?_ (by simp) _ | refine below_drewN ?_ _ | refine Below.alloc ?_ (by have := hs2; simp; try omega) _))) T2).mono ?_
  rintro e w4 ⟨rfl, hb4⟩
  have hB4 : Below w.heap.size w w4 := Below.trans ((hB2.setCell (by simp) _).alloc (by simp; omega) _) (hb4.mono (by simp; omega))
  have hs4 : w.heap.size < w4.heap.size := by have := hb4.size; simp at this; omega
  have y0 : w4.cell? ⟨w.heap.size, 0, none⟩ = some (.int .i64 n) := (hb4.cell (p := ⟨w.heap.size, 0, none⟩) (by simp; omega)).trans (by go_simp)
  clear hb4 z0 z1 f1 hne hs2 hB2
  have hc : (w4.alloc (Obj.cells #[.string ⟨#[]⟩, .string ⟨#[119]⟩, .string ⟨#[87]⟩, .string ⟨#[115]⟩, .string ⟨#[83]⟩, .string ⟨#[117]⟩, .string ⟨#[85]⟩, .string ⟨#[103]⟩, .string ⟨#[71]⟩, .string ⟨#[122]⟩, .string ⟨#[90]⟩] 9)).cell? ⟨w4.heap.size, k, none⟩ = some (.string ⟨(lets k).toArray⟩) := by
    rw [World.cell?_alloc_new]
    have hc : k = 0 ∨ k = 1 ∨ k = 2 ∨ k = 3 ∨ k = 4 ∨ k = 5 ∨ k = 6 ∨ k = 7 ∨ k = 8 ∨ k = 9 ∨ k = 10 := by omega
    rcases hc with rfl | rfl | rfl | rfl | rfl | rfl | rfl | rfl | rfl | rfl | rfl <;> rfl
  have hl1 : (lets k).length ≤ 1 := by
    have hc : k = 0 ∨ k = 1 ∨ k = 2 ∨ k = 3 ∨ k = 4 ∨ k = 5 ∨ k = 6 ∨ k = 7 ∨ k = 8 ∨ k = 9 ∨ k = 10 := by omega
    rcases hc with rfl | rfl | rfl | rfl | rfl | rfl | rfl | rfl | rfl | rfl | rfl <;> decide
  obtain ⟨o1, o2, o3⟩ := HO.out k (by omega)
  obtain ⟨Z, hZ⟩ : ∃ Z, lets k = Z := ⟨_, rfl⟩
  rw [hZ] at hc hl1 o1 o2 o3
  have P2 := Lib.hid (And.intro o1 (And.intro o2 o3))
  have HW : Hid (wantK k = if 4 < k then 3 else if 2 < k then 2 else 1) := Lib.hid rfl
  obtain ⟨wk, hwk⟩ : ∃ x, wantK k = x := ⟨_, rfl⟩
  rw [hwk] at P2 HW
  clear hZ o1 o2 o3 HO hwk
  go_wp2_with fail
  refine (aparse_to _ (C ++ Z) _ _ _ _ (by rw [List.length_append]; omega) (Lib.hid (by simp)) P2).mono ?_
  rintro e w5 ⟨rfl, hb5⟩
  have hB5 : Below w.heap.size w w5 := Below.trans (hB4.alloc (by omega) _) (hb5.mono (by simp; omega))
  have hs5 : w.heap.size < w5.heap.size := by have := hb5.size; simp at this; omega
  have x0 : w5.cell? ⟨w.heap.size, 0, none⟩ = some (.int .i64 n) := (hb5.cell (p := ⟨w.heap.size, 0, none⟩) (by simp; omega)).trans (by go_simp)
  have hne5 : w.heap.size ≠ w5.heap.size := by omega
  clear hb5 y0 hc hB4 hs4
  have hk3 : (k ≤ 2 ∧ wk = 1) ∨ (2 < k ∧ k ≤ 4 ∧ wk = 2) ∨ (4 < k ∧ wk = 3) := by
    have := HW.out
    split at this
    · exact Or.inr (Or.inr ⟨by omega, by omega⟩)
    · split at this
      · exact Or.inr (Or.inl ⟨by omega, by omega, by omega⟩)
      · exact Or.inl ⟨by omega, by omega⟩
  rcases hk3 with ⟨g1, rfl⟩ | ⟨g1, g2, rfl⟩ | ⟨g1, rfl⟩
  all_goals
    go_wp2_with fail
    refine (wakes8_any _ (HP.out.stays (hB5.alloc (by omega) _))).mono ?_
    rintro e w6 ⟨rfl, hb6⟩
    go_wp2
    go_ret
    exact ⟨rfl, Below.trans (hB5.alloc (by omega) _) (hb6.mono (by simp; omega))⟩
end Atf
end Go.Proofs.YtikjlnkpcjjigaaDoor
