/-
  Package format: the waking call of its laws; FormatBad.
-/
import Derived.Test.YtfmlccddhphjcaaDoorFmD
namespace Go.Proofs.YtfmlccddhphjcaaDoor
open Go.RowKit
namespace Fm
open Sol
theorem wk_1 : nmR [67, 69, 37, 115, 84] [83] 7200 3600 = ([67, 69, 83, 84], 0) := by decide +kernel
theorem wk_2 : nmR [65, 47, 66] [] 0 0 = ([65], 0) := by decide +kernel
theorem wk_3 : shS (-5400) = [45, 48, 49, 51, 48] ∧ shE (-5400) = 0 := by decide +kernel
theorem wk_4 : nmR [37, 115] [] 0 0 = ([], 16) := by decide +kernel
theorem wk_5 : rgtB [43, 48, 51] = true := by decide +kernel
set_option maxHeartbeats 3200000 in
set_option maxRecDepth 100000 in
theorem wakes12_any (w : World) (hp : Pow w) (hm : MaxL w) :
    Calls Tryd.prog 12 #[] w fun e w' => e = .returned (.bool true) ∧ Below w.heap.size w w' := by
  have HP := Lib.hid hp
  have HM := Lib.hid hm
  clear hp hm
  go_enter Tryd.func12, Tryd.ntmps12
  go_wp2_with fail
  refine (name_to _ _ [67, 69, 37, 115, 84] [83] _ _ _ _ _ HP.out HM.out (by decide) (by decide) (Lib.hid rfl) (Lib.hid rfl) (Lib.hid wk_1)).mono ?_
  rintro e w1 ⟨rfl, b1⟩
  go_wp2_with fail
  refine (name_to _ _ [65, 47, 66] [] _ _ _ _ _ (HP.out.stays b1) (HM.out.stays b1) (by decide) (by decide) (Lib.hid rfl) (Lib.hid rfl) (Lib.hid wk_2)).mono ?_
  rintro e w2 ⟨rfl, d2⟩
  have b2 := b1.trans (d2.mono b1.size)
  go_wp2_with fail
  refine (short_to (-5400) _ _ _ (HP.out.stays b2) (Lib.hid wk_3)).mono ?_
  rintro e w3 ⟨rfl, d3⟩
  have b3 := b2.trans (d3.mono b2.size)
  clear d2 d3
  go_wp2_with fail
  refine (name_to _ _ [37, 115] [] _ _ _ _ _ (HP.out.stays b3) (HM.out.stays b3) (by decide) (by decide) (Lib.hid rfl) (Lib.hid rfl) (Lib.hid wk_4)).mono ?_
  rintro e w4 ⟨rfl, d4⟩
  have b4 := b3.trans (d4.mono b3.size)
  go_wp2_with fail
  refine (rgt_to _ [43, 48, 51] _ _ (by decide) (Lib.hid rfl) (Lib.hid wk_5)).mono ?_
  rintro e w5 ⟨rfl, d5⟩
  have b5 := b4.trans (d5.mono b4.size)
  go_wp2
  go_ret
  exact ⟨rfl, b5⟩
def bdL : Nat → List UInt8 := fun k => ([[], [37], [37, 120], [97, 37, 115, 37, 122], [97, 47, 98, 47, 99], [97, 47, 37, 115], [97, 32, 98], [97, 95, 98], [37, 115, 47, 98], [60, 43, 48, 51, 62]] : List (List UInt8)).getD k []
theorem bd_no : ∀ k < 10, fmtB (bdL k) = false ∧ (bdL k).length ≤ 20 := by decide +kernel
theorem nm_no {S L : List UInt8} (off save : Int) (h : fmtB S = false) : nmR S L off save = ([], 16) := by
  have e : nmB S L off save = false := by rw [nmB, h]; simp
  rw [nmR, e]; rfl
theorem nm_a0 : nmR [47, 98] [] 0 0 = ([], 16) := by decide +kernel
theorem nm_b0 : nmR [98, 47] [] 0 0 = ([98], 0) := by decide +kernel
theorem nm_a1 {save : Int} (h : save ≠ 0) : nmR [47, 98] [] 0 save = ([98], 0) := by
  have e : filL [47, 98] [] (shS 0) save = [98] := by rw [filL, if_pos (by decide +kernel), if_neg h]; decide +kernel
  rw [nmR, nmB, e]; decide +kernel
theorem nm_b1 {save : Int} (h : save ≠ 0) : nmR [98, 47] [] 0 save = ([], 16) := by
  have e : filL [98, 47] [] (shS 0) save = [] := by rw [filL, if_pos (by decide +kernel), if_neg h]; decide +kernel
  rw [nmR, nmB, e]; decide +kernel
theorem u10 (x : Int) : ∃ k : Nat, (IntKind.u64.wrap x).tmod 10 = (k : Int) ∧ (IntKind.u64.wrap x) % 10 = (k : Int) ∧ k < 10 := by
  have h0 : 0 ≤ IntKind.u64.wrap x := by rw [IntKind.wrap_u64]; omega
  have h1 := Int.tmod_nonneg 10 h0
  have h2 := Int.tmod_lt_of_pos (IntKind.u64.wrap x) (show (0 : Int) < 10 by omega)
  have h3 : (IntKind.u64.wrap x).tmod 10 = IntKind.u64.wrap x % 10 := Int.tmod_eq_emod_of_nonneg h0
  exact ⟨((IntKind.u64.wrap x).tmod 10).toNat, by omega, by omega, by omega⟩
set_option maxHeartbeats 3200000 in
set_option maxRecDepth 100000 in
theorem fbad_any (how save : Int) (w : World) (hp : Pow w) (hm : MaxL w) :
    Calls Tryd.prog 6 #[.int .i64 how, .int .i64 save] w fun e w' => e = .returned (.bool true) ∧ Below w.heap.size w w' := by
  have HP := Lib.hid hp
  have HM := Lib.hid hm
  clear hp hm
  obtain ⟨k, e1, e2, hk⟩ := u10 how
  have HB := Lib.hid (bd_no k hk)
  have hc : (w.alloc (Obj.cells #[.string ⟨#[]⟩, .string ⟨#[37]⟩, .string ⟨#[37, 120]⟩, .string ⟨#[97, 37, 115, 37, 122]⟩, .string ⟨#[97, 47, 98, 47, 99]⟩, .string ⟨#[97, 47, 37, 115]⟩, .string ⟨#[97, 32, 98]⟩, .string ⟨#[97, 95, 98]⟩, .string ⟨#[37, 115, 47, 98]⟩, .string ⟨#[60, 43, 48, 51, 62]⟩] 9)).cell? ⟨w.heap.size, k, none⟩ = some (.string ⟨(bdL k).toArray⟩) := by
    rw [World.cell?_alloc_new]
    have hc : k = 0 ∨ k = 1 ∨ k = 2 ∨ k = 3 ∨ k = 4 ∨ k = 5 ∨ k = 6 ∨ k = 7 ∨ k = 8 ∨ k = 9 := by omega
    rcases hc with rfl | rfl | rfl | rfl | rfl | rfl | rfl | rfl | rfl | rfl <;> rfl
  obtain ⟨Z, hZ⟩ : ∃ Z, bdL k = Z := ⟨_, rfl⟩
  rw [hZ] at hc HB
  have HZ : Hid ((⟨Z.toArray⟩ : ByteArray).size ≤ 1000) := Lib.hid (by have := HB.out.2; show Z.length ≤ 1000; omega)
  have NB : Hid (nmR Z [83] 3600 save = ([], 16)) := Lib.hid (nm_no _ _ HB.out.1)
  have hs : (save = 0 ∧ nmR [47, 98] [] 0 save = ([], 16) ∧ nmR [98, 47] [] 0 save = ([98], 0)) ∨ ((save == 0) = false ∧ nmR [47, 98] [] 0 save = ([98], 0) ∧ nmR [98, 47] [] 0 save = ([], 16)) := by
    by_cases h : save = 0
    · subst h; exact Or.inl ⟨rfl, nm_a0, nm_b0⟩
    · exact Or.inr ⟨beq_eq_false_iff_ne.2 h, nm_a1 h, nm_b1 h⟩
  clear hZ HB
  have HS := Lib.hid hs
  clear hs
  have hbw : Below w.heap.size w (w.alloc (Obj.cells #[.string ⟨#[]⟩, .string ⟨#[37]⟩, .string ⟨#[37, 120]⟩, .string ⟨#[97, 37, 115, 37, 122]⟩, .string ⟨#[97, 47, 98, 47, 99]⟩, .string ⟨#[97, 47, 37, 115]⟩, .string ⟨#[97, 32, 98]⟩, .string ⟨#[97, 95, 98]⟩, .string ⟨#[37, 115, 47, 98]⟩, .string ⟨#[60, 43, 48, 51, 62]⟩] 9)) := (Below.refl _ _).alloc (Nat.le_refl _) _
  have HBW := Lib.hid hbw
  clear hbw
  go_enter Tryd.func6, Tryd.ntmps6
  go_wp2_with fail
  refine (name_to _ _ Z [83] _ _ _ _ _ (HP.out.stays HBW.out) (HM.out.stays HBW.out) HZ.out (by decide) (Lib.hid rfl) (Lib.hid rfl) NB).mono ?_
  rintro e w1 ⟨rfl, d1⟩
  have b1 : Below w.heap.size w w1 := HBW.out.trans (d1.mono HBW.out.size)
  clear hc d1
  rcases HS.out with ⟨rfl, n1, n2⟩ | ⟨h0, n1, n2⟩
  all_goals
    have N1 := Lib.hid n1
    have N2 := Lib.hid n2
    clear n1 n2
    go_wp2_with fail
    refine (name_to _ _ [47, 98] [] _ _ _ _ _ (HP.out.stays b1) (HM.out.stays b1) (by decide) (by decide) (Lib.hid rfl) (Lib.hid rfl) N1).mono ?_
    rintro e w2 ⟨rfl, d2⟩
    have b2 := b1.trans (d2.mono b1.size)
    go_wp2_with fail
    refine (name_to _ _ [98, 47] [] _ _ _ _ _ (HP.out.stays b2) (HM.out.stays b2) (by decide) (by decide) (Lib.hid rfl) (Lib.hid rfl) N2).mono ?_
    rintro e w3 ⟨rfl, d3⟩
    have b3 := b2.trans (d3.mono b2.size)
    clear d2 d3
    go_wp2_with fail
    refine (wakes12_any _ (HP.out.stays b3) (HM.out.stays b3)).mono ?_
    rintro e w4 ⟨rfl, d4⟩
    go_wp2
    go_ret
    exact ⟨rfl, b3.trans (d4.mono b3.size)⟩
end Fm
end Go.Proofs.YtfmlccddhphjcaaDoor
