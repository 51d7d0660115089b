/-
  FormatExact: any format's name, any offset's short text, whether any name is right, are the page's.
-/
import Derived.Test.YtfmlccddhphjcaaDoorFmX4
namespace Go.Proofs.YtfmlccddhphjcaaDoor
open Go.RowKit
namespace Fm
open Sol
set_option maxHeartbeats 6400000 in
set_option maxRecDepth 100000 in
theorem fexact_any (s l : ByteArray) (off save : Int) (w : World) (hp : Pow w) (hm : MaxL w) :
    Calls Tryd.prog 3 #[.string s, .string l, .int .i64 off, .int .i64 save] w fun e w' => e = .returned (.bool true) ∧ Below w.heap.size w w' := by
  have HP := Lib.hid hp
  have HM := Lib.hid hm
  clear hp hm
  by_cases z1 : 200 < s.size
  · go_enter Tryd.func3, Tryd.ntmps3
    go_wp2
    go_ret
    exact ⟨rfl, Below.refl _ _⟩
  by_cases z2 : 200 < l.size
  · have z3 : s.size ≤ 200 := by omega
    go_enter Tryd.func3, Tryd.ntmps3
    go_wp2
    go_ret
    exact ⟨rfl, Below.refl _ _⟩
  have z3 : s.size ≤ 200 := by omega
  have z4 : l.size ≤ 200 := by omega
  clear z1 z2
  obtain ⟨S, hS⟩ : ∃ x, s.data.toList = x := ⟨_, rfl⟩
  obtain ⟨L, hL⟩ : ∃ x, l.data.toList = x := ⟨_, rfl⟩
  have KS := Lib.hid hS
  have KL := Lib.hid hL
  obtain ⟨N, hN⟩ : ∃ x, filL S L (shS off) save = x := ⟨_, rfl⟩
  obtain ⟨T, hT⟩ : ∃ x, shS off = x := ⟨_, rfl⟩
  obtain ⟨c, hc⟩ : ∃ x, shE off = x := ⟨_, rfl⟩
  obtain ⟨r, hr⟩ : ∃ x, rgtB S = x := ⟨_, rfl⟩
  have TS := Lib.hid (And.intro hT hc)
  have TT := Lib.hid hT
  have HR := Lib.hid hr
  have HPL : Hid (plB S 40 = r) := Lib.hid (by rw [pl_rgt, hr])
  have hnm : (nmR S L off save = (N, 0) ∧ (if nmB S L off save = true then (filL S L (shS off) save, true) else ([], false)) = (N, true)) ∨ (nmR S L off save = ([], 16) ∧ (if nmB S L off save = true then (filL S L (shS off) save, true) else ([], false)) = ([], false)) := by
    rw [nmR, hN]
    by_cases x : nmB S L off save = true
    · rw [if_pos x, if_pos x]; exact Or.inl ⟨rfl, rfl⟩
    · rw [if_neg x, if_neg x]; exact Or.inr ⟨rfl, rfl⟩
  have ho : (off ≤ -172800 ∧ T = [] ∧ c = 5) ∨ (¬ off ≤ -172800 ∧ 172800 ≤ off ∧ T = [] ∧ c = 5) ∨ ((-172800 < off ∧ off < 172800) ∧ c = 0) := by
    rw [← hT, ← hc, shS, shE]
    by_cases x1 : off ≤ -172800
    · exact Or.inl ⟨x1, by rw [if_neg (by omega)], by rw [if_neg (by omega)]⟩
    · by_cases x2 : 172800 ≤ off
      · exact Or.inr (Or.inl ⟨x1, x2, by rw [if_neg (by omega)], by rw [if_neg (by omega)]⟩)
      · exact Or.inr (Or.inr ⟨by omega, by rw [if_pos (by omega)]⟩)
  have ho := Lib.hid ho
  have hrr : (r == r) = true := by simp
  have hrr2 : (r != r) = false := by simp
  clear hS hL hN hT hc hr
  rcases hnm with ⟨n1, n2⟩ | ⟨n1, n2⟩
  all_goals
    have N1 := Lib.hid n1
    have N2 := Lib.hid n2
    clear n1 n2
    go_enter Tryd.func3, Tryd.ntmps3
    go_wp2_with fail
    refine (name_to s l S L _ off save _ _ HP.out HM.out (by omega) (by omega) KS KL N1).mono ?_
    rintro e w1 ⟨rfl, b1⟩
    go_wp2_with fail
    refine (short_to off T c _ (HP.out.stays b1) TS).mono ?_
    rintro e w2 ⟨rfl, d2⟩
    have b2 := b1.trans (d2.mono b1.size)
    go_wp2_with fail
    refine (abbr_to s l S L _ off save _ _ (by omega) (by omega) KS KL N2).mono ?_
    rintro e w3 ⟨rfl, d3⟩
    have b3 := b2.trans (d3.mono b2.size)
    clear d2 d3
    go_wp2_with fail
    refine (rgt_to s S r _ (by omega) KS HR).mono ?_
    rintro e w4 ⟨rfl, d4⟩
    have b4 := b3.trans (d4.mono b3.size)
    go_wp2_with fail
    refine (rplain_to s S 40 r _ (by unfold maxLen; omega) KS HPL).mono ?_
    rintro e w5 ⟨rfl, rfl⟩
    clear d4
    rcases ho.out with ⟨o1, rfl, rfl⟩ | ⟨o1, o2, rfl, rfl⟩ | ⟨⟨o1, o2⟩, rfl⟩
    · go_wp2_with fail
      refine (wakes12_any _ (HP.out.stays b4) (HM.out.stays b4)).mono ?_
      rintro e w6 ⟨rfl, d6⟩
      go_wp2
      go_ret
      exact ⟨rfl, b4.trans (d6.mono b4.size)⟩
    · go_wp2_with fail
      refine (wakes12_any _ (HP.out.stays b4) (HM.out.stays b4)).mono ?_
      rintro e w6 ⟨rfl, d6⟩
      go_wp2
      go_ret
      exact ⟨rfl, b4.trans (d6.mono b4.size)⟩
    · go_wp2_with fail
      refine (rshort_to off T _ o1 o2 TT).mono ?_
      rintro e w6 ⟨rfl, d6⟩
      have b6 := b4.trans (d6.mono b4.size)
      go_wp2_with fail
      refine (wakes12_any _ (HP.out.stays b6) (HM.out.stays b6)).mono ?_
      rintro e w7 ⟨rfl, d7⟩
      go_wp2
      go_ret
      exact ⟨rfl, b6.trans (d7.mono b6.size)⟩
end Fm
end Go.Proofs.YtfmlccddhphjcaaDoor
