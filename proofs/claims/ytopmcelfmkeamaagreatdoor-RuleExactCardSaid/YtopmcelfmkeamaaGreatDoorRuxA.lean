/-
  The reference's year of a rule's field.
-/
import Derived.Test.YtopmcelfmkeamaaGreatDoorBdI
import Derived.Test.YtopmcelfmkeamaaGreatDoorRefWd
import Derived.Test.YtopmcelfmkeamaaGreatDoorBdU
import Derived.Test.YtopmcelfmkeamaaGreatDoorBdR
namespace Go.Proofs.YtopmcelfmkeamaaGreatDoor
open Go.RowKit
namespace Rul
open Sol Clk
/-- What a year's field says, and of 'only' the year ahead. -/
def yrW (S : List UInt8) (f : Int) : Int × Int := if parseB S = true then (parseV S, 0) else if Wrd.rwP 4 S = 0 then (1, 0) else if Wrd.rwP 4 S = 1 then (9999, 0) else if Wrd.rwP 4 S = 2 ∧ f ≠ 0 then (f, 0) else (0, 5)
theorem wd4_rw (S : List UInt8) : (Wrd.wdP 4 S = (1, 0) ↔ Wrd.rwP 4 S = 0) ∧ (Wrd.wdP 4 S = (2, 0) ↔ Wrd.rwP 4 S = 1) ∧ (Wrd.wdP 4 S = (3, 0) ↔ Wrd.rwP 4 S = 2) := by
  have hf : Wrd.fstV 4 = 1 := by decide
  rcases Wrd.rw_wd (k := 4) (by decide) S with ⟨h1, h2⟩ | ⟨h1, h2⟩
  · rw [h1, h2]
    refine ⟨⟨fun e => ?_, fun e => ?_⟩, ⟨fun e => ?_, fun e => ?_⟩, ⟨fun e => ?_, fun e => ?_⟩⟩
    all_goals first | (injection e with a b; omega) | omega
  · rw [h2, hf]
    refine ⟨⟨fun e => ?_, fun e => ?_⟩, ⟨fun e => ?_, fun e => ?_⟩, ⟨fun e => ?_, fun e => ?_⟩⟩
    · injection e with a b; omega
    · rw [e]; rfl
    · injection e with a b; omega
    · rw [e]; rfl
    · injection e with a b; omega
    · rw [e]; rfl
theorem yr_from (S : List UInt8) : yrW S 0 = fromP S := by
  obtain ⟨h1, h2, _⟩ := wd4_rw S
  rw [yrW, fromP]
  simp only [h1, h2, ne_eq, not_true_eq_false, and_false, if_false]
theorem pb_no3 {S : List UInt8} (h : parseB S = true) : Wrd.rwP 4 S = -1 := by
  rw [parseB, Bool.and_eq_true] at h
  have h1 := of_decide_eq_true h.1
  have h2 := wd4_dig (S := S) h1.1 h.2
  rcases Wrd.rw_wd (k := 4) (by decide) S with ⟨a, _⟩ | ⟨a, b⟩
  · exact a
  · rw [h2] at b
    injection b with _ b
    exact absurd b (by decide)
/-- The end's year, as the reference goes: 'only' of nought is nought. -/
theorem yr_to (S : List UInt8) (f : Int) : (if f = 0 ∧ Wrd.rwP 4 S = 2 then ((0 : Int), (0 : Int)) else yrW S f) = toP S f := by
  obtain ⟨h1, h2, h3⟩ := wd4_rw S
  rw [toP]
  simp only [h3]
  by_cases c3 : Wrd.rwP 4 S = 2
  · have hb : parseB S = false := by
      cases e : parseB S with
      | false => rfl
      | true => rw [pb_no3 e] at c3; exact absurd c3 (by decide)
    rw [if_pos c3]
    by_cases c0 : f = 0
    · rw [if_pos ⟨c0, c3⟩, c0]
    · rw [if_neg (fun e => c0 e.1), yrW, hb, if_neg (by decide), if_neg (by omega), if_neg (by omega), if_pos ⟨c3, c0⟩]
  · have e2 : ∀ g : Int, (if Wrd.rwP 4 S = 2 ∧ g ≠ 0 then (g, (0 : Int)) else (0, 5)) = (0, 5) := fun g => if_neg (fun e => c3 e.1)
    rw [if_neg c3, if_neg (fun e => c3 e.2), ← yr_from, yrW, yrW, e2, e2]
theorem wd1_rw (S : List UInt8) : Wrd.wdP 1 S = (1, 0) ↔ Wrd.rwP 1 S = 0 := by
  have hf : Wrd.fstV 1 = 1 := by decide
  rcases Wrd.rw_wd (k := 1) (by decide) S with ⟨h1, h2⟩ | ⟨h1, h2⟩
  · rw [h1, h2]
    refine ⟨fun e => ?_, fun e => ?_⟩
    · injection e with a b; omega
    · omega
  · rw [h2, hf]
    refine ⟨fun e => ?_, fun e => ?_⟩
    · injection e with a b; omega
    · rw [e]; rfl
theorem wd2_rw (S : List UInt8) : (Wrd.rwP 2 S < 0 ∧ Wrd.wdP 2 S = (0, 7)) ∨ (0 ≤ Wrd.rwP 2 S ∧ Wrd.wdP 2 S = (Wrd.rwP 2 S + 1, 0)) := by
  have hf : Wrd.fstV 2 = 1 := by decide
  rcases Wrd.rw_wd (k := 2) (by decide) S with ⟨h1, h2⟩ | ⟨h1, h2⟩
  · exact Or.inl ⟨by omega, h2⟩
  · exact Or.inr ⟨h1, by rw [h2, hf, Int.add_comm]⟩
theorem fy {v c x y : Int} (h : (x, y) = (v, c)) : Ending.returned (.tuple #[.int .i64 x, .int .i64 y]) = .returned (.tuple #[.int .i64 v, .int .i64 c]) := by
  injection h with h1 h2
  subst h1 h2
  rfl
set_option maxHeartbeats 3200000 in
set_option maxRecDepth 100000 in
theorem ryear_to (s : ByteArray) (S : List UInt8) (f v c : Int) (w : World) (hs : s.size ≤ 1000) (hS : Hid (s.data.toList = S)) (h : Hid (yrW S f = (v, c))) :
    Calls Tryz.prog 41 #[.string s, .int .i64 f] w fun e w' => e = .returned (.tuple #[.int .i64 v, .int .i64 c]) ∧ Below w.heap.size w w' := by
  have HH := h.out
  rw [yrW] at HH
  clear h
  obtain ⟨d, hd⟩ : ∃ d, parseB S = d := ⟨_, rfl⟩
  have HD : Hid (okP S 1 18 = d) := Lib.hid hd
  have HP : Hid (parseB S = d) := Lib.hid hd
  rw [hd] at HH
  clear hd
  cases d with
  | true =>
    have HF := Lib.hid HH
    clear HH
    go_enter Tryz.func41, Tryz.ntmps41
    go_wp2_with fail
    refine ((rdig_any s S 1 18 _ (by decide) hS).mono fun _ _ ⟨he, hw⟩ => ⟨by rw [he, HD.out], hw⟩ : Calls _ _ _ _ fun e w' => e = .returned (.bool true) ∧ _ = w').mono ?_
    rintro e w1 ⟨rfl, rfl⟩
    go_wp2_with fail
    refine ((RNum.rvalue_any s _ (Lib.hid (by rw [hS.out]; exact HP.out))).mono fun _ _ ⟨he, hw⟩ => ⟨by rw [he, hS.out, ← parseV_yes HP.out], hw⟩ : Calls _ _ _ _ fun e w' => e = .returned (.int .i64 (parseV S)) ∧ _ = w').mono ?_
    rintro e w1 ⟨rfl, rfl⟩
    go_wp2
    go_ret2
    exact ⟨fy HF.out, Below.refl _ _⟩
  | false =>
    rw [if_neg (by decide)] at HH
    obtain ⟨r, hr⟩ : ∃ r, Wrd.rwP 4 S = r := ⟨_, rfl⟩
    have HR := Lib.hid hr
    rw [hr] at HH
    clear hr
    have hc : (r = 0 ∧ ((1 : Int), (0 : Int)) = (v, c)) ∨ (r = 1 ∧ ((9999 : Int), (0 : Int)) = (v, c)) ∨ (r = 2 ∧ f ≠ 0 ∧ (f, (0 : Int)) = (v, c)) ∨ (r = 2 ∧ f = 0 ∧ ((0 : Int), (5 : Int)) = (v, c)) ∨ (r ≠ 0 ∧ r ≠ 1 ∧ r ≠ 2 ∧ ((0 : Int), (5 : Int)) = (v, c)) := by
      by_cases c0 : r = 0
      · rw [if_pos c0] at HH; exact Or.inl ⟨c0, HH⟩
      · rw [if_neg c0] at HH
        by_cases c1 : r = 1
        · rw [if_pos c1] at HH; exact Or.inr (Or.inl ⟨c1, HH⟩)
        · rw [if_neg c1] at HH
          by_cases c2 : r = 2
          · by_cases c3 : f = 0
            · rw [if_neg (fun e => e.2 c3)] at HH; exact Or.inr (Or.inr (Or.inr (Or.inl ⟨c2, c3, HH⟩)))
            · rw [if_pos ⟨c2, c3⟩] at HH; exact Or.inr (Or.inr (Or.inl ⟨c2, c3, HH⟩))
          · rw [if_neg (fun e => c2 e.1)] at HH; exact Or.inr (Or.inr (Or.inr (Or.inr ⟨c0, c1, c2, HH⟩)))
    clear HH HP
    rcases hc with ⟨rfl, HH⟩ | ⟨rfl, HH⟩ | ⟨rfl, c3, HH⟩ | ⟨rfl, rfl, HH⟩ | ⟨c0, c1, c2, HH⟩
    all_goals
      have HF := Lib.hid HH
      clear HH
      try have y0 := beq_eq_false_iff_ne.2 c0
      try have y1 := beq_eq_false_iff_ne.2 c1
      try have y2 := beq_eq_false_iff_ne.2 c2
      try have y3 := beq_eq_false_iff_ne.2 c3
      try have z3 := bne_iff_ne.2 c3
      go_enter Tryz.func41, Tryz.ntmps41
      go_wp2_with fail
      refine ((rdig_any s S 1 18 _ (by decide) hS).mono fun _ _ ⟨he, hw⟩ => ⟨by rw [he, HD.out], hw⟩ : Calls _ _ _ _ fun e w' => e = .returned (.bool false) ∧ _ = w').mono ?_
      rintro e w1 ⟨rfl, rfl⟩
      go_wp2_with fail
      refine (Wrd.rword_to 4 s S _ _ (by decide) hs hS HR).mono ?_
      rintro e w1 ⟨rfl, b1⟩
      go_wp2
      go_ret2
      exact ⟨fy HF.out, b1⟩
end Rul
end Go.Proofs.YtopmcelfmkeamaaGreatDoor
