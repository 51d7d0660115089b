/-
  Package value, plain words: date-times with a comma between.
-/
import Derived.Test.YtffbkmokjcgflaaDoorValM
import Derived.Test.YtffbkmokjcgflaaDoorVal2
import Derived.Test.YtffbkmokjcgflaaDoorVTc
namespace Go.Proofs.YtffbkmokjcgflaaDoor
open Go.RowKit
namespace Val
open Sol Civ Wk
/-- What the pieces say. -/
def tmsG : Bool → Bool → List (List UInt8) → Option (List Int × Bool)
  | _, u, [] => some ([], u)
  | first, u, p :: ps => if (ptP p).2.2 ≠ 0 ∨ (first = false ∧ (ptP p).2.1 ≠ u) then none else (tmsG false (ptP p).2.1 ps).map (fun x => ((ptP p).1 :: x.1, x.2))
def timesR (S : List UInt8) : List Int × Bool × Int := match tmsG true false (cmG [] S) with | none => ([], false, 19) | some x => (x.1, x.2, 0)
/-- Times and marks, written. -/
def wr (L : List (Int × Bool)) : List (List UInt8) := L.map (fun x => tmS x.1 x.2)
def In (t : Int) : Prop := -62135596800 ≤ t ∧ t < 253402300800
theorem tms_all (u : Bool) : ∀ (L : List Int) (first : Bool) (u0 : Bool), (∀ t ∈ L, In t) → (first = true ∨ u0 = u) → L ≠ [] → tmsG first u0 (wr (L.map (fun t => (t, u)))) = some (L, u)
  | [], _, _, _, _, h => absurd rfl h
  | [t], first, u0, h, hf, _ => by
    obtain ⟨a, b⟩ := h t List.mem_cons_self
    have hp := (pt_back u a b).1
    show tmsG first u0 [tmS t u] = _
    rw [tmsG, hp]
    have hn : ¬ ((0 : Int) ≠ 0 ∨ (first = false ∧ u ≠ u0)) := fun e => by
      rcases e with e | ⟨e1, e2⟩
      · exact e rfl
      · rcases hf with hf | hf
        · rw [hf] at e1; cases e1
        · exact e2 hf.symm
    rw [if_neg hn]
    rfl
  | t :: t2 :: L, first, u0, h, hf, _ => by
    obtain ⟨a, b⟩ := h t List.mem_cons_self
    have hp := (pt_back u a b).1
    show tmsG first u0 (tmS t u :: wr ((t2 :: L).map (fun t => (t, u)))) = _
    rw [tmsG, hp]
    have hn : ¬ ((0 : Int) ≠ 0 ∨ (first = false ∧ u ≠ u0)) := fun e => by
      rcases e with e | ⟨e1, e2⟩
      · exact e rfl
      · rcases hf with hf | hf
        · rw [hf] at e1; cases e1
        · exact e2 hf.symm
    rw [if_neg hn, tms_all u (t2 :: L) false u (fun x hx => h x (List.mem_cons_of_mem _ hx)) (Or.inr rfl) (by simp)]
    rfl
/-- Two marks side by side that are unlike. -/
theorem tms_none : ∀ (A : List (Int × Bool)) (first u0 : Bool) (x y : Int × Bool) (B : List (List UInt8)), In x.1 → In y.1 → x.2 ≠ y.2 → tmsG first u0 (wr A ++ tmS x.1 x.2 :: tmS y.1 y.2 :: B) = none
  | [], first, u0, x, y, B, hx, hy, hne => by
    have h1 := (pt_back x.2 hx.1 hx.2).1
    have h2 := (pt_back y.2 hy.1 hy.2).1
    show tmsG first u0 (tmS x.1 x.2 :: tmS y.1 y.2 :: B) = none
    rw [tmsG]
    by_cases hc : (ptP (tmS x.1 x.2)).2.2 ≠ 0 ∨ (first = false ∧ (ptP (tmS x.1 x.2)).2.1 ≠ u0)
    · rw [if_pos hc]
    · rw [if_neg hc, tmsG, h2, h1]
      rw [if_pos (Or.inr ⟨rfl, fun e => hne e.symm⟩)]
      rfl
  | a :: A, first, u0, x, y, B, hx, hy, hne => by
    show tmsG first u0 (tmS a.1 a.2 :: (wr A ++ tmS x.1 x.2 :: tmS y.1 y.2 :: B)) = none
    rw [tmsG, tms_none A _ _ x y B hx hy hne]
    split <;> rfl
/-- A piece that is none at the end. -/
theorem tms_bad : ∀ (A : List (List UInt8)) (first u0 : Bool), tmsG first u0 (A ++ [[]]) = none
  | [], first, u0 => by
    show tmsG first u0 [[]] = none
    rw [tmsG, if_pos (Or.inl (by decide +kernel))]
  | a :: A, first, u0 => by
    rw [List.cons_append, tmsG, tms_bad A]
    split <;> rfl
theorem dig_ne {c : UInt8} (h : isDig c = true) : c ≠ 44 := fun e => by subst e; exact absurd h (by decide)
theorem tm_no44 {t : Int} (u : Bool) (h0 : In t) : ∀ c ∈ tmS t u, c ≠ 44 := by
  obtain ⟨a0, a1, a2, a3, a4, a5, a6, _⟩ := tm_parts h0.1 h0.2
  have q0 := Int.emod_nonneg t (show (86400 : Int) ≠ 0 by decide)
  have key : ∀ (h : Int) (d : Nat), 0 ≤ h → d ≤ 20 → ∀ c ∈ textL h d, c ≠ 44 := fun h d hh hd c hc => dig_ne (List.all_eq_true.1 (tx_all hh hd).1 c hc)
  intro c hc
  rw [tmS, if_pos a0, tmL, tmT] at hc
  simp only [List.mem_append] at hc
  rcases hc with ((((((h | h) | h) | h) | h) | h) | h) | h
  · exact key _ 4 (by omega) (by decide) c h
  · exact key _ 2 (by omega) (by decide) c h
  · exact key _ 2 (by omega) (by decide) c h
  · simp at h; subst h; decide
  · exact key _ 2 (by omega) (by decide) c h
  · exact key _ 2 (by omega) (by decide) c h
  · exact key _ 2 (by omega) (by decide) c h
  · cases u with
    | true => simp at h; subst h; decide
    | false => simp at h
end Val
end Go.Proofs.YtffbkmokjcgflaaDoor
