/-
  Plain words: what ParseRule of the reference says, as a chain of its own tests.
-/
import Derived.Test.YtopmcelfmkeamaaGreatDoorRuxA
namespace Go.Proofs.YtopmcelfmkeamaaGreatDoor
open Go.RowKit
namespace Rul
open Sol Clk
def rpS (v0 : Int) (p4 : Bool) (b2 b3 v5 b6 : Int) (b7 b8 ck : Bool) (x : RV) : Int × RV :=
  if v0 ≠ 0 then (7, RV.zero) else if p4 = false then (10, RV.zero) else if b2 ≠ 0 then (b2, RV.zero) else if b3 ≠ 0 then (b3, RV.zero) else if v5 < 0 then (7, RV.zero)
  else if b6 ≠ 0 then (b6, RV.zero) else if b7 = false then (9, RV.zero) else if b8 = false then (5, RV.zero) else if ck = false then (10, RV.zero) else (0, x)
theorem sv_len (S : List UInt8) : (svL S).length ≤ S.length := by
  unfold svL
  split
  · split
    · simp
    · exact Nat.le_refl _
  · exact Nat.le_refl _
theorem from_nn {S : List UInt8} {a : Int} (h : fromP S = (a, 0)) : 0 ≤ a := by
  unfold fromP at h
  split at h
  · rename_i hp
    injection h with h _
    rw [← h, parseV_yes hp]
    rw [parseB, Bool.and_eq_true] at hp
    exact (digVal_bd _ hp.2).1
  · split at h
    · injection h with h _; omega
    · split at h
      · injection h with h _; omega
      · injection h with _ h; omega
theorem ruP_ref {f0 f2 f3 f4 f5 f6 f7 f8 f9 S8 lt : List UInt8} (f1 : List UInt8) {v0 a2 b2 a3 b3 v5 a6 v6 d6 b6 a7 k7 a8 : Int} {p4 b7 b8 ck : Bool} (hv0 : Wrd.rwP 1 f0 = v0) (hp4 : decide (f4 = [45]) = p4) (h2 : fromP f2 = (a2, b2)) (hT : toP f3 a2 = (a3, b3))
    (hv5 : Wrd.rwP 2 f5 = v5) (hO : Onf.onP f6 = (a6, v6, d6, b6)) (hA1 : Atf.apV f7 = a7) (hA2 : Atf.apKk f7 = k7) (hA3 : clB (Atf.apL f7) = b7) (hS8 : svL f8 = S8) (hS1 : clV S8 = a8) (hS2 : clB S8 = b8)
    (hlt : (if f9 = [45] then [] else f9) = lt) (hck : chkB ⟨f1, a2, a3, v5 + 1, a6, v6, d6, a7, k7, a8, lt⟩ = ck) :
    ruP [f0, f1, f2, f3, f4, f5, f6, f7, f8, f9] = rpS v0 p4 b2 b3 v5 b6 b7 b8 ck ⟨f1, a2, a3, v5 + 1, a6, v6, d6, a7, k7, a8, lt⟩ := by
  have w1 := wd1_rw f0
  rw [hv0] at w1
  have w5 := wd2_rw f5
  rw [hv5] at w5
  unfold rpS
  by_cases c0 : v0 = 0
  · have e0 := w1.2 c0
    rw [if_neg (fun q => q c0)]
    by_cases c4 : f4 = [45]
    · have : p4 = true := by rw [← hp4, decide_eq_true c4]
      subst this
      rw [if_neg (by decide)]
      by_cases c2 : b2 = 0
      · rw [if_neg (fun q => q c2)]
        by_cases c3 : b3 = 0
        · rw [if_neg (fun q => q c3)]
          rcases w5 with ⟨c5, e5⟩ | ⟨c5, e5⟩
          · rw [if_pos c5]
            have : ruX [f0, f1, f2, f3, f4, f5, f6, f7, f8, f9] = (7, RV.zero) := by
              simp only [ruX, e0, c4, h2, hT, e5, c2, c3]
              simp
            rw [ruP, this]
            simp
          · rw [if_neg (by omega)]
            by_cases c6 : b6 = 0
            · rw [if_neg (fun q => q c6)]
              cases b7 with
              | false =>
                rw [if_pos rfl]
                have : ruX [f0, f1, f2, f3, f4, f5, f6, f7, f8, f9] = (9, RV.zero) := by
                  simp only [ruX, e0, c4, h2, hT, e5, c2, c3, hO, c6, Atf.apE, hA3]
                  simp
                rw [ruP, this]
                simp
              | true =>
                rw [if_neg (by decide)]
                cases b8 with
                | false =>
                  rw [if_pos rfl]
                  have : ruX [f0, f1, f2, f3, f4, f5, f6, f7, f8, f9] = (5, RV.zero) := by
                    simp only [ruX, e0, c4, h2, hT, e5, c2, c3, hO, c6, Atf.apE, hA3, hS8, clE, hS2]
                    simp
                  rw [ruP, this]
                  simp
                | true =>
                  rw [if_neg (by decide)]
                  have : ruX [f0, f1, f2, f3, f4, f5, f6, f7, f8, f9] = (0, ⟨f1, a2, a3, v5 + 1, a6, v6, d6, a7, k7, a8, lt⟩) := by
                    simp only [ruX, e0, c4, h2, hT, e5, c2, c3, hO, c6, Atf.apE, hA3, hS8, clE, hS2, hA1, hA2, hS1, hlt]
                    simp
                  rw [ruP, this]
                  simp only [ne_eq, not_true_eq_false, if_false, hck]
                  cases ck <;> rfl
            · rw [if_pos c6]
              have : ruX [f0, f1, f2, f3, f4, f5, f6, f7, f8, f9] = (b6, RV.zero) := by
                simp only [ruX, e0, c4, h2, hT, e5, c2, c3, hO]
                simp [c6]
              rw [ruP, this]
              simp [c6]
        · rw [if_pos c3]
          have : ruX [f0, f1, f2, f3, f4, f5, f6, f7, f8, f9] = (b3, RV.zero) := by
            simp only [ruX, e0, c4, h2, hT, c2]
            simp [c3]
          rw [ruP, this]
          simp [c3]
      · rw [if_pos c2]
        have : ruX [f0, f1, f2, f3, f4, f5, f6, f7, f8, f9] = (b2, RV.zero) := by
          simp only [ruX, e0, c4, h2]
          simp [c2]
        rw [ruP, this]
        simp [c2]
    · have : p4 = false := by rw [← hp4, decide_eq_false c4]
      subst this
      rw [if_pos rfl]
      have : ruX [f0, f1, f2, f3, f4, f5, f6, f7, f8, f9] = (10, RV.zero) := by
        simp only [ruX, e0]
        simp [c4]
      rw [ruP, this]
      simp
  · rw [if_pos c0]
    have e0 : ¬ Wrd.wdP 1 f0 = (1, 0) := fun q => c0 (w1.1 q)
    have : ruX [f0, f1, f2, f3, f4, f5, f6, f7, f8, f9] = (7, RV.zero) := by
      simp only [ruX]
      rw [if_pos e0]
    rw [ruP, this]
    simp
end Rul
end Go.Proofs.YtopmcelfmkeamaaGreatDoor
