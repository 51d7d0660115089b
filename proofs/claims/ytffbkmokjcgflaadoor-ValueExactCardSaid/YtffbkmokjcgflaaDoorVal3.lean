/-
  Contracts of package value: ParseOffset, Offset.
-/
import Derived.Test.YtffbkmokjcgflaaDoorVal2
namespace Go.Proofs.YtffbkmokjcgflaaDoor
open Go.RowKit
namespace Val
open Sol Civ Wk
theorem cutpre_to (s p : ByteArray) (S P X : List UInt8) (b : Bool) (w : World) (hS : Hid (s.data.toList = S)) (hP : Hid (p.data.toList = P)) (h : Hid (Lib.trimPrefix S P = X ∧ Lib.hasPrefix S P = b)) :
    Calls Tryd.prog 24 #[.string s, .string p] w fun e w' => e = .returned (.tuple #[.string ⟨X.toArray⟩, .bool b]) ∧ w = w' :=
  (Tryd.strings_CutPrefix s p w).mono fun _ _ ⟨he, hw⟩ => ⟨by rw [he, hS.out, hP.out, h.out.1, h.out.2], hw.symm⟩
/-- The digits behind the sign; whether there is one. -/
def poX (S : List UInt8) : List UInt8 := if Lib.hasPrefix S [45] = true then Lib.trimPrefix S [45] else Lib.trimPrefix S [43]
def poS (S : List UInt8) : Bool := Lib.hasPrefix S [45] || Lib.hasPrefix S [43]
def poY (X : List UInt8) : List UInt8 := if X.length = 4 then X ++ [48, 48] else X
def poD (b : Bool) (Y : List UInt8) : Int × Int :=
  if Y.length = 6 ∧ sxB Y = true ∧ ¬ (b = true ∧ sxV Y = 0) then (if b = true then -sxV Y else sxV Y, 0) else (0, 19)
def poP (S : List UInt8) : Int × Int := if poS S = true then poD (Lib.hasPrefix S [45]) (poY (poX S)) else (0, 19)
theorem ret_ii {a a' c c' : Int} (h1 : a = a') (h3 : c = c') : Ending.returned (.tuple #[.int .i64 a, .int .i64 c]) = .returned (.tuple #[.int .i64 a', .int .i64 c']) := by rw [h1, h3]
set_option maxHeartbeats 6400000 in
set_option maxRecDepth 100000 in
theorem poff_to (s : ByteArray) (S : List UInt8) (v c : Int) (w : World) (hs : s.size ≤ 1000) (hS : Hid (s.data.toList = S)) (h : Hid (poP S = (v, c))) :
    Calls Tryd.prog 7 #[.string s] w fun e w' => e = .returned (.tuple #[.int .i64 v, .int .i64 c]) ∧ w = w' := by
  have HH := h.out
  clear h
  have hsl : S.length ≤ 1000 := by rw [← hS.out]; simpa using hs
  obtain ⟨X1, hX1⟩ : ∃ x, Lib.trimPrefix S [45] = x := ⟨_, rfl⟩
  obtain ⟨X2, hX2⟩ : ∃ x, Lib.trimPrefix S [43] = x := ⟨_, rfl⟩
  obtain ⟨b, hb⟩ : ∃ x, Lib.hasPrefix S [45] = x := ⟨_, rfl⟩
  obtain ⟨q, hq⟩ : ∃ x, Lib.hasPrefix S [43] = x := ⟨_, rfl⟩
  have hl1 : X1.length ≤ 1000 := by rw [← hX1]; unfold Lib.trimPrefix; split <;> (try rw [List.length_drop]) <;> omega
  have hl2 : X2.length ≤ 1000 := by rw [← hX2]; unfold Lib.trimPrefix; split <;> (try rw [List.length_drop]) <;> omega
  have C1 := Lib.hid (And.intro hX1 hb)
  have C2 := Lib.hid (And.intro hX2 hq)
  rw [poP, poS, poX, hX1, hX2, hb, hq] at HH
  clear hX1 hX2 hb hq hs
  have hsg : (b = false ∧ q = false) ∨ ∃ X, X.length ≤ 1000 ∧ poD b (poY X) = (v, c) ∧ ((b = true ∧ X = X1) ∨ (b = false ∧ q = true ∧ X = X2)) := by
    cases b with
    | true => exact Or.inr ⟨X1, hl1, HH, Or.inl ⟨rfl, rfl⟩⟩
    | false =>
      cases q with
      | false => exact Or.inl ⟨rfl, rfl⟩
      | true => exact Or.inr ⟨X2, hl2, HH, Or.inr ⟨rfl, rfl, rfl⟩⟩
  clear hl1 hl2
  rcases hsg with ⟨rfl, rfl⟩ | ⟨X, hX, HD, hsg⟩
  · have E : v = 0 ∧ c = 19 := by simp at HH; exact ⟨HH.1.symm, HH.2.symm⟩
    obtain ⟨rfl, rfl⟩ := E
    clear HH
    go_enter Tryd.func7, Tryd.ntmps7
    go_wp2_with fail
    refine (cutpre_to s _ S [45] X1 false _ hS (Lib.hid rfl) C1).mono ?_
    rintro e w1 ⟨rfl, rfl⟩
    go_wp2_with fail
    refine (cutpre_to s _ S [43] X2 false _ hS (Lib.hid rfl) C2).mono ?_
    rintro e w1 ⟨rfl, rfl⟩
    go_wp2
    go_ret2
    exact ⟨rfl, rfl⟩
  · clear HH
    have hXs : (⟨X.toArray⟩ : ByteArray).size = X.length := rfl
    obtain ⟨Y, hY⟩ : ∃ y, poY X = y := ⟨_, rfl⟩
    rw [hY] at HD
    have hYl : (X.length = 4 ∧ Y = X ++ [48, 48] ∧ Y.length = 6) ∨ (X.length = 6 ∧ Y = X ∧ Y.length = 6) ∨ (X.length ≠ 4 ∧ X.length ≠ 6 ∧ Y.length ≠ 6) := by
      rw [← hY, poY]
      by_cases h4 : X.length = 4
      · rw [if_pos h4]; exact Or.inl ⟨h4, rfl, by simp [h4]⟩
      · rw [if_neg h4]
        by_cases h6 : X.length = 6
        · exact Or.inr (Or.inl ⟨h6, rfl, h6⟩)
        · exact Or.inr (Or.inr ⟨h4, h6, h6⟩)
    clear hY
    rcases hYl with ⟨h4, hY, h6⟩ | ⟨h4, hY, h6⟩ | ⟨h4, h6, hY⟩
    case inr.inr =>
      have E : v = 0 ∧ c = 19 := by rw [poD, if_neg (fun x => hY x.1)] at HD; simp at HD; exact ⟨HD.1.symm, HD.2.symm⟩
      obtain ⟨rfl, rfl⟩ := E
      have k1 : ((X.length : Int) == 4) = false := beq_eq_false_iff_ne.2 (by omega)
      have k2 : ((X.length : Int) == 6) = false := beq_eq_false_iff_ne.2 (by omega)
      have k3 : ((X.length : Int) != 6) = true := by simp [bne, k2]
      clear HD hY
      rcases hsg with ⟨rfl, rfl⟩ | ⟨rfl, rfl, rfl⟩
      all_goals
        go_enter Tryd.func7, Tryd.ntmps7
        go_wp2_with fail
        refine (cutpre_to s _ S [45] _ _ _ hS (Lib.hid rfl) C1).mono ?_
        rintro e w1 ⟨rfl, rfl⟩
        try
          (go_wp2_with fail
           refine (cutpre_to s _ S [43] _ true _ hS (Lib.hid rfl) C2).mono ?_
           rintro e w1 ⟨rfl, rfl⟩)
        go_wp2
        go_ret2
        exact ⟨rfl, rfl⟩
    all_goals
      obtain ⟨z, hz⟩ : ∃ x, sxV Y = x := ⟨_, rfl⟩
      obtain ⟨g, hg⟩ : ∃ x, sxB Y = x := ⟨_, rfl⟩
      have hzb := sx_bd (S := Y)
      have PX := Lib.hid (And.intro hz hg)
      rw [hz] at hzb
      rw [poD, hz, hg] at HD
      clear hz hg
      have hcase : (g = false ∧ v = 0 ∧ c = 19) ∨ (g = true ∧ ((b = true ∧ z = 0 ∧ v = 0 ∧ c = 19) ∨ (b = true ∧ 0 < z ∧ v = -z ∧ c = 0) ∨ (b = false ∧ v = z ∧ c = 0))) := by
        cases g with
        | false => rw [if_neg (fun x => by cases x.2.1)] at HD; simp at HD; exact Or.inl ⟨rfl, HD.1.symm, HD.2.symm⟩
        | true =>
          refine Or.inr ⟨rfl, ?_⟩
          cases b with
          | false => rw [if_pos ⟨h6, rfl, fun x => by cases x.1⟩] at HD; simp at HD; exact Or.inr (Or.inr ⟨rfl, HD.1.symm, HD.2.symm⟩)
          | true =>
            by_cases h0 : z = 0
            · rw [if_neg (fun x => x.2.2 ⟨rfl, h0⟩)] at HD; simp at HD; exact Or.inl ⟨rfl, h0, HD.1.symm, HD.2.symm⟩
            · rw [if_pos ⟨h6, rfl, fun x => h0 x.2⟩] at HD; simp at HD; exact Or.inr (Or.inl ⟨rfl, by omega, HD.1.symm, HD.2.symm⟩)
      clear HD
      obtain ⟨z0, z1⟩ := hzb
      have Z4 : Hid (((⟨X.toArray⟩ : ByteArray) ++ ⟨#[48, 48]⟩).size = X.length + 2) := Lib.hid (by simp [ByteArray.size_append]; rfl)
      have E4 : Hid (((⟨X.toArray⟩ : ByteArray) ++ ⟨#[48, 48]⟩).data.toList = X ++ [48, 48]) := Lib.hid (by simp)
      have k1 : ((X.length : Int) == 4) = decide (X.length = 4) := by by_cases h : X.length = 4 <;> simp [h] <;> omega
      rcases hsg with ⟨rfl, rfl⟩ | ⟨rfl, rfl, rfl⟩
      all_goals
        rcases hcase with ⟨rfl, rfl, rfl⟩ | ⟨rfl, ⟨hb, rfl, rfl, rfl⟩ | ⟨hb, hz, rfl, rfl⟩ | ⟨hb, rfl, rfl⟩⟩
        all_goals
          first
            | (cases hb; done)
            | (try clear hb
               have Z5 : Hid (Y.length = 6) := Lib.hid h6
               go_enter Tryd.func7, Tryd.ntmps7
               go_wp2_with fail
               refine (cutpre_to s _ S [45] _ _ _ hS (Lib.hid rfl) C1).mono ?_
               rintro e w1 ⟨rfl, rfl⟩
               try
                 (go_wp2_with fail
                  refine (cutpre_to s _ S [43] _ true _ hS (Lib.hid rfl) C2).mono ?_
                  rintro e w1 ⟨rfl, rfl⟩)
               go_wp2_with fail
               first
                 | refine (sixty_to _ Y _ _ _ (by rw [Z4.out]; omega) (Lib.hid (by rw [E4.out, hY])) PX).mono ?_
                 | refine (sixty_to _ Y _ _ _ (by exact h4) (Lib.hid (by rw [hY])) PX).mono ?_
               rintro e w1 ⟨rfl, rfl⟩
               go_wp2
               go_ret2
               exact ⟨rfl, rfl⟩)
end Val
end Go.Proofs.YtffbkmokjcgflaaDoor
