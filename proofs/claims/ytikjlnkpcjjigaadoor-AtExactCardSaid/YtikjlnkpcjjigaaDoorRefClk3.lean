/-
  Contracts of the reference's JoinDay and ClockText.
-/
import Derived.Test.YtikjlnkpcjjigaaDoorRefClk2
import Derived.Test.YtikjlnkpcjjigaaDoorRefNum3
import Derived.Test.YtikjlnkpcjjigaaDoorRefCiv
namespace Go.Proofs.YtikjlnkpcjjigaaDoor
open Go.RowKit
namespace Clk
open Sol
theorem in_to (n lo hi : Int) (b : Bool) (w : World) (h : Hid (decide (lo ≤ n ∧ n ≤ hi) = b)) :
    Calls Tryd.prog 21 #[.int .i64 n, .int .i64 lo, .int .i64 hi] w fun e w' => e = .returned (.bool b) ∧ w = w' :=
  (Civ.rin_any n lo hi w).mono fun _ _ ⟨he, hw⟩ => ⟨by rw [he, h.out], hw⟩
theorem bnd_to (n : Int) (b : Bool) (w : World) (h : Hid (inB n = b)) :
    Calls Tryd.prog 20 #[.int .i64 n] w fun e w' => e = .returned (.bool b) ∧ w = w' :=
  (RNum.rbound_any n w).mono fun _ _ ⟨he, hw⟩ => ⟨by rw [he, h.out], hw⟩

theorem text_01 {h : Int} (h0 : 0 ≤ h) : textL h 0 = textL h 1 := by
  rw [textL_in h0 (by decide) (by decide), textL_in h0 (by decide) (by decide)]
  have := decDigits_pos h.toNat
  rw [padL_short (by simp), padL_short (by show 1 ≤ _; omega)]
theorem rtext_to (n d : Int) (T : List UInt8) (w : World) (n1 : -9223372036854775808 ≤ n) (n2 : n ≤ 9223372036854775807) (d1 : -9223372036854775808 ≤ d) (d2 : d ≤ 9223372036854775807) (h : Hid (textL n d = T)) :
    Calls Tryd.prog 40 #[.int .i64 n, .int .i64 d] w fun e w' => e = .returned (.string ⟨T.toArray⟩) ∧ Below w.heap.size w w' :=
  (RNum.rtext_any n d w n1 n2 d1 d2).mono fun _ _ ⟨he, hw⟩ => ⟨by rw [he, h.out], hw⟩
theorem ct_body {m : Int} (h0 : 0 ≤ m) : ctL m = body m := by rw [ctL, if_neg (by omega)]
theorem ct_nbody {m : Int} (h0 : 0 < m) : ctL (-m) = 45 :: body m := by rw [ctL, if_pos (by omega), Int.neg_neg]
set_option maxRecDepth 100000 in
set_option maxHeartbeats 1600000 in
theorem rctext_pos (m : Int) (w : World) (h0 : 0 ≤ m) (h1 : m ≤ 345600) :
    Calls Tryd.prog 48 #[.int .i64 m] w fun e w' => e = .returned (.string ⟨(ctL m).toArray⟩) ∧ Below w.heap.size w w' := by
  have H := Lib.hid (ct_body h0)
  have hb : body m = textL (m / 3600) 1 ++ (if m % 3600 = 0 then [] else 58 :: textL (m / 60 % 60) 2) ++ (if m % 60 = 0 then [] else 58 :: textL (m % 60) 2) := rfl
  rw [← text_01 (h := m / 3600) (by omega)] at hb
  obtain ⟨T1, t1⟩ : ∃ T, textL (m / 3600) 0 = T := ⟨_, rfl⟩
  obtain ⟨T2, t2⟩ : ∃ T, textL (m / 60 % 60) 2 = T := ⟨_, rfl⟩
  obtain ⟨T3, t3⟩ : ∃ T, textL (m % 60) 2 = T := ⟨_, rfl⟩
  rw [t1, t2, t3] at hb
  have l1 : T1.length ≤ 2 := by rw [← t1, text_01 (by omega)]; exact (text1 (h := m / 3600) (by omega) (by omega)).2.2.1
  have l2 : T2.length ≤ 2 := by rw [← t2, (text2 (h := m / 60 % 60) (by omega) (by omega)).2.1]; exact Nat.le_refl _
  have l3 : T3.length ≤ 2 := by rw [← t3, (text2 (h := m % 60) (by omega) (by omega)).2.1]; exact Nat.le_refl _
  have Q1 := Lib.hid t1
  have Q2 := Lib.hid t2
  have Q3 := Lib.hid t3
  clear t1 t2 t3
  by_cases e1 : m % 3600 = 0
  · have e2 : m % 60 = 0 := by omega
    rw [if_pos e1, if_pos e2, List.append_nil, List.append_nil] at hb
    have HB := Lib.hid hb
    clear hb
    go_enter Tryd.func48, Tryd.ntmps48
    go_wp2_with fail
    refine (rtext_to _ _ T1 _ (by omega) (by omega) (by omega) (by omega) Q1).mono ?_
    rintro e w1 ⟨rfl, hb1⟩
    go_wp2
    go_ret
    exact ⟨ret_s (bytes_eq (by rw [H.out, HB.out]; simp)), hb1⟩
  · rw [if_neg e1] at hb
    have b1 : (m % 3600 != 0) = true := bne_iff_ne.2 e1
    by_cases e2 : m % 60 = 0
    · rw [if_pos e2, List.append_nil] at hb
      have HB := Lib.hid hb
      clear hb e1
      go_enter Tryd.func48, Tryd.ntmps48
      go_wp2_with fail
      refine (rtext_to _ _ T1 _ (by omega) (by omega) (by omega) (by omega) Q1).mono ?_
      rintro e w1 ⟨rfl, hb1⟩
      go_wp2_with fail
      refine (rtext_to _ _ T2 _ (by omega) (by omega) (by omega) (by omega) Q2).mono ?_
      rintro e w2 ⟨rfl, hb2⟩
      have hb12 := hb1.trans (hb2.mono hb1.size)
      go_wp2
      go_ret
      exact ⟨ret_s (bytes_eq (by rw [H.out, HB.out]; simp)), hb12⟩
    · rw [if_neg e2] at hb
      have b2 : (m % 60 != 0) = true := bne_iff_ne.2 e2
      have HB := Lib.hid hb
      clear hb e1 e2
      go_enter Tryd.func48, Tryd.ntmps48
      go_wp2_with fail
      refine (rtext_to _ _ T1 _ (by omega) (by omega) (by omega) (by omega) Q1).mono ?_
      rintro e w1 ⟨rfl, hb1⟩
      go_wp2_with fail
      refine (rtext_to _ _ T2 _ (by omega) (by omega) (by omega) (by omega) Q2).mono ?_
      rintro e w2 ⟨rfl, hb2⟩
      have hb12 := hb1.trans (hb2.mono hb1.size)
      go_wp2_with fail
      refine (rtext_to _ _ T3 _ (by omega) (by omega) (by omega) (by omega) Q3).mono ?_
      rintro e w3 ⟨rfl, hb3⟩
      have hb13 := hb12.trans (hb3.mono hb12.size)
      go_wp2
      go_ret
      exact ⟨ret_s (bytes_eq (by rw [H.out, HB.out]; simp)), hb13⟩
set_option maxRecDepth 100000 in
set_option maxHeartbeats 1600000 in
theorem rctext_neg (m : Int) (w : World) (h0 : 0 < m) (h1 : m ≤ 345600) :
    Calls Tryd.prog 48 #[.int .i64 (-m)] w fun e w' => e = .returned (.string ⟨(ctL (-m)).toArray⟩) ∧ Below w.heap.size w w' := by
  have H := Lib.hid (ct_nbody h0)
  have hb : body m = textL (m / 3600) 1 ++ (if m % 3600 = 0 then [] else 58 :: textL (m / 60 % 60) 2) ++ (if m % 60 = 0 then [] else 58 :: textL (m % 60) 2) := rfl
  rw [← text_01 (h := m / 3600) (by omega)] at hb
  obtain ⟨T1, t1⟩ : ∃ T, textL (m / 3600) 0 = T := ⟨_, rfl⟩
  obtain ⟨T2, t2⟩ : ∃ T, textL (m / 60 % 60) 2 = T := ⟨_, rfl⟩
  obtain ⟨T3, t3⟩ : ∃ T, textL (m % 60) 2 = T := ⟨_, rfl⟩
  rw [t1, t2, t3] at hb
  have l1 : T1.length ≤ 2 := by rw [← t1, text_01 (by omega)]; exact (text1 (h := m / 3600) (by omega) (by omega)).2.2.1
  have l2 : T2.length ≤ 2 := by rw [← t2, (text2 (h := m / 60 % 60) (by omega) (by omega)).2.1]; exact Nat.le_refl _
  have l3 : T3.length ≤ 2 := by rw [← t3, (text2 (h := m % 60) (by omega) (by omega)).2.1]; exact Nat.le_refl _
  have Q1 := Lib.hid t1
  have Q2 := Lib.hid t2
  have Q3 := Lib.hid t3
  clear t1 t2 t3
  by_cases e1 : m % 3600 = 0
  · have e2 : m % 60 = 0 := by omega
    rw [if_pos e1, if_pos e2, List.append_nil, List.append_nil] at hb
    have HB := Lib.hid hb
    clear hb
    go_enter Tryd.func48, Tryd.ntmps48
    go_wp2_with fail
    refine (rtext_to _ _ T1 _ (by omega) (by omega) (by omega) (by omega) Q1).mono ?_
    rintro e w1 ⟨rfl, hb1⟩
    go_wp2
    go_ret
    exact ⟨ret_s (bytes_eq (by rw [H.out, HB.out]; simp)), hb1⟩
  · rw [if_neg e1] at hb
    have b1 : (m % 3600 != 0) = true := bne_iff_ne.2 e1
    by_cases e2 : m % 60 = 0
    · rw [if_pos e2, List.append_nil] at hb
      have HB := Lib.hid hb
      clear hb e1
      go_enter Tryd.func48, Tryd.ntmps48
      go_wp2_with fail
      refine (rtext_to _ _ T1 _ (by omega) (by omega) (by omega) (by omega) Q1).mono ?_
      rintro e w1 ⟨rfl, hb1⟩
      go_wp2_with fail
      refine (rtext_to _ _ T2 _ (by omega) (by omega) (by omega) (by omega) Q2).mono ?_
      rintro e w2 ⟨rfl, hb2⟩
      have hb12 := hb1.trans (hb2.mono hb1.size)
      go_wp2
      go_ret
      exact ⟨ret_s (bytes_eq (by rw [H.out, HB.out]; simp)), hb12⟩
    · rw [if_neg e2] at hb
      have b2 : (m % 60 != 0) = true := bne_iff_ne.2 e2
      have HB := Lib.hid hb
      clear hb e1 e2
      go_enter Tryd.func48, Tryd.ntmps48
      go_wp2_with fail
      refine (rtext_to _ _ T1 _ (by omega) (by omega) (by omega) (by omega) Q1).mono ?_
      rintro e w1 ⟨rfl, hb1⟩
      go_wp2_with fail
      refine (rtext_to _ _ T2 _ (by omega) (by omega) (by omega) (by omega) Q2).mono ?_
      rintro e w2 ⟨rfl, hb2⟩
      have hb12 := hb1.trans (hb2.mono hb1.size)
      go_wp2_with fail
      refine (rtext_to _ _ T3 _ (by omega) (by omega) (by omega) (by omega) Q3).mono ?_
      rintro e w3 ⟨rfl, hb3⟩
      have hb13 := hb12.trans (hb3.mono hb12.size)
      go_wp2
      go_ret
      exact ⟨ret_s (bytes_eq (by rw [H.out, HB.out]; simp)), hb13⟩
theorem rctext_to (n : Int) (T : List UInt8) (w : World) (h0 : -345600 ≤ n) (h1 : n ≤ 345600) (h : Hid (ctL n = T)) :
    Calls Tryd.prog 48 #[.int .i64 n] w fun e w' => e = .returned (.string ⟨T.toArray⟩) ∧ Below w.heap.size w w' := by
  have M : Calls Tryd.prog 48 #[.int .i64 n] w fun e w' => e = .returned (.string ⟨(ctL n).toArray⟩) ∧ Below w.heap.size w w' := by
    by_cases h3 : n < 0
    · obtain ⟨m, rfl⟩ : ∃ m, n = -m := ⟨-n, by omega⟩
      exact rctext_neg m w (by omega) (by omega)
    · exact rctext_pos n w (by omega) (by omega)
  rw [h.out] at M
  exact M
end Clk
end Go.Proofs.YtikjlnkpcjjigaaDoor
