/-
  The reference's in, Letter, Short. (Written by gen/gen_fmx1.py.)
-/
import Derived.Test.YtfmlccddhphjcaaDoorFmQ
import Derived.Test.YtfmlccddhphjcaaDoorRefNum3
namespace Go.Proofs.YtfmlccddhphjcaaDoor
open Go.RowKit
namespace Fm
open Sol
theorem rtx_to (n d : Int) (T : List UInt8) (w : World) (n1 : -9223372036854775808 ≤ n) (n2 : n ≤ 9223372036854775807) (d1 : -9223372036854775808 ≤ d) (d2 : d ≤ 9223372036854775807) (h : Hid (textL n d = T)) :
    Calls Tryd.prog 24 #[.int .i64 n, .int .i64 d] w fun e w' => e = .returned (.string ⟨T.toArray⟩) ∧ Below w.heap.size w w' :=
  (RNum.rtext_any n d w n1 n2 d1 d2).mono fun _ _ ⟨he, hw⟩ => ⟨by rw [he, h.out], hw⟩
set_option maxHeartbeats 3200000 in
set_option maxRecDepth 100000 in
theorem rshort_pos (m : Int) (w : World) (m0 : 0 ≤ m) (m1 : m < 172800)  :
    Calls Tryd.prog 13 #[.int .i64 (m)] w fun e w' => e = .returned (.string ⟨(43 :: shB m).toArray⟩) ∧ Below w.heap.size w w' := by
  have hb : shB m = textL (m / 3600) 2 ++ ((if m % 3600 = 0 then [] else textL (m / 60 % 60) 2) ++ (if m % 60 = 0 then [] else textL (m % 60) 2)) := rfl
  obtain ⟨T1, q1⟩ : ∃ T, textL (m / 3600) 2 = T := ⟨_, rfl⟩
  have l1 : T1.length = 2 := by rw [← q1]; exact l2 (by omega) (by omega)
  obtain ⟨T2, q2⟩ : ∃ T, textL (m / 60 % 60) 2 = T := ⟨_, rfl⟩
  have k2 : T2.length = 2 := by rw [← q2]; exact l2 (by omega) (by omega)
  obtain ⟨T3, q3⟩ : ∃ T, textL (m % 60) 2 = T := ⟨_, rfl⟩
  have l3 : T3.length = 2 := by rw [← q3]; exact l2 (by omega) (by omega)
  rw [q1, q2, q3] at hb
  have Q1 := Lib.hid q1
  have Q2 := Lib.hid q2
  have Q3 := Lib.hid q3
  clear q1 q2 q3
  have r1 : IntKind.i64.wrap (m.tdiv 3600) = m / 3600 := IntWalk.i64_quo m 3600 (by omega)
  have r2 : IntKind.i64.wrap (m.tdiv 60) = m / 60 := IntWalk.i64_quo m 60 (by omega)
  have r3 : IntKind.i64.wrap ((m / 60).tmod 60) = m / 60 % 60 := by rw [Int.tmod_eq_emod_of_nonneg (by omega)]; exact IntWalk.i64_in _ (by omega)
  have r4 : IntKind.i64.wrap (m.tmod 60) = m % 60 := by rw [Int.tmod_eq_emod_of_nonneg (by omega)]; exact IntWalk.i64_in _ (by omega)
  have r5 : (m / 60).tmod 60 = m / 60 % 60 := Int.tmod_eq_emod_of_nonneg (by omega)
  have r6 : m.tmod 60 = m % 60 := Int.tmod_eq_emod_of_nonneg (by omega)
  have r7 : IntKind.i64.wrap (m.tmod 3600) = m % 3600 := by rw [Int.tmod_eq_emod_of_nonneg (by omega)]; exact IntWalk.i64_in _ (by omega)
  have r8 : m.tmod 3600 = m % 3600 := Int.tmod_eq_emod_of_nonneg (by omega)
  have hc : (m % 3600 = 0 ∧ m % 60 = 0) ∨ (¬ m % 3600 = 0 ∧ m % 60 = 0) ∨ (¬ m % 3600 = 0 ∧ ¬ m % 60 = 0) := by omega
  rcases hc with ⟨h, k⟩ | ⟨h, k⟩ | ⟨h, k⟩
  · rw [if_pos h, if_pos k] at hb
    have HB := Lib.hid hb
    clear hb
    go_enter Tryd.func13, Tryd.ntmps13
    go_wp2_with fail
    refine (rtx_to _ _ T1 _ (by omega) (by omega) (by omega) (by omega) Q1).mono ?_
    rintro e w1 ⟨rfl, hb1⟩
    have hz1 := hb1
    go_wp2
    go_ret
    exact ⟨ret_s (bytes_eq (by rw [HB.out]; simp)), hz1⟩
  · rw [if_neg h, if_pos k] at hb
    have HB := Lib.hid hb
    have b1 : (m % 3600 != 0) = true := bne_iff_ne.2 h
    clear hb
    go_enter Tryd.func13, Tryd.ntmps13
    go_wp2_with fail
    refine (rtx_to _ _ T1 _ (by omega) (by omega) (by omega) (by omega) Q1).mono ?_
    rintro e w1 ⟨rfl, hb1⟩
    have hz1 := hb1
    go_wp2_with fail
    refine (rtx_to _ _ T2 _ (by omega) (by omega) (by omega) (by omega) Q2).mono ?_
    rintro e w2 ⟨rfl, hb2⟩
    have hz2 := hz1.trans (hb2.mono hz1.size)
    go_wp2
    go_ret
    exact ⟨ret_s (bytes_eq (by rw [HB.out]; simp)), hz2⟩
  · rw [if_neg h, if_neg k] at hb
    have HB := Lib.hid hb
    have b1 : (m % 3600 != 0) = true := bne_iff_ne.2 h
    have b2 : (m % 60 != 0) = true := bne_iff_ne.2 k
    clear hb
    go_enter Tryd.func13, Tryd.ntmps13
    go_wp2_with fail
    refine (rtx_to _ _ T1 _ (by omega) (by omega) (by omega) (by omega) Q1).mono ?_
    rintro e w1 ⟨rfl, hb1⟩
    have hz1 := hb1
    go_wp2_with fail
    refine (rtx_to _ _ T2 _ (by omega) (by omega) (by omega) (by omega) Q2).mono ?_
    rintro e w2 ⟨rfl, hb2⟩
    have hz2 := hz1.trans (hb2.mono hz1.size)
    go_wp2_with fail
    refine (rtx_to _ _ T3 _ (by omega) (by omega) (by omega) (by omega) Q3).mono ?_
    rintro e w3 ⟨rfl, hb3⟩
    have hz3 := hz2.trans (hb3.mono hz2.size)
    go_wp2
    go_ret
    exact ⟨ret_s (bytes_eq (by rw [HB.out]; simp)), hz3⟩
set_option maxHeartbeats 3200000 in
set_option maxRecDepth 100000 in
theorem rshort_neg (m : Int) (w : World) (m0 : 0 < m) (m1 : m < 172800)  :
    Calls Tryd.prog 13 #[.int .i64 (-m)] w fun e w' => e = .returned (.string ⟨(45 :: shB m).toArray⟩) ∧ Below w.heap.size w w' := by
  have hb : shB m = textL (m / 3600) 2 ++ ((if m % 3600 = 0 then [] else textL (m / 60 % 60) 2) ++ (if m % 60 = 0 then [] else textL (m % 60) 2)) := rfl
  obtain ⟨T1, q1⟩ : ∃ T, textL (m / 3600) 2 = T := ⟨_, rfl⟩
  have l1 : T1.length = 2 := by rw [← q1]; exact l2 (by omega) (by omega)
  obtain ⟨T2, q2⟩ : ∃ T, textL (m / 60 % 60) 2 = T := ⟨_, rfl⟩
  have k2 : T2.length = 2 := by rw [← q2]; exact l2 (by omega) (by omega)
  obtain ⟨T3, q3⟩ : ∃ T, textL (m % 60) 2 = T := ⟨_, rfl⟩
  have l3 : T3.length = 2 := by rw [← q3]; exact l2 (by omega) (by omega)
  rw [q1, q2, q3] at hb
  have Q1 := Lib.hid q1
  have Q2 := Lib.hid q2
  have Q3 := Lib.hid q3
  clear q1 q2 q3
  have r1 : IntKind.i64.wrap (m.tdiv 3600) = m / 3600 := IntWalk.i64_quo m 3600 (by omega)
  have r2 : IntKind.i64.wrap (m.tdiv 60) = m / 60 := IntWalk.i64_quo m 60 (by omega)
  have r3 : IntKind.i64.wrap ((m / 60).tmod 60) = m / 60 % 60 := by rw [Int.tmod_eq_emod_of_nonneg (by omega)]; exact IntWalk.i64_in _ (by omega)
  have r4 : IntKind.i64.wrap (m.tmod 60) = m % 60 := by rw [Int.tmod_eq_emod_of_nonneg (by omega)]; exact IntWalk.i64_in _ (by omega)
  have r5 : (m / 60).tmod 60 = m / 60 % 60 := Int.tmod_eq_emod_of_nonneg (by omega)
  have r6 : m.tmod 60 = m % 60 := Int.tmod_eq_emod_of_nonneg (by omega)
  have r7 : IntKind.i64.wrap (m.tmod 3600) = m % 3600 := by rw [Int.tmod_eq_emod_of_nonneg (by omega)]; exact IntWalk.i64_in _ (by omega)
  have r8 : m.tmod 3600 = m % 3600 := Int.tmod_eq_emod_of_nonneg (by omega)
  have hc : (m % 3600 = 0 ∧ m % 60 = 0) ∨ (¬ m % 3600 = 0 ∧ m % 60 = 0) ∨ (¬ m % 3600 = 0 ∧ ¬ m % 60 = 0) := by omega
  rcases hc with ⟨h, k⟩ | ⟨h, k⟩ | ⟨h, k⟩
  · rw [if_pos h, if_pos k] at hb
    have HB := Lib.hid hb
    clear hb
    go_enter Tryd.func13, Tryd.ntmps13
    go_wp2_with fail
    refine (rtx_to _ _ T1 _ (by omega) (by omega) (by omega) (by omega) Q1).mono ?_
    rintro e w1 ⟨rfl, hb1⟩
    have hz1 := hb1
    go_wp2
    go_ret
    exact ⟨ret_s (bytes_eq (by rw [HB.out]; simp)), hz1⟩
  · rw [if_neg h, if_pos k] at hb
    have HB := Lib.hid hb
    have b1 : (m % 3600 != 0) = true := bne_iff_ne.2 h
    clear hb
    go_enter Tryd.func13, Tryd.ntmps13
    go_wp2_with fail
    refine (rtx_to _ _ T1 _ (by omega) (by omega) (by omega) (by omega) Q1).mono ?_
    rintro e w1 ⟨rfl, hb1⟩
    have hz1 := hb1
    go_wp2_with fail
    refine (rtx_to _ _ T2 _ (by omega) (by omega) (by omega) (by omega) Q2).mono ?_
    rintro e w2 ⟨rfl, hb2⟩
    have hz2 := hz1.trans (hb2.mono hz1.size)
    go_wp2
    go_ret
    exact ⟨ret_s (bytes_eq (by rw [HB.out]; simp)), hz2⟩
  · rw [if_neg h, if_neg k] at hb
    have HB := Lib.hid hb
    have b1 : (m % 3600 != 0) = true := bne_iff_ne.2 h
    have b2 : (m % 60 != 0) = true := bne_iff_ne.2 k
    clear hb
    go_enter Tryd.func13, Tryd.ntmps13
    go_wp2_with fail
    refine (rtx_to _ _ T1 _ (by omega) (by omega) (by omega) (by omega) Q1).mono ?_
    rintro e w1 ⟨rfl, hb1⟩
    have hz1 := hb1
    go_wp2_with fail
    refine (rtx_to _ _ T2 _ (by omega) (by omega) (by omega) (by omega) Q2).mono ?_
    rintro e w2 ⟨rfl, hb2⟩
    have hz2 := hz1.trans (hb2.mono hz1.size)
    go_wp2_with fail
    refine (rtx_to _ _ T3 _ (by omega) (by omega) (by omega) (by omega) Q3).mono ?_
    rintro e w3 ⟨rfl, hb3⟩
    have hz3 := hz2.trans (hb3.mono hz2.size)
    go_wp2
    go_ret
    exact ⟨ret_s (bytes_eq (by rw [HB.out]; simp)), hz3⟩
theorem rshort_to (o : Int) (T : List UInt8) (w : World) (h0 : -172800 < o) (h1 : o < 172800) (h : Hid (shS o = T)) :
    Calls Tryd.prog 13 #[.int .i64 o] w fun e w' => e = .returned (.string ⟨T.toArray⟩) ∧ Below w.heap.size w w' := by
  by_cases hn : o < 0
  · obtain ⟨m, rfl⟩ : ∃ m, o = -m := ⟨-o, by omega⟩
    obtain ⟨a, b⟩ := sh_neg (m := m) (by omega) (by omega)
    rw [← h.out, a]
    exact rshort_neg m w (by omega) (by omega)
  · obtain ⟨a, b⟩ := sh_pos (m := o) (by omega) (by omega)
    rw [← h.out, a]
    exact rshort_pos o w (by omega) (by omega)
theorem rin9_to (n lo hi : Int) (b : Bool) (w : World) (h : Hid (decide (lo ≤ n ∧ n ≤ hi) = b)) :
    Calls Tryd.prog 20 #[.int .i64 n, .int .i64 lo, .int .i64 hi] w fun e w' => e = .returned (.bool b) ∧ w = w' := by
  have HH := h.out
  clear h
  have hz : (¬ lo ≤ n ∧ b = false) ∨ (lo ≤ n ∧ ¬ n ≤ hi ∧ b = false) ∨ (lo ≤ n ∧ n ≤ hi ∧ b = true) := by
    rw [← HH]
    by_cases x : lo ≤ n
    · by_cases y : n ≤ hi
      · exact Or.inr (Or.inr ⟨x, y, decide_eq_true ⟨x, y⟩⟩)
      · exact Or.inr (Or.inl ⟨x, y, decide_eq_false (fun h => y h.2)⟩)
    · exact Or.inl ⟨x, decide_eq_false (fun h => x h.1)⟩
  clear HH
  rcases hz with ⟨x, rfl⟩ | ⟨x, y, rfl⟩ | ⟨x, y, rfl⟩
  all_goals
    go_enter Tryd.func20, Tryd.ntmps20
    go_wp2
    go_ret
    first | exact ⟨rfl, rfl⟩ | exact ⟨ret_b (by simp [x]), rfl⟩ | exact ⟨ret_b (by simp [x, y]), rfl⟩ | exact ⟨ret_b (by simp; omega), rfl⟩
set_option maxHeartbeats 1600000 in
set_option maxRecDepth 100000 in
theorem rlet_to (s : ByteArray) (S : List UInt8) (b : Bool) (w : World) (hs : s.size ≤ 1000) (hS : Hid (s.data.toList = S)) (h : Hid (letB S = b)) :
    Calls Tryd.prog 19 #[.string s] w fun e w' => e = .returned (.bool b) ∧ w = w' := by
  have hl : s.size = S.length := by rw [← hS.out]; simp
  have HH := h.out
  clear h
  obtain ⟨p, h1⟩ : ∃ x, plB S 6 = x := ⟨_, rfl⟩
  have H1 := Lib.hid h1
  have hz : (s.size = 0 ∧ b = true) ∨ (0 < s.size ∧ ((s.toList = [45] ∧ b = false) ∨ ((s.toList == [45]) = false ∧ ¬ s.toList = [45] ∧ b = p))) := by
    rw [← HH, ← h1, letB, plB, ← hl]
    by_cases x : s.size = 0
    · have e : S = [] := List.length_eq_zero_iff.1 (by omega)
      refine Or.inl ⟨x, ?_⟩
      rw [x, e]; decide +kernel
    · refine Or.inr ⟨by omega, ?_⟩
      by_cases y : S = [45]
      · exact Or.inl ⟨by rw [Lib.toList_data, hS.out]; exact y, by rw [decide_eq_true y]; simp⟩
      · refine Or.inr ⟨beq_eq_false_iff_ne.2 (by rw [Lib.toList_data, hS.out]; exact y), by rw [Lib.toList_data, hS.out]; exact y, ?_⟩
        rw [decide_eq_false y]
        by_cases z : s.size ≤ 6
        · rw [decide_eq_true z, decide_eq_true (by omega)]; rfl
        · rw [decide_eq_false z, decide_eq_false (by omega)]; rfl
  clear HH hl h1
  rcases hz with ⟨x, rfl⟩ | ⟨x, ⟨y, rfl⟩ | ⟨y, z, rfl⟩⟩
  · have e : s = ⟨#[]⟩ := bytes_eq (List.length_eq_zero_iff.1 (by rw [Array.length_toList]; exact x))
    subst e
    go_enter Tryd.func19, Tryd.ntmps19
    go_wp2
    go_ret
    exact ⟨rfl, rfl⟩
  · have x1 : ((s.size : Int) == 0) = false := beq_eq_false_iff_ne.2 (by omega)
    have x2 : ¬ s.size = 0 := by omega
    go_enter Tryd.func19, Tryd.ntmps19
    go_wp2
    go_ret
    exact ⟨rfl, rfl⟩
  · have x1 : ((s.size : Int) == 0) = false := beq_eq_false_iff_ne.2 (by omega)
    have x2 : ¬ s.size = 0 := by omega
    go_enter Tryd.func19, Tryd.ntmps19
    go_wp2_with fail
    refine (rplain_to s S 6 _ _ (by unfold maxLen; omega) hS H1).mono ?_
    rintro e w1 ⟨rfl, rfl⟩
    go_wp2
    go_ret
    first | exact ⟨rfl, rfl⟩ | exact ⟨ret_b (by simp [y, z]), rfl⟩
end Fm
end Go.Proofs.YtfmlccddhphjcaaDoor
