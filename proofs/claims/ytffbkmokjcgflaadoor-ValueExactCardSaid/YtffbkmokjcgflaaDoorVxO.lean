/-
  The reference's Offset. (Written by gen/gen_vx.py.)
-/
import Derived.Test.YtffbkmokjcgflaaDoorVal5
import Derived.Test.YtffbkmokjcgflaaDoorBdU
namespace Go.Proofs.YtffbkmokjcgflaaDoor
open Go.RowKit
namespace Val
open Sol Civ Wk
set_option maxHeartbeats 3200000 in
set_option maxRecDepth 100000 in
theorem roff_pos (m : Int) (w : World) (m0 : 0 ≤ m) (m1 : m < 86400) :
    Calls Tryd.prog 13 #[.int .i64 (m)] w fun e w' => e = .returned (.string ⟨(43 :: ofB m).toArray⟩) ∧ Below w.heap.size w w' := by
  have hb : ofB m = textL (m / 3600) 2 ++ textL (m / 60 % 60) 2 ++ (if m % 60 = 0 then [] else textL (m % 60) 2) := rfl
  obtain ⟨T1, q1⟩ : ∃ T, textL (m / 3600) 2 = T := ⟨_, rfl⟩
  have l1 : T1.length = 2 := by rw [← q1]; exact tx_len (m / 3600) 2 (by omega) (by decide) (by decide) (by omega)
  obtain ⟨T2, q2⟩ : ∃ T, textL (m / 60 % 60) 2 = T := ⟨_, rfl⟩
  have l2 : T2.length = 2 := by rw [← q2]; exact tx_len (m / 60 % 60) 2 (by omega) (by decide) (by decide) (by omega)
  obtain ⟨T3, q3⟩ : ∃ T, textL (m % 60) 2 = T := ⟨_, rfl⟩
  have l3 : T3.length = 2 := by rw [← q3]; exact tx_len (m % 60) 2 (by omega) (by decide) (by decide) (by omega)
  rw [q1, q2, q3] at hb
  have Q1 := Lib.hid q1
  have Q2 := Lib.hid q2
  have Q3 := Lib.hid q3
  clear q1 q2 q3
  have r1 : IntKind.i64.wrap (m.tdiv 3600) = m / 3600 := IntWalk.i64_quo m 3600 (by omega)
  have r2 : IntKind.i64.wrap (m.tdiv 60) = m / 60 := IntWalk.i64_quo m 60 (by omega)
  have r3 : IntKind.i64.wrap ((m / 60).tmod 60) = m / 60 % 60 := by rw [Int.tmod_eq_emod_of_nonneg (by omega)]; exact IntWalk.i64_in _ (by omega)
  have r4 : IntKind.i64.wrap (m.tmod 60) = m % 60 := by rw [Int.tmod_eq_emod_of_nonneg (by omega)]; exact IntWalk.i64_in _ (by omega)
  have r5 : (m / 60).tmod 60 = m / 60 % 60 := Int.tmod_eq_emod_of_nonneg (by omega)
  have r6 : m.tmod 60 = m % 60 := Int.tmod_eq_emod_of_nonneg (by omega)
  by_cases h : m % 60 = 0
  · rw [if_pos h, List.append_nil] at hb
    have HB := Lib.hid hb
    clear hb
    go_enter Tryd.func13, Tryd.ntmps13
    go_wp2_with fail
    refine (Clk.rtext_to _ _ T1 _ (by omega) (by omega) (by omega) (by omega) Q1).mono ?_
    rintro e w1 ⟨rfl, hb1⟩
    go_wp2_with fail
    refine (Clk.rtext_to _ _ T2 _ (by omega) (by omega) (by omega) (by omega) Q2).mono ?_
    rintro e w1 ⟨rfl, hb2⟩
    have hz := hb1.trans (hb2.mono hb1.size)
    go_wp2
    go_ret
    exact ⟨congrArg (fun x => Ending.returned (Value.string x)) (bytes_eq (by rw [HB.out]; simp)), hz⟩
  · rw [if_neg h] at hb
    have HB := Lib.hid hb
    have b1 : (m % 60 != 0) = true := bne_iff_ne.2 h
    clear hb h
    go_enter Tryd.func13, Tryd.ntmps13
    go_wp2_with fail
    refine (Clk.rtext_to _ _ T1 _ (by omega) (by omega) (by omega) (by omega) Q1).mono ?_
    rintro e w1 ⟨rfl, hb1⟩
    go_wp2_with fail
    refine (Clk.rtext_to _ _ T2 _ (by omega) (by omega) (by omega) (by omega) Q2).mono ?_
    rintro e w1 ⟨rfl, hb2⟩
    have hz := hb1.trans (hb2.mono hb1.size)
    go_wp2_with fail
    refine (Clk.rtext_to _ _ T3 _ (by omega) (by omega) (by omega) (by omega) Q3).mono ?_
    rintro e w2 ⟨rfl, hb2⟩
    have hb12 := hz.trans (hb2.mono hz.size)
    go_wp2
    go_ret
    exact ⟨congrArg (fun x => Ending.returned (Value.string x)) (bytes_eq (by rw [HB.out]; simp)), hb12⟩
set_option maxHeartbeats 3200000 in
set_option maxRecDepth 100000 in
theorem roff_neg (m : Int) (w : World) (m0 : 0 < m) (m1 : m < 86400) :
    Calls Tryd.prog 13 #[.int .i64 (-m)] w fun e w' => e = .returned (.string ⟨(45 :: ofB m).toArray⟩) ∧ Below w.heap.size w w' := by
  have hb : ofB m = textL (m / 3600) 2 ++ textL (m / 60 % 60) 2 ++ (if m % 60 = 0 then [] else textL (m % 60) 2) := rfl
  obtain ⟨T1, q1⟩ : ∃ T, textL (m / 3600) 2 = T := ⟨_, rfl⟩
  have l1 : T1.length = 2 := by rw [← q1]; exact tx_len (m / 3600) 2 (by omega) (by decide) (by decide) (by omega)
  obtain ⟨T2, q2⟩ : ∃ T, textL (m / 60 % 60) 2 = T := ⟨_, rfl⟩
  have l2 : T2.length = 2 := by rw [← q2]; exact tx_len (m / 60 % 60) 2 (by omega) (by decide) (by decide) (by omega)
  obtain ⟨T3, q3⟩ : ∃ T, textL (m % 60) 2 = T := ⟨_, rfl⟩
  have l3 : T3.length = 2 := by rw [← q3]; exact tx_len (m % 60) 2 (by omega) (by decide) (by decide) (by omega)
  rw [q1, q2, q3] at hb
  have Q1 := Lib.hid q1
  have Q2 := Lib.hid q2
  have Q3 := Lib.hid q3
  clear q1 q2 q3
  have r1 : IntKind.i64.wrap (m.tdiv 3600) = m / 3600 := IntWalk.i64_quo m 3600 (by omega)
  have r2 : IntKind.i64.wrap (m.tdiv 60) = m / 60 := IntWalk.i64_quo m 60 (by omega)
  have r3 : IntKind.i64.wrap ((m / 60).tmod 60) = m / 60 % 60 := by rw [Int.tmod_eq_emod_of_nonneg (by omega)]; exact IntWalk.i64_in _ (by omega)
  have r4 : IntKind.i64.wrap (m.tmod 60) = m % 60 := by rw [Int.tmod_eq_emod_of_nonneg (by omega)]; exact IntWalk.i64_in _ (by omega)
  have r5 : (m / 60).tmod 60 = m / 60 % 60 := Int.tmod_eq_emod_of_nonneg (by omega)
  have r6 : m.tmod 60 = m % 60 := Int.tmod_eq_emod_of_nonneg (by omega)
  by_cases h : m % 60 = 0
  · rw [if_pos h, List.append_nil] at hb
    have HB := Lib.hid hb
    clear hb
    go_enter Tryd.func13, Tryd.ntmps13
    go_wp2_with fail
    refine (Clk.rtext_to _ _ T1 _ (by omega) (by omega) (by omega) (by omega) Q1).mono ?_
    rintro e w1 ⟨rfl, hb1⟩
    go_wp2_with fail
    refine (Clk.rtext_to _ _ T2 _ (by omega) (by omega) (by omega) (by omega) Q2).mono ?_
    rintro e w1 ⟨rfl, hb2⟩
    have hz := hb1.trans (hb2.mono hb1.size)
    go_wp2
    go_ret
    exact ⟨congrArg (fun x => Ending.returned (Value.string x)) (bytes_eq (by rw [HB.out]; simp)), hz⟩
  · rw [if_neg h] at hb
    have HB := Lib.hid hb
    have b1 : (m % 60 != 0) = true := bne_iff_ne.2 h
    clear hb h
    go_enter Tryd.func13, Tryd.ntmps13
    go_wp2_with fail
    refine (Clk.rtext_to _ _ T1 _ (by omega) (by omega) (by omega) (by omega) Q1).mono ?_
    rintro e w1 ⟨rfl, hb1⟩
    go_wp2_with fail
    refine (Clk.rtext_to _ _ T2 _ (by omega) (by omega) (by omega) (by omega) Q2).mono ?_
    rintro e w1 ⟨rfl, hb2⟩
    have hz := hb1.trans (hb2.mono hb1.size)
    go_wp2_with fail
    refine (Clk.rtext_to _ _ T3 _ (by omega) (by omega) (by omega) (by omega) Q3).mono ?_
    rintro e w2 ⟨rfl, hb2⟩
    have hb12 := hz.trans (hb2.mono hz.size)
    go_wp2
    go_ret
    exact ⟨congrArg (fun x => Ending.returned (Value.string x)) (bytes_eq (by rw [HB.out]; simp)), hb12⟩
theorem roff_to (o : Int) (T : List UInt8) (w : World) (h0 : -86400 < o) (h1 : o < 86400) (h : Hid (ofS o = T)) :
    Calls Tryd.prog 13 #[.int .i64 o] w fun e w' => e = .returned (.string ⟨T.toArray⟩) ∧ Below w.heap.size w w' := by
  by_cases hn : o < 0
  · obtain ⟨m, rfl⟩ : ∃ m, o = -m := ⟨-o, by omega⟩
    rw [← h.out, (of_neg (m := m) (by omega) (by omega)).1]
    exact roff_neg m w (by omega) (by omega)
  · rw [← h.out, (of_pos (m := o) (by omega) (by omega)).1]
    exact roff_pos o w (by omega) (by omega)
end Val
end Go.Proofs.YtffbkmokjcgflaaDoor
