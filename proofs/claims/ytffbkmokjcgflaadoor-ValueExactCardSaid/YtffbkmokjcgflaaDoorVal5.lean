/-
  Contracts of package value: Offset. (Written by gen: gen_val5.py.)
-/
import Derived.Test.YtffbkmokjcgflaaDoorVal4
namespace Go.Proofs.YtffbkmokjcgflaaDoor
open Go.RowKit
namespace Val
open Sol Civ Wk
/-- The text of an offset. -/
def ofB (m : Int) : List UInt8 := textL (m / 3600) 2 ++ textL (m / 60 % 60) 2 ++ (if m % 60 = 0 then [] else textL (m % 60) 2)
def ofE (o : Int) : Int := if -86400 < o ∧ o < 86400 then 0 else 19
def ofS (o : Int) : List UInt8 := if -86400 < o ∧ o < 86400 then (if o < 0 then 45 :: ofB (-o) else 43 :: ofB o) else []
theorem of_pos {m : Int} (h0 : 0 ≤ m) (h1 : m < 86400) : ofS m = 43 :: ofB m ∧ ofE m = 0 := by
  rw [ofS, ofE, if_pos (by omega), if_neg (by omega), if_pos (by omega)]; exact ⟨rfl, rfl⟩
theorem of_neg {m : Int} (h0 : 0 < m) (h1 : m < 86400) : ofS (-m) = 45 :: ofB m ∧ ofE (-m) = 0 := by
  rw [ofS, ofE, if_pos (by omega), if_pos (by omega), if_pos (by omega), Int.neg_neg]; exact ⟨rfl, rfl⟩
set_option maxHeartbeats 3200000 in
set_option maxRecDepth 100000 in
theorem off_pos (m : Int) (w : World) (m0 : 0 ≤ m) (m1 : m < 86400) (hp : Pow w) :
    Calls Tryd.prog 6 #[.int .i64 (m)] w fun e w' => e = .returned (.tuple #[.string ⟨(43 :: ofB m).toArray⟩, .int .i64 0]) ∧ Below w.heap.size w w' := by
  have HP := Lib.hid hp
  clear hp
  have hb : ofB m = textL (m / 3600) 2 ++ textL (m / 60 % 60) 2 ++ (if m % 60 = 0 then [] else textL (m % 60) 2) := rfl
  obtain ⟨T1, q1⟩ : ∃ T, textL (m / 3600) 2 = T := ⟨_, rfl⟩
  have l1 : T1.length = 2 := by rw [← q1]; exact tx_len (m / 3600) 2 (by omega) (by decide) (by decide) (by omega)
  obtain ⟨T2, q2⟩ : ∃ T, textL (m / 60 % 60) 2 = T := ⟨_, rfl⟩
  have l2 : T2.length = 2 := by rw [← q2]; exact tx_len (m / 60 % 60) 2 (by omega) (by decide) (by decide) (by omega)
  obtain ⟨T3, q3⟩ : ∃ T, textL (m % 60) 2 = T := ⟨_, rfl⟩
  have l3 : T3.length = 2 := by rw [← q3]; exact tx_len (m % 60) 2 (by omega) (by decide) (by decide) (by omega)
  rw [q1, q2, q3] at hb
  have Q1 := Lib.hid q1
  have Q2 := Lib.hid q2
  have Q3 := Lib.hid q3
  clear q1 q2 q3
  have r1 : IntKind.i64.wrap (m.tdiv 3600) = m / 3600 := IntWalk.i64_quo m 3600 (by omega)
  have r2 : IntKind.i64.wrap (m.tdiv 60) = m / 60 := IntWalk.i64_quo m 60 (by omega)
  have r3 : IntKind.i64.wrap ((m / 60).tmod 60) = m / 60 % 60 := by rw [Int.tmod_eq_emod_of_nonneg (by omega)]; exact IntWalk.i64_in _ (by omega)
  have r4 : IntKind.i64.wrap (m.tmod 60) = m % 60 := by rw [Int.tmod_eq_emod_of_nonneg (by omega)]; exact IntWalk.i64_in _ (by omega)
  have r5 : (m / 60).tmod 60 = m / 60 % 60 := Int.tmod_eq_emod_of_nonneg (by omega)
  have r6 : m.tmod 60 = m % 60 := Int.tmod_eq_emod_of_nonneg (by omega)
  by_cases h : m % 60 = 0
  · rw [if_pos h, List.append_nil] at hb
    have HB := Lib.hid hb
    clear hb
    go_enter Tryd.func6, Tryd.ntmps6
    go_wp2_with fail
    refine (text_to _ _ T1 _ (by omega) (by omega) (by omega) (by omega) HP.out Q1).mono ?_
    rintro e w1 ⟨rfl, hb1⟩
    have HP0 := Lib.hid (HP.out.stays hb1)
    go_wp2_with fail
    refine (text_to _ _ T2 _ (by omega) (by omega) (by omega) (by omega) HP0.out Q2).mono ?_
    rintro e w1 ⟨rfl, hb2⟩
    have hz := hb1.trans (hb2.mono hb1.size)
    go_wp2
    go_ret2
    exact ⟨ret_si (bytes_eq (by rw [HB.out]; simp)) rfl, hz⟩
  · rw [if_neg h] at hb
    have HB := Lib.hid hb
    have b1 : (m % 60 != 0) = true := bne_iff_ne.2 h
    clear hb h
    go_enter Tryd.func6, Tryd.ntmps6
    go_wp2_with fail
    refine (text_to _ _ T1 _ (by omega) (by omega) (by omega) (by omega) HP.out Q1).mono ?_
    rintro e w1 ⟨rfl, hb1⟩
    have HP0 := Lib.hid (HP.out.stays hb1)
    go_wp2_with fail
    refine (text_to _ _ T2 _ (by omega) (by omega) (by omega) (by omega) HP0.out Q2).mono ?_
    rintro e w1 ⟨rfl, hb2⟩
    have hz := hb1.trans (hb2.mono hb1.size)
    have HP1 := Lib.hid (HP.out.stays hz)
    go_wp2_with fail
    refine (text_to _ _ T3 _ (by omega) (by omega) (by omega) (by omega) HP1.out Q3).mono ?_
    rintro e w2 ⟨rfl, hb2⟩
    have hb12 := hz.trans (hb2.mono hz.size)
    go_wp2
    go_ret2
    exact ⟨ret_si (bytes_eq (by rw [HB.out]; simp)) rfl, hb12⟩
set_option maxHeartbeats 3200000 in
set_option maxRecDepth 100000 in
theorem off_neg (m : Int) (w : World) (m0 : 0 < m) (m1 : m < 86400) (hp : Pow w) :
    Calls Tryd.prog 6 #[.int .i64 (-m)] w fun e w' => e = .returned (.tuple #[.string ⟨(45 :: ofB m).toArray⟩, .int .i64 0]) ∧ Below w.heap.size w w' := by
  have HP := Lib.hid hp
  clear hp
  have hb : ofB m = textL (m / 3600) 2 ++ textL (m / 60 % 60) 2 ++ (if m % 60 = 0 then [] else textL (m % 60) 2) := rfl
  obtain ⟨T1, q1⟩ : ∃ T, textL (m / 3600) 2 = T := ⟨_, rfl⟩
  have l1 : T1.length = 2 := by rw [← q1]; exact tx_len (m / 3600) 2 (by omega) (by decide) (by decide) (by omega)
  obtain ⟨T2, q2⟩ : ∃ T, textL (m / 60 % 60) 2 = T := ⟨_, rfl⟩
  have l2 : T2.length = 2 := by rw [← q2]; exact tx_len (m / 60 % 60) 2 (by omega) (by decide) (by decide) (by omega)
  obtain ⟨T3, q3⟩ : ∃ T, textL (m % 60) 2 = T := ⟨_, rfl⟩
  have l3 : T3.length = 2 := by rw [← q3]; exact tx_len (m % 60) 2 (by omega) (by decide) (by decide) (by omega)
  rw [q1, q2, q3] at hb
  have Q1 := Lib.hid q1
  have Q2 := Lib.hid q2
  have Q3 := Lib.hid q3
  clear q1 q2 q3
  have r1 : IntKind.i64.wrap (m.tdiv 3600) = m / 3600 := IntWalk.i64_quo m 3600 (by omega)
  have r2 : IntKind.i64.wrap (m.tdiv 60) = m / 60 := IntWalk.i64_quo m 60 (by omega)
  have r3 : IntKind.i64.wrap ((m / 60).tmod 60) = m / 60 % 60 := by rw [Int.tmod_eq_emod_of_nonneg (by omega)]; exact IntWalk.i64_in _ (by omega)
  have r4 : IntKind.i64.wrap (m.tmod 60) = m % 60 := by rw [Int.tmod_eq_emod_of_nonneg (by omega)]; exact IntWalk.i64_in _ (by omega)
  have r5 : (m / 60).tmod 60 = m / 60 % 60 := Int.tmod_eq_emod_of_nonneg (by omega)
  have r6 : m.tmod 60 = m % 60 := Int.tmod_eq_emod_of_nonneg (by omega)
  by_cases h : m % 60 = 0
  · rw [if_pos h, List.append_nil] at hb
    have HB := Lib.hid hb
    clear hb
    go_enter Tryd.func6, Tryd.ntmps6
    go_wp2_with fail
    refine (text_to _ _ T1 _ (by omega) (by omega) (by omega) (by omega) HP.out Q1).mono ?_
    rintro e w1 ⟨rfl, hb1⟩
    have HP0 := Lib.hid (HP.out.stays hb1)
    go_wp2_with fail
    refine (text_to _ _ T2 _ (by omega) (by omega) (by omega) (by omega) HP0.out Q2).mono ?_
    rintro e w1 ⟨rfl, hb2⟩
    have hz := hb1.trans (hb2.mono hb1.size)
    go_wp2
    go_ret2
    exact ⟨ret_si (bytes_eq (by rw [HB.out]; simp)) rfl, hz⟩
  · rw [if_neg h] at hb
    have HB := Lib.hid hb
    have b1 : (m % 60 != 0) = true := bne_iff_ne.2 h
    clear hb h
    go_enter Tryd.func6, Tryd.ntmps6
    go_wp2_with fail
    refine (text_to _ _ T1 _ (by omega) (by omega) (by omega) (by omega) HP.out Q1).mono ?_
    rintro e w1 ⟨rfl, hb1⟩
    have HP0 := Lib.hid (HP.out.stays hb1)
    go_wp2_with fail
    refine (text_to _ _ T2 _ (by omega) (by omega) (by omega) (by omega) HP0.out Q2).mono ?_
    rintro e w1 ⟨rfl, hb2⟩
    have hz := hb1.trans (hb2.mono hb1.size)
    have HP1 := Lib.hid (HP.out.stays hz)
    go_wp2_with fail
    refine (text_to _ _ T3 _ (by omega) (by omega) (by omega) (by omega) HP1.out Q3).mono ?_
    rintro e w2 ⟨rfl, hb2⟩
    have hb12 := hz.trans (hb2.mono hz.size)
    go_wp2
    go_ret2
    exact ⟨ret_si (bytes_eq (by rw [HB.out]; simp)) rfl, hb12⟩
set_option maxHeartbeats 3200000 in
theorem off_to (o : Int) (T : List UInt8) (c : Int) (w : World) (hp : Pow w) (h : Hid (ofS o = T ∧ ofE o = c)) :
    Calls Tryd.prog 6 #[.int .i64 o] w fun e w' => e = .returned (.tuple #[.string ⟨T.toArray⟩, .int .i64 c]) ∧ Below w.heap.size w w' := by
  by_cases hin : -86400 < o ∧ o < 86400
  · by_cases hn : o < 0
    · obtain ⟨m, rfl⟩ : ∃ m, o = -m := ⟨-o, by omega⟩
      obtain ⟨a, b⟩ := of_neg (m := m) (by omega) (by omega)
      rw [← h.out.1, ← h.out.2, a, b]
      exact off_neg m w (by omega) (by omega) hp
    · obtain ⟨a, b⟩ := of_pos (m := o) (by omega) (by omega)
      rw [← h.out.1, ← h.out.2, a, b]
      exact off_pos o w (by omega) (by omega) hp
  · have e1 : ofS o = [] := by rw [ofS, if_neg hin]
    have e2 : ofE o = 19 := by rw [ofE, if_neg hin]
    rw [← h.out.1, ← h.out.2, e1, e2]
    by_cases h1 : o ≤ -86400
    · go_enter Tryd.func6, Tryd.ntmps6
      go_wp2
      go_ret2
      exact ⟨rfl, Below.refl _ _⟩
    · have h2 : 86400 ≤ o := by omega
      go_enter Tryd.func6, Tryd.ntmps6
      go_wp2
      go_ret2
      exact ⟨rfl, Below.refl _ _⟩
end Val
end Go.Proofs.YtffbkmokjcgflaaDoor
