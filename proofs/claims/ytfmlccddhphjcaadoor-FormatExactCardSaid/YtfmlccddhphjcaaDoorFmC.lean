/-
  Contract of format.Short. (Written by gen/gen_fmc.py.)
-/
import Derived.Test.YtfmlccddhphjcaaDoorFmB
import Derived.Test.YtfmlccddhphjcaaDoorPow
namespace Go.Proofs.YtfmlccddhphjcaaDoor
open Go.RowKit
namespace Fm
open Sol
theorem text_to (n d : Int) (T : List UInt8) (w : World) (n1 : -9223372036854775808 ≤ n) (n2 : n ≤ 9223372036854775807) (d1 : -9223372036854775808 ≤ d) (d2 : d ≤ 9223372036854775807) (hp : Pow w) (h : Hid (textL n d = T)) :
    Calls Tryd.prog 17 #[.int .i64 n, .int .i64 d] w fun e w' => e = .returned (.string ⟨T.toArray⟩) ∧ Below w.heap.size w w' :=
  (text_any n d w n1 n2 d1 d2 hp.here).mono fun _ _ ⟨he, hw⟩ => ⟨by rw [he, h.out], hw⟩
theorem bytes_eq {s t : ByteArray} (h : s.data.toList = t.data.toList) : s = t := ByteArray.ext (Array.toList_inj.1 h)
theorem tx_len (h : Int) (d : Nat) (h0 : 0 ≤ h) (d1 : 1 ≤ d) (d2 : d ≤ 20) (h1 : h < 10 ^ d) : (textL h d).length = d := by
  have e : textL h d = padL d (Lib.decDigits h.toNat) := by rw [textL, if_neg (by omega), if_pos (by omega)]; rfl
  rw [e, padL_len]
  have hk : h.toNat < 10 ^ (d - 1 + 1) := by
    rw [show d - 1 + 1 = d by omega]
    have : ((h.toNat : Nat) : Int) < ((10 ^ d : Nat) : Int) := by rw [Int.toNat_of_nonneg h0]; push_cast; exact h1
    exact Int.ofNat_lt.1 this
  have := decDigits_len (k := d - 1) (u := h.toNat) hk
  omega
theorem l2 {h : Int} (h0 : 0 ≤ h) (h1 : h ≤ 99) : (textL h 2).length = 2 := tx_len h 2 h0 (by decide) (by decide) (by omega)
theorem ret_si {s s' : ByteArray} {a a' : Int} (k : s = s') (h : a = a') : Ending.returned (.tuple #[.string s, .int .i64 a]) = .returned (.tuple #[.string s', .int .i64 a']) := by rw [h, k]
/-- The short text of an offset. -/
def shB (m : Int) : List UInt8 := textL (m / 3600) 2 ++ ((if m % 3600 = 0 then [] else textL (m / 60 % 60) 2) ++ (if m % 60 = 0 then [] else textL (m % 60) 2))
def shE (o : Int) : Int := if -172800 < o ∧ o < 172800 then 0 else 5
def shS (o : Int) : List UInt8 := if -172800 < o ∧ o < 172800 then (if o < 0 then 45 :: shB (-o) else 43 :: shB o) else []
theorem sh_pos {m : Int} (h0 : 0 ≤ m) (h1 : m < 172800) : shS m = 43 :: shB m ∧ shE m = 0 := by
  rw [shS, shE, if_pos (by omega), if_neg (by omega), if_pos (by omega)]; exact ⟨rfl, rfl⟩
theorem sh_neg {m : Int} (h0 : 0 < m) (h1 : m < 172800) : shS (-m) = 45 :: shB m ∧ shE (-m) = 0 := by
  rw [shS, shE, if_pos (by omega), if_pos (by omega), if_pos (by omega), Int.neg_neg]; exact ⟨rfl, rfl⟩
set_option maxHeartbeats 3200000 in
set_option maxRecDepth 100000 in
theorem short_pos (m : Int) (w : World) (m0 : 0 ≤ m) (m1 : m < 172800) (hp : Pow w) :
    Calls Tryd.prog 8 #[.int .i64 (m)] w fun e w' => e = .returned (.tuple #[.string ⟨(43 :: shB m).toArray⟩, .int .i64 0]) ∧ Below w.heap.size w w' := by
  have HP := Lib.hid hp
  clear hp
  have hb : shB m = textL (m / 3600) 2 ++ ((if m % 3600 = 0 then [] else textL (m / 60 % 60) 2) ++ (if m % 60 = 0 then [] else textL (m % 60) 2)) := rfl
  obtain ⟨T1, q1⟩ : ∃ T, textL (m / 3600) 2 = T := ⟨_, rfl⟩
  have l1 : T1.length = 2 := by rw [← q1]; exact l2 (by omega) (by omega)
  obtain ⟨T2, q2⟩ : ∃ T, textL (m / 60 % 60) 2 = T := ⟨_, rfl⟩
  have k2 : T2.length = 2 := by rw [← q2]; exact l2 (by omega) (by omega)
  obtain ⟨T3, q3⟩ : ∃ T, textL (m % 60) 2 = T := ⟨_, rfl⟩
  have l3 : T3.length = 2 := by rw [← q3]; exact l2 (by omega) (by omega)
  rw [q1, q2, q3] at hb
  have Q1 := Lib.hid q1
  have Q2 := Lib.hid q2
  have Q3 := Lib.hid q3
  clear q1 q2 q3
  have r1 : IntKind.i64.wrap (m.tdiv 3600) = m / 3600 := IntWalk.i64_quo m 3600 (by omega)
  have r2 : IntKind.i64.wrap (m.tdiv 60) = m / 60 := IntWalk.i64_quo m 60 (by omega)
  have r3 : IntKind.i64.wrap ((m / 60).tmod 60) = m / 60 % 60 := by rw [Int.tmod_eq_emod_of_nonneg (by omega)]; exact IntWalk.i64_in _ (by omega)
  have r4 : IntKind.i64.wrap (m.tmod 60) = m % 60 := by rw [Int.tmod_eq_emod_of_nonneg (by omega)]; exact IntWalk.i64_in _ (by omega)
  have r5 : (m / 60).tmod 60 = m / 60 % 60 := Int.tmod_eq_emod_of_nonneg (by omega)
  have r6 : m.tmod 60 = m % 60 := Int.tmod_eq_emod_of_nonneg (by omega)
  have r7 : IntKind.i64.wrap (m.tmod 3600) = m % 3600 := by rw [Int.tmod_eq_emod_of_nonneg (by omega)]; exact IntWalk.i64_in _ (by omega)
  have r8 : m.tmod 3600 = m % 3600 := Int.tmod_eq_emod_of_nonneg (by omega)
  have hc : (m % 3600 = 0 ∧ m % 60 = 0) ∨ (¬ m % 3600 = 0 ∧ m % 60 = 0) ∨ (¬ m % 3600 = 0 ∧ ¬ m % 60 = 0) := by omega
  rcases hc with ⟨h, k⟩ | ⟨h, k⟩ | ⟨h, k⟩
  · rw [if_pos h, if_pos k] at hb
    have HB := Lib.hid hb
    clear hb
    go_enter Tryd.func8, Tryd.ntmps8
    go_wp2_with fail
    refine (text_to _ _ T1 _ (by omega) (by omega) (by omega) (by omega) HP.out Q1).mono ?_
    rintro e w1 ⟨rfl, hb1⟩
    have hz1 := hb1
    have HP1 := Lib.hid (HP.out.stays hz1)
    go_wp2
    go_ret2
    exact ⟨ret_si (bytes_eq (by rw [HB.out]; simp)) rfl, hz1⟩
  · rw [if_neg h, if_pos k] at hb
    have HB := Lib.hid hb
    have b1 : (m % 3600 != 0) = true := bne_iff_ne.2 h
    clear hb
    go_enter Tryd.func8, Tryd.ntmps8
    go_wp2_with fail
    refine (text_to _ _ T1 _ (by omega) (by omega) (by omega) (by omega) HP.out Q1).mono ?_
    rintro e w1 ⟨rfl, hb1⟩
    have hz1 := hb1
    have HP1 := Lib.hid (HP.out.stays hz1)
    go_wp2_with fail
    refine (text_to _ _ T2 _ (by omega) (by omega) (by omega) (by omega) HP1.out Q2).mono ?_
    rintro e w2 ⟨rfl, hb2⟩
    have hz2 := hz1.trans (hb2.mono hz1.size)
    go_wp2
    go_ret2
    exact ⟨ret_si (bytes_eq (by rw [HB.out]; simp)) rfl, hz2⟩
  · rw [if_neg h, if_neg k] at hb
    have HB := Lib.hid hb
    have b1 : (m % 3600 != 0) = true := bne_iff_ne.2 h
    have b2 : (m % 60 != 0) = true := bne_iff_ne.2 k
    clear hb
    go_enter Tryd.func8, Tryd.ntmps8
    go_wp2_with fail
    refine (text_to _ _ T1 _ (by omega) (by omega) (by omega) (by omega) HP.out Q1).mono ?_
    rintro e w1 ⟨rfl, hb1⟩
    have hz1 := hb1
    have HP1 := Lib.hid (HP.out.stays hz1)
    go_wp2_with fail
    refine (text_to _ _ T2 _ (by omega) (by omega) (by omega) (by omega) HP1.out Q2).mono ?_
    rintro e w2 ⟨rfl, hb2⟩
    have hz2 := hz1.trans (hb2.mono hz1.size)
    have HP2 := Lib.hid (HP.out.stays hz2)
    go_wp2_with fail
    refine (text_to _ _ T3 _ (by omega) (by omega) (by omega) (by omega) HP2.out Q3).mono ?_
    rintro e w3 ⟨rfl, hb3⟩
    have hz3 := hz2.trans (hb3.mono hz2.size)
    go_wp2
    go_ret2
    exact ⟨ret_si (bytes_eq (by rw [HB.out]; simp)) rfl, hz3⟩
set_option maxHeartbeats 3200000 in
set_option maxRecDepth 100000 in
theorem short_neg (m : Int) (w : World) (m0 : 0 < m) (m1 : m < 172800) (hp : Pow w) :
    Calls Tryd.prog 8 #[.int .i64 (-m)] w fun e w' => e = .returned (.tuple #[.string ⟨(45 :: shB m).toArray⟩, .int .i64 0]) ∧ Below w.heap.size w w' := by
  have HP := Lib.hid hp
  clear hp
  have hb : shB m = textL (m / 3600) 2 ++ ((if m % 3600 = 0 then [] else textL (m / 60 % 60) 2) ++ (if m % 60 = 0 then [] else textL (m % 60) 2)) := rfl
  obtain ⟨T1, q1⟩ : ∃ T, textL (m / 3600) 2 = T := ⟨_, rfl⟩
  have l1 : T1.length = 2 := by rw [← q1]; exact l2 (by omega) (by omega)
  obtain ⟨T2, q2⟩ : ∃ T, textL (m / 60 % 60) 2 = T := ⟨_, rfl⟩
  have k2 : T2.length = 2 := by rw [← q2]; exact l2 (by omega) (by omega)
  obtain ⟨T3, q3⟩ : ∃ T, textL (m % 60) 2 = T := ⟨_, rfl⟩
  have l3 : T3.length = 2 := by rw [← q3]; exact l2 (by omega) (by omega)
  rw [q1, q2, q3] at hb
  have Q1 := Lib.hid q1
  have Q2 := Lib.hid q2
  have Q3 := Lib.hid q3
  clear q1 q2 q3
  have r1 : IntKind.i64.wrap (m.tdiv 3600) = m / 3600 := IntWalk.i64_quo m 3600 (by omega)
  have r2 : IntKind.i64.wrap (m.tdiv 60) = m / 60 := IntWalk.i64_quo m 60 (by omega)
  have r3 : IntKind.i64.wrap ((m / 60).tmod 60) = m / 60 % 60 := by rw [Int.tmod_eq_emod_of_nonneg (by omega)]; exact IntWalk.i64_in _ (by omega)
  have r4 : IntKind.i64.wrap (m.tmod 60) = m % 60 := by rw [Int.tmod_eq_emod_of_nonneg (by omega)]; exact IntWalk.i64_in _ (by omega)
  have r5 : (m / 60).tmod 60 = m / 60 % 60 := Int.tmod_eq_emod_of_nonneg (by omega)
  have r6 : m.tmod 60 = m % 60 := Int.tmod_eq_emod_of_nonneg (by omega)
  have r7 : IntKind.i64.wrap (m.tmod 3600) = m % 3600 := by rw [Int.tmod_eq_emod_of_nonneg (by omega)]; exact IntWalk.i64_in _ (by omega)
  have r8 : m.tmod 3600 = m % 3600 := Int.tmod_eq_emod_of_nonneg (by omega)
  have hc : (m % 3600 = 0 ∧ m % 60 = 0) ∨ (¬ m % 3600 = 0 ∧ m % 60 = 0) ∨ (¬ m % 3600 = 0 ∧ ¬ m % 60 = 0) := by omega
  rcases hc with ⟨h, k⟩ | ⟨h, k⟩ | ⟨h, k⟩
  · rw [if_pos h, if_pos k] at hb
    have HB := Lib.hid hb
    clear hb
    go_enter Tryd.func8, Tryd.ntmps8
    go_wp2_with fail
    refine (text_to _ _ T1 _ (by omega) (by omega) (by omega) (by omega) HP.out Q1).mono ?_
    rintro e w1 ⟨rfl, hb1⟩
    have hz1 := hb1
    have HP1 := Lib.hid (HP.out.stays hz1)
    go_wp2
    go_ret2
    exact ⟨ret_si (bytes_eq (by rw [HB.out]; simp)) rfl, hz1⟩
  · rw [if_neg h, if_pos k] at hb
    have HB := Lib.hid hb
    have b1 : (m % 3600 != 0) = true := bne_iff_ne.2 h
    clear hb
    go_enter Tryd.func8, Tryd.ntmps8
    go_wp2_with fail
    refine (text_to _ _ T1 _ (by omega) (by omega) (by omega) (by omega) HP.out Q1).mono ?_
    rintro e w1 ⟨rfl, hb1⟩
    have hz1 := hb1
    have HP1 := Lib.hid (HP.out.stays hz1)
    go_wp2_with fail
    refine (text_to _ _ T2 _ (by omega) (by omega) (by omega) (by omega) HP1.out Q2).mono ?_
    rintro e w2 ⟨rfl, hb2⟩
    have hz2 := hz1.trans (hb2.mono hz1.size)
    go_wp2
    go_ret2
    exact ⟨ret_si (bytes_eq (by rw [HB.out]; simp)) rfl, hz2⟩
  · rw [if_neg h, if_neg k] at hb
    have HB := Lib.hid hb
    have b1 : (m % 3600 != 0) = true := bne_iff_ne.2 h
    have b2 : (m % 60 != 0) = true := bne_iff_ne.2 k
    clear hb
    go_enter Tryd.func8, Tryd.ntmps8
    go_wp2_with fail
    refine (text_to _ _ T1 _ (by omega) (by omega) (by omega) (by omega) HP.out Q1).mono ?_
    rintro e w1 ⟨rfl, hb1⟩
    have hz1 := hb1
    have HP1 := Lib.hid (HP.out.stays hz1)
    go_wp2_with fail
    refine (text_to _ _ T2 _ (by omega) (by omega) (by omega) (by omega) HP1.out Q2).mono ?_
    rintro e w2 ⟨rfl, hb2⟩
    have hz2 := hz1.trans (hb2.mono hz1.size)
    have HP2 := Lib.hid (HP.out.stays hz2)
    go_wp2_with fail
    refine (text_to _ _ T3 _ (by omega) (by omega) (by omega) (by omega) HP2.out Q3).mono ?_
    rintro e w3 ⟨rfl, hb3⟩
    have hz3 := hz2.trans (hb3.mono hz2.size)
    go_wp2
    go_ret2
    exact ⟨ret_si (bytes_eq (by rw [HB.out]; simp)) rfl, hz3⟩
set_option maxHeartbeats 3200000 in
theorem short_to (o : Int) (T : List UInt8) (c : Int) (w : World) (hp : Pow w) (h : Hid (shS o = T ∧ shE o = c)) :
    Calls Tryd.prog 8 #[.int .i64 o] w fun e w' => e = .returned (.tuple #[.string ⟨T.toArray⟩, .int .i64 c]) ∧ Below w.heap.size w w' := by
  by_cases hin : -172800 < o ∧ o < 172800
  · by_cases hn : o < 0
    · obtain ⟨m, rfl⟩ : ∃ m, o = -m := ⟨-o, by omega⟩
      obtain ⟨a, b⟩ := sh_neg (m := m) (by omega) (by omega)
      rw [← h.out.1, ← h.out.2, a, b]
      exact short_neg m w (by omega) (by omega) hp
    · obtain ⟨a, b⟩ := sh_pos (m := o) (by omega) (by omega)
      rw [← h.out.1, ← h.out.2, a, b]
      exact short_pos o w (by omega) (by omega) hp
  · have e1 : shS o = [] := by rw [shS, if_neg hin]
    have e2 : shE o = 5 := by rw [shE, if_neg hin]
    rw [← h.out.1, ← h.out.2, e1, e2]
    by_cases h1 : o ≤ -172800
    · go_enter Tryd.func8, Tryd.ntmps8
      go_wp2
      go_ret2
      exact ⟨rfl, Below.refl _ _⟩
    · have h2 : 172800 ≤ o := by omega
      go_enter Tryd.func8, Tryd.ntmps8
      go_wp2
      go_ret2
      exact ⟨rfl, Below.refl _ _⟩
end Fm
end Go.Proofs.YtfmlccddhphjcaaDoor
