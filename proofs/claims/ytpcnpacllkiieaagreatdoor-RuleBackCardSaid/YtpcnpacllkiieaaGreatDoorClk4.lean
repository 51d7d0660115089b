/-
  Contracts of package clock, fourth part: Text; the waking call of its laws.
-/
import Derived.Test.YtpcnpacllkiieaaGreatDoorClk3
namespace Go.Proofs.YtpcnpacllkiieaaGreatDoor
open Go.RowKit
namespace Clk
open Sol
theorem ret_si {s s' : ByteArray} {a a' : Int} (k : s = s') (h : a = a') : Ending.returned (.tuple #[.string s, .int .i64 a]) = .returned (.tuple #[.string s', .int .i64 a']) := by rw [h, k]
def ctE (n : Int) : Int := if -345600 ≤ n ∧ n ≤ 345600 then 0 else 5
def ctS (n : Int) : List UInt8 := if -345600 ≤ n ∧ n ≤ 345600 then ctL n else []
theorem text_to (n d : Int) (T : List UInt8) (w : World) (n1 : -9223372036854775808 ≤ n) (n2 : n ≤ 9223372036854775807) (d1 : -9223372036854775808 ≤ d) (d2 : d ≤ 9223372036854775807) (hp : Pow w) (h : Hid (textL n d = T)) :
    Calls Tryz.prog 47 #[.int .i64 n, .int .i64 d] w fun e w' => e = .returned (.string ⟨T.toArray⟩) ∧ Below w.heap.size w w' :=
  (text_any n d w n1 n2 d1 d2 hp.here).mono fun _ _ ⟨he, hw⟩ => ⟨by rw [he, h.out], hw⟩
theorem bytes_eq {s t : ByteArray} (h : s.data.toList = t.data.toList) : s = t := ByteArray.ext (Array.toList_inj.1 h)
theorem ct_in {n : Int} (h : -345600 ≤ n ∧ n ≤ 345600) : ctE n = 0 ∧ ctS n = ctL n := ⟨by rw [ctE, if_pos h], by rw [ctS, if_pos h]⟩
theorem ct_out {n : Int} (h : ¬ (-345600 ≤ n ∧ n ≤ 345600)) : ctE n = 5 ∧ ctS n = [] := ⟨by rw [ctE, if_neg h], by rw [ctS, if_neg h]⟩
theorem ct_pos {m : Int} (h0 : 0 ≤ m) (h1 : m ≤ 345600) : ctE m = 0 ∧ ctS m = body m := by
  obtain ⟨a, b⟩ := ct_in (n := m) (by omega)
  exact ⟨a, by rw [b, ctL, if_neg (by omega)]⟩
theorem ct_neg {m : Int} (h0 : 0 < m) (h1 : m ≤ 345600) : ctE (-m) = 0 ∧ ctS (-m) = 45 :: body m := by
  obtain ⟨a, b⟩ := ct_in (n := -m) (by omega)
  exact ⟨a, by rw [b, ctL, if_pos (by omega), Int.neg_neg]⟩

set_option maxRecDepth 100000 in
set_option maxHeartbeats 1600000 in
theorem ctext_pos (m : Int) (w : World) (h0 : 0 ≤ m) (h1 : m ≤ 345600) (hp : Pow w) :
    Calls Tryz.prog 45 #[.int .i64 m] w fun e w' => e = .returned (.tuple #[.string ⟨(ctS m).toArray⟩, .int .i64 (ctE m)]) ∧ Below w.heap.size w w' := by
  have HP := Lib.hid hp
  clear hp
  have H := Lib.hid (ct_pos h0 h1)
  have hb : body m = textL (m / 3600) 1 ++ (if m % 3600 = 0 then [] else 58 :: textL (m / 60 % 60) 2) ++ (if m % 60 = 0 then [] else 58 :: textL (m % 60) 2) := rfl
  obtain ⟨T1, t1⟩ : ∃ T, textL (m / 3600) 1 = T := ⟨_, rfl⟩
  obtain ⟨T2, t2⟩ : ∃ T, textL (m / 60 % 60) 2 = T := ⟨_, rfl⟩
  obtain ⟨T3, t3⟩ : ∃ T, textL (m % 60) 2 = T := ⟨_, rfl⟩
  rw [t1, t2, t3] at hb
  have l1 : T1.length ≤ 2 := by rw [← t1]; exact (text1 (h := m / 3600) (by omega) (by omega)).2.2.1
  have l2 : T2.length ≤ 2 := by rw [← t2, (text2 (h := m / 60 % 60) (by omega) (by omega)).2.1]; exact Nat.le_refl _
  have l3 : T3.length ≤ 2 := by rw [← t3, (text2 (h := m % 60) (by omega) (by omega)).2.1]; exact Nat.le_refl _
  have Q1 := Lib.hid t1
  have Q2 := Lib.hid t2
  have Q3 := Lib.hid t3
  clear t1 t2 t3
  by_cases e1 : m % 3600 = 0
  · have e2 : m % 60 = 0 := by omega
    rw [if_pos e1, if_pos e2, List.append_nil, List.append_nil] at hb
    have HB := Lib.hid hb
    clear hb
    go_enter Tryz.func45, Tryz.ntmps45
    go_wp2_with fail
    refine (text_to _ _ T1 _ (by omega) (by omega) (by omega) (by omega) HP.out Q1).mono ?_
    rintro e w1 ⟨rfl, hb1⟩
    have HP1 := Lib.hid (HP.out.stays hb1)
    go_wp2
    go_ret2
    exact ⟨ret_si (bytes_eq (by rw [H.out.2, HB.out]; simp)) H.out.1.symm, hb1⟩
  · rw [if_neg e1] at hb
    have b1 : (m % 3600 != 0) = true := bne_iff_ne.2 e1
    by_cases e2 : m % 60 = 0
    · rw [if_pos e2, List.append_nil] at hb
      have HB := Lib.hid hb
      clear hb e1
      go_enter Tryz.func45, Tryz.ntmps45
      go_wp2_with fail
      refine (text_to _ _ T1 _ (by omega) (by omega) (by omega) (by omega) HP.out Q1).mono ?_
      rintro e w1 ⟨rfl, hb1⟩
      have HP1 := Lib.hid (HP.out.stays hb1)
      go_wp2_with fail
      refine (text_to _ _ T2 _ (by omega) (by omega) (by omega) (by omega) HP1.out Q2).mono ?_
      rintro e w2 ⟨rfl, hb2⟩
      have HP2 := Lib.hid (HP1.out.stays hb2)
      have hb12 := hb1.trans (hb2.mono hb1.size)
      go_wp2
      go_ret2
      exact ⟨ret_si (bytes_eq (by rw [H.out.2, HB.out]; simp)) H.out.1.symm, hb12⟩
    · rw [if_neg e2] at hb
      have b2 : (m % 60 != 0) = true := bne_iff_ne.2 e2
      have HB := Lib.hid hb
      clear hb e1 e2
      go_enter Tryz.func45, Tryz.ntmps45
      go_wp2_with fail
      refine (text_to _ _ T1 _ (by omega) (by omega) (by omega) (by omega) HP.out Q1).mono ?_
      rintro e w1 ⟨rfl, hb1⟩
      have HP1 := Lib.hid (HP.out.stays hb1)
      go_wp2_with fail
      refine (text_to _ _ T2 _ (by omega) (by omega) (by omega) (by omega) HP1.out Q2).mono ?_
      rintro e w2 ⟨rfl, hb2⟩
      have HP2 := Lib.hid (HP1.out.stays hb2)
      have hb12 := hb1.trans (hb2.mono hb1.size)
      go_wp2_with fail
      refine (text_to _ _ T3 _ (by omega) (by omega) (by omega) (by omega) HP2.out Q3).mono ?_
      rintro e w3 ⟨rfl, hb3⟩
      have hb13 := hb12.trans (hb3.mono hb12.size)
      go_wp2
      go_ret2
      exact ⟨ret_si (bytes_eq (by rw [H.out.2, HB.out]; simp)) H.out.1.symm, hb13⟩
set_option maxRecDepth 100000 in
set_option maxHeartbeats 1600000 in
theorem ctext_neg (m : Int) (w : World) (h0 : 0 < m) (h1 : m ≤ 345600) (hp : Pow w) :
    Calls Tryz.prog 45 #[.int .i64 (-m)] w fun e w' => e = .returned (.tuple #[.string ⟨(ctS (-m)).toArray⟩, .int .i64 (ctE (-m))]) ∧ Below w.heap.size w w' := by
  have HP := Lib.hid hp
  clear hp
  have H := Lib.hid (ct_neg h0 h1)
  have hb : body m = textL (m / 3600) 1 ++ (if m % 3600 = 0 then [] else 58 :: textL (m / 60 % 60) 2) ++ (if m % 60 = 0 then [] else 58 :: textL (m % 60) 2) := rfl
  obtain ⟨T1, t1⟩ : ∃ T, textL (m / 3600) 1 = T := ⟨_, rfl⟩
  obtain ⟨T2, t2⟩ : ∃ T, textL (m / 60 % 60) 2 = T := ⟨_, rfl⟩
  obtain ⟨T3, t3⟩ : ∃ T, textL (m % 60) 2 = T := ⟨_, rfl⟩
  rw [t1, t2, t3] at hb
  have l1 : T1.length ≤ 2 := by rw [← t1]; exact (text1 (h := m / 3600) (by omega) (by omega)).2.2.1
  have l2 : T2.length ≤ 2 := by rw [← t2, (text2 (h := m / 60 % 60) (by omega) (by omega)).2.1]; exact Nat.le_refl _
  have l3 : T3.length ≤ 2 := by rw [← t3, (text2 (h := m % 60) (by omega) (by omega)).2.1]; exact Nat.le_refl _
  have Q1 := Lib.hid t1
  have Q2 := Lib.hid t2
  have Q3 := Lib.hid t3
  clear t1 t2 t3
  by_cases e1 : m % 3600 = 0
  · have e2 : m % 60 = 0 := by omega
    rw [if_pos e1, if_pos e2, List.append_nil, List.append_nil] at hb
    have HB := Lib.hid hb
    clear hb
    go_enter Tryz.func45, Tryz.ntmps45
    go_wp2_with fail
    refine (text_to _ _ T1 _ (by omega) (by omega) (by omega) (by omega) HP.out Q1).mono ?_
    rintro e w1 ⟨rfl, hb1⟩
    have HP1 := Lib.hid (HP.out.stays hb1)
    go_wp2
    go_ret2
    exact ⟨ret_si (bytes_eq (by rw [H.out.2, HB.out]; simp)) H.out.1.symm, hb1⟩
  · rw [if_neg e1] at hb
    have b1 : (m % 3600 != 0) = true := bne_iff_ne.2 e1
    by_cases e2 : m % 60 = 0
    · rw [if_pos e2, List.append_nil] at hb
      have HB := Lib.hid hb
      clear hb e1
      go_enter Tryz.func45, Tryz.ntmps45
      go_wp2_with fail
      refine (text_to _ _ T1 _ (by omega) (by omega) (by omega) (by omega) HP.out Q1).mono ?_
      rintro e w1 ⟨rfl, hb1⟩
      have HP1 := Lib.hid (HP.out.stays hb1)
      go_wp2_with fail
      refine (text_to _ _ T2 _ (by omega) (by omega) (by omega) (by omega) HP1.out Q2).mono ?_
      rintro e w2 ⟨rfl, hb2⟩
      have HP2 := Lib.hid (HP1.out.stays hb2)
      have hb12 := hb1.trans (hb2.mono hb1.size)
      go_wp2
      go_ret2
      exact ⟨ret_si (bytes_eq (by rw [H.out.2, HB.out]; simp)) H.out.1.symm, hb12⟩
    · rw [if_neg e2] at hb
      have b2 : (m % 60 != 0) = true := bne_iff_ne.2 e2
      have HB := Lib.hid hb
      clear hb e1 e2
      go_enter Tryz.func45, Tryz.ntmps45
      go_wp2_with fail
      refine (text_to _ _ T1 _ (by omega) (by omega) (by omega) (by omega) HP.out Q1).mono ?_
      rintro e w1 ⟨rfl, hb1⟩
      have HP1 := Lib.hid (HP.out.stays hb1)
      go_wp2_with fail
      refine (text_to _ _ T2 _ (by omega) (by omega) (by omega) (by omega) HP1.out Q2).mono ?_
      rintro e w2 ⟨rfl, hb2⟩
      have HP2 := Lib.hid (HP1.out.stays hb2)
      have hb12 := hb1.trans (hb2.mono hb1.size)
      go_wp2_with fail
      refine (text_to _ _ T3 _ (by omega) (by omega) (by omega) (by omega) HP2.out Q3).mono ?_
      rintro e w3 ⟨rfl, hb3⟩
      have hb13 := hb12.trans (hb3.mono hb12.size)
      go_wp2
      go_ret2
      exact ⟨ret_si (bytes_eq (by rw [H.out.2, HB.out]; simp)) H.out.1.symm, hb13⟩
theorem ctext_any (n : Int) (w : World) (hp : Pow w) :
    Calls Tryz.prog 45 #[.int .i64 n] w fun e w' => e = .returned (.tuple #[.string ⟨(ctS n).toArray⟩, .int .i64 (ctE n)]) ∧ Below w.heap.size w w' := by
  by_cases h1 : n < -345600
  · have H := Lib.hid (ct_out (n := n) (by omega))
    clear hp
    go_enter Tryz.func45, Tryz.ntmps45
    go_wp2
    go_ret2
    exact ⟨ret_si (by rw [H.out.2]) H.out.1.symm, Below.refl _ _⟩
  · by_cases h2 : 345600 < n
    · have H := Lib.hid (ct_out (n := n) (by omega))
      clear hp
      go_enter Tryz.func45, Tryz.ntmps45
      go_wp2
      go_ret2
      exact ⟨ret_si (by rw [H.out.2]) H.out.1.symm, Below.refl _ _⟩
    · by_cases h3 : n < 0
      · obtain ⟨m, rfl⟩ : ∃ m, n = -m := ⟨-n, by omega⟩
        exact ctext_neg m w (by omega) (by omega) hp
      · exact ctext_pos n w (by omega) (by omega) hp

theorem ctext_to (n : Int) (T : List UInt8) (c : Int) (w : World) (hp : Pow w) (h : Hid (ctS n = T ∧ ctE n = c)) :
    Calls Tryz.prog 45 #[.int .i64 n] w fun e w' => e = .returned (.tuple #[.string ⟨T.toArray⟩, .int .i64 c]) ∧ Below w.heap.size w w' :=
  (ctext_any n w hp).mono fun _ _ ⟨he, hw⟩ => ⟨by rw [he, h.out.1, h.out.2], hw⟩
theorem cparse_to (s : ByteArray) (L : List UInt8) (v c : Int) (w : World) (hs : s.size ≤ maxLen) (hL : Hid (s.data.toList = L)) (h : Hid (clV L = v ∧ clE L = c)) :
    Calls Tryz.prog 107 #[.string s] w fun e w' => e = .returned (.tuple #[.int .i64 v, .int .i64 c]) ∧ ∃ n, w' = w.drewN n :=
  (cparse_any s L w hs hL).mono fun _ _ ⟨he, hw⟩ => ⟨by rw [he, h.out.1, h.out.2], hw⟩
theorem wk4_0 : (⟨#[45, 49, 58, 51, 48]⟩ : ByteArray).size ≤ maxLen := by show 5 ≤ maxLen; unfold maxLen; omega
theorem wk4_1 : clV [45, 49, 58, 51, 48] = -5400 ∧ clE [45, 49, 58, 51, 48] = 0 := by decide +kernel
theorem wk4_2 : ctS 3661 = [49, 58, 48, 49, 58, 48, 49] ∧ ctE 3661 = 0 := by
  obtain ⟨a, b⟩ := ct_pos (m := 3661) (by decide) (by decide)
  refine ⟨?_, a⟩
  have k1 : textL 1 1 = [49] := by rw [textL, if_neg (by decide), if_pos (by decide), show (1 : Int).toNat = 1 from rfl, Lib.decDigits, dif_pos (by decide)]; rfl
  have k2 : textL 1 2 = [48, 49] := by rw [textL, if_neg (by decide), if_pos (by decide), show (1 : Int).toNat = 1 from rfl, Lib.decDigits, dif_pos (by decide)]; rfl
  rw [b, body, if_neg (by decide), if_neg (by decide), show (3661 : Int) / 3600 = 1 from rfl, show (3661 : Int) / 60 % 60 = 1 from rfl, show (3661 : Int) % 60 = 1 from rfl, k1, k2]; rfl
theorem wk4_3 : jnV 1 (-1) = 86399 ∧ jnB 1 (-1) = true := by decide +kernel

end Clk
end Go.Proofs.YtpcnpacllkiieaaGreatDoor
