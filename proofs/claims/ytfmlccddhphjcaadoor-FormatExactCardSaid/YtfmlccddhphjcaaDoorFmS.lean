/-
  FormatShort: a short text has a sign, two digits of hours, and no more than is needed; unlike offsets have unlike ones.
-/
import Derived.Test.YtfmlccddhphjcaaDoorFmE
namespace Go.Proofs.YtfmlccddhphjcaaDoor
open Go.RowKit
namespace Fm
open Sol
theorem a2 {h : Int} (h0 : 0 ≤ h) : (textL h 2).all isDig = true ∧ digVal (textL h 2) = h := by
  have e : textL h 2 = padL 2 (Lib.decDigits h.toNat) := by rw [textL, if_neg (by omega), if_pos (by omega)]; rfl
  rw [e]
  exact ⟨padL_all _ _, by rw [padL_val]; omega⟩
theorem t2_inj {a b : Int} (ha : 0 ≤ a) (hb : 0 ≤ b) (h : textL a 2 = textL b 2) : a = b := by
  have := (a2 ha).2
  rw [h, (a2 hb).2] at this
  exact this.symm
/-- How many signs stand behind the first one. -/
def shN (m : Int) : Nat := if m % 3600 = 0 then 2 else if m % 60 = 0 then 4 else 6
theorem shB_len {m : Int} (h0 : 0 ≤ m) (h1 : m < 172800) : (shB m).length = shN m := by
  have a := l2 (h := m / 3600) (by omega) (by omega)
  have b := l2 (h := m / 60 % 60) (by omega) (by omega)
  have c := l2 (h := m % 60) (by omega) (by omega)
  unfold shB shN
  by_cases x : m % 3600 = 0
  · have y : m % 60 = 0 := by omega
    rw [if_pos x, if_pos y, if_pos x]; simp [a]
  · rw [if_neg x, if_neg x]
    by_cases y : m % 60 = 0
    · rw [if_pos y, if_pos y]; simp [a, b]
    · rw [if_neg y, if_neg y]; simp [a, b, c]
theorem shB_all {m : Int} (h0 : 0 ≤ m) : (shB m).all isDig = true := by
  have a := (a2 (h := m / 3600) (by omega)).1
  have b := (a2 (h := m / 60 % 60) (by omega)).1
  have c := (a2 (h := m % 60) (by omega)).1
  unfold shB
  split <;> split <;> simp only [List.all_append, List.all_nil, a, b, c] <;> rfl
theorem shB_inj {a b : Int} (a0 : 0 ≤ a) (a1 : a < 172800) (b0 : 0 ≤ b) (b1 : b < 172800) (h : shB a = shB b) : a = b := by
  have la := shB_len a0 a1
  have lb := shB_len b0 b1
  rw [h, lb] at la
  have p1 := l2 (h := a / 3600) (by omega) (by omega)
  have q1 := l2 (h := b / 3600) (by omega) (by omega)
  have p2 := l2 (h := a / 60 % 60) (by omega) (by omega)
  have q2 := l2 (h := b / 60 % 60) (by omega) (by omega)
  unfold shB at h
  obtain ⟨e1, h2⟩ := List.append_inj h (by rw [p1, q1])
  have k1 := t2_inj (by omega) (by omega) e1
  unfold shN at la
  by_cases x : a % 3600 = 0
  · by_cases y : b % 3600 = 0
    · omega
    · rw [if_pos x, if_neg y] at la; split at la <;> omega
  · by_cases y : b % 3600 = 0
    · rw [if_neg x, if_pos y] at la; split at la <;> omega
    · rw [if_neg x, if_neg y] at la h2
      obtain ⟨e2, h3⟩ := List.append_inj h2 (by rw [p2, q2])
      have k2 := t2_inj (by omega) (by omega) e2
      by_cases u : a % 60 = 0
      · by_cases v : b % 60 = 0
        · omega
        · rw [if_pos u, if_neg v] at la; omega
      · by_cases v : b % 60 = 0
        · rw [if_neg u, if_pos v] at la; omega
        · rw [if_neg u, if_neg v] at h3
          have k3 := t2_inj (by omega) (by omega) h3
          omega
theorem dig_ok {c : UInt8} (O : List UInt8) (h : isDig c = true) : okB O c = true := by rw [okB, h]; simp
theorem all_ok {S : List UInt8} (O : List UInt8) (h : S.all isDig = true) : onlyB S O = true :=
  List.all_eq_true.2 fun c hc => dig_ok O (List.all_eq_true.1 h c hc)
/-- What a short text is made of. -/
theorem sh_form {o : Int} (h0 : -172800 < o) (h1 : o < 172800) : ∃ c R, shS o = c :: R ∧ ((o < 0 ∧ c = 45) ∨ ((¬ o < 0 ∧ 0 ≤ o) ∧ c = 43)) ∧ R.length = shN o ∧ rgtB (shS o) = true ∧ shE o = 0 := by
  have hn : ∀ m : Int, shN (-m) = shN m := fun m => by
    unfold shN
    have e1 : ((-m) % 3600 = 0) = (m % 3600 = 0) := propext ⟨fun h => by omega, fun h => by omega⟩
    have e2 : ((-m) % 60 = 0) = (m % 60 = 0) := propext ⟨fun h => by omega, fun h => by omega⟩
    simp only [e1, e2]
  have hb : ∀ m : Int, shN m ≤ 6 := fun m => by unfold shN; split <;> (try split) <;> omega
  by_cases hz : o < 0
  · obtain ⟨m, rfl⟩ : ∃ m, o = -m := ⟨-o, by omega⟩
    obtain ⟨a, b⟩ := sh_neg (m := m) (by omega) (by omega)
    have l := shB_len (m := m) (by omega) (by omega)
    have := hb m
    refine ⟨45, shB m, a, Or.inl ⟨hz, rfl⟩, by rw [hn, l], ?_, b⟩
    rw [a, rgtB, List.length_cons, l, decide_eq_true (by omega), onlyB, List.all_cons, show okB [43, 45] 45 = true from by decide +kernel]
    exact all_ok _ (shB_all (by omega))
  · obtain ⟨a, b⟩ := sh_pos (m := o) (by omega) (by omega)
    have l := shB_len (m := o) (by omega) (by omega)
    have := hb o
    refine ⟨43, shB o, a, Or.inr ⟨⟨hz, by omega⟩, rfl⟩, l, ?_, b⟩
    rw [a, rgtB, List.length_cons, l, decide_eq_true (by omega), onlyB, List.all_cons, show okB [43, 45] 43 = true from by decide +kernel]
    exact all_ok _ (shB_all (by omega))
theorem sh_inj {a b : Int} (a0 : -172800 < a) (a1 : a < 172800) (b0 : -172800 < b) (b1 : b < 172800) (h : shS a = shS b) : a = b := by
  by_cases ha : a < 0
  · obtain ⟨m, rfl⟩ : ∃ m, a = -m := ⟨-a, by omega⟩
    by_cases hb : b < 0
    · obtain ⟨n, rfl⟩ : ∃ m, b = -m := ⟨-b, by omega⟩
      rw [(sh_neg (m := m) (by omega) (by omega)).1, (sh_neg (m := n) (by omega) (by omega)).1] at h
      have := shB_inj (a := m) (b := n) (by omega) (by omega) (by omega) (by omega) (List.cons.inj h).2
      omega
    · rw [(sh_neg (m := m) (by omega) (by omega)).1, (sh_pos (m := b) (by omega) (by omega)).1] at h
      exact absurd (List.cons.inj h).1 (by decide)
  · by_cases hb : b < 0
    · obtain ⟨n, rfl⟩ : ∃ m, b = -m := ⟨-b, by omega⟩
      rw [(sh_pos (m := a) (by omega) (by omega)).1, (sh_neg (m := n) (by omega) (by omega)).1] at h
      exact absurd (List.cons.inj h).1 (by decide)
    · rw [(sh_pos (m := a) (by omega) (by omega)).1, (sh_pos (m := b) (by omega) (by omega)).1] at h
      exact shB_inj (by omega) (by omega) (by omega) (by omega) (List.cons.inj h).2
set_option maxHeartbeats 6400000 in
set_option maxRecDepth 100000 in
theorem fshort_any (a b : Int) (w : World) (hp : Pow w) (hm : MaxL w) :
    Calls Tryd.prog 5 #[.int .i64 a, .int .i64 b] w fun e w' => e = .returned (.bool true) ∧ Below w.heap.size w w' := by
  have HP := Lib.hid hp
  have HM := Lib.hid hm
  clear hp hm
  have a0 : -172800 < a.tmod 172800 := Int.lt_tmod_of_pos a (by omega)
  have a1 := Int.tmod_lt_of_pos a (show (0 : Int) < 172800 by omega)
  have b0 : -172800 < b.tmod 172800 := Int.lt_tmod_of_pos b (by omega)
  have b1 := Int.tmod_lt_of_pos b (show (0 : Int) < 172800 by omega)
  obtain ⟨A, hA⟩ : ∃ x, a.tmod 172800 = x := ⟨_, rfl⟩
  obtain ⟨B, hB⟩ : ∃ x, b.tmod 172800 = x := ⟨_, rfl⟩
  rw [hA] at a0 a1
  rw [hB] at b0 b1
  obtain ⟨c, R, f1, f2, f3, f4, f5⟩ := sh_form a0 a1
  obtain ⟨c', R', g1, _, g3, _, g5⟩ := sh_form b0 b1
  have hN : (A.tmod 3600 = 0 ∧ A.tmod 60 = 0 ∧ shN A = 2 ∧ A % 3600 = 0 ∧ A % 60 = 0) ∨ ((A.tmod 3600 == 0) = false ∧ A.tmod 60 = 0 ∧ shN A = 4 ∧ (A % 3600 == 0) = false ∧ A % 60 = 0) ∨ ((A.tmod 3600 == 0) = false ∧ (A.tmod 60 == 0) = false ∧ shN A = 6 ∧ (A % 3600 == 0) = false ∧ (A % 60 == 0) = false) := by
    have e1 : A.tmod 3600 = 0 ↔ A % 3600 = 0 := by rw [← Int.dvd_iff_tmod_eq_zero, ← Int.dvd_iff_emod_eq_zero]
    have e2 : A.tmod 60 = 0 ↔ A % 60 = 0 := by rw [← Int.dvd_iff_tmod_eq_zero, ← Int.dvd_iff_emod_eq_zero]
    unfold shN
    by_cases x : A % 3600 = 0
    · exact Or.inl ⟨e1.2 x, e2.2 (by omega), by rw [if_pos x], x, by omega⟩
    · by_cases y : A % 60 = 0
      · exact Or.inr (Or.inl ⟨beq_eq_false_iff_ne.2 (fun h => x (e1.1 h)), e2.2 y, by rw [if_neg x, if_pos y], beq_eq_false_iff_ne.2 x, y⟩)
      · exact Or.inr (Or.inr ⟨beq_eq_false_iff_ne.2 (fun h => x (e1.1 h)), beq_eq_false_iff_ne.2 (fun h => y (e2.1 h)), by rw [if_neg x, if_neg y], beq_eq_false_iff_ne.2 x, beq_eq_false_iff_ne.2 y⟩)
  have hI : (A = B ∧ c' = c ∧ R' = R) ∨ ((A == B) = false ∧ (c :: R == c' :: R') = false) := by
    by_cases h : A = B
    · have e : c' :: R' = c :: R := by rw [← f1, ← g1, h]
      exact Or.inl ⟨h, (List.cons.inj e).1, (List.cons.inj e).2⟩
    · exact Or.inr ⟨beq_eq_false_iff_ne.2 h, beq_eq_false_iff_ne.2 (fun e => h (sh_inj a0 a1 b0 b1 (by rw [f1, g1, e])))⟩
  have TA := Lib.hid (And.intro f1 f5)
  have TB := Lib.hid (And.intro g1 g5)
  rw [f1] at f4
  have R4 := Lib.hid f4
  rw [← f3] at hN
  have hI := Lib.hid hI
  clear f1 f5 g1 g5 f4 f3 g3
  rcases hN with ⟨m1, m2, m3, m4, m5⟩ | ⟨m1, m2, m3, m4, m5⟩ | ⟨m1, m2, m3, m4, m5⟩
  all_goals
    have M3 := Lib.hid m3
    have hsz : (⟨(c :: R).toArray⟩ : ByteArray).size = R.length + 1 := rfl
    have hsz2 : Hid ((⟨(c :: R).toArray⟩ : ByteArray).size ≤ 1000) := Lib.hid (by rw [hsz, m3]; decide)
    rw [m3] at hsz
    clear m3
    have hel : (⟨(c :: R).toArray⟩ : ByteArray)[0]'(by show 0 < R.length + 1; omega) = c := rfl
    rcases f2 with ⟨f2, rfl⟩ | ⟨⟨f2, f3⟩, rfl⟩
    all_goals
      go_enter Tryd.func5, Tryd.ntmps5
      go_wp2_with fail
      refine (short_to A _ 0 _ HP.out TA).mono ?_
      rintro e w1 ⟨rfl, c1⟩
      go_wp2_with fail
      refine (short_to B _ 0 _ (HP.out.stays c1) TB).mono ?_
      rintro e w2 ⟨rfl, d2⟩
      have c2 := c1.trans (d2.mono c1.size)
      clear d2
      rcases hI.out with ⟨rfl, rfl, rfl⟩ | ⟨hi, hj⟩
      all_goals
        go_wp2_with fail
        refine (rgt_to _ _ true _ (Nat.le_trans hsz2.out (by decide)) (Lib.hid rfl) R4).mono ?_
        rintro e w3 ⟨rfl, d3⟩
        have c3 := c2.trans (d3.mono c2.size)
        go_wp2_with fail
        refine (wakes12_any _ (HP.out.stays c3) (HM.out.stays c3)).mono ?_
        rintro e w4 ⟨rfl, d4⟩
        go_wp2
        go_ret
        first | exact ⟨rfl, c3.trans (d4.mono c3.size)⟩ | exact ⟨ret_b (by simp [f2]), c3.trans (d4.mono c3.size)⟩
end Fm
end Go.Proofs.YtfmlccddhphjcaaDoor
