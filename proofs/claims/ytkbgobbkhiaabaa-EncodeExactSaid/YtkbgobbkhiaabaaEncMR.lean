/-
  The reference's Move: it says what encode.Move says.
-/
import Derived.Test.YtkbgobbkhiaabaaEncYH
import Derived.Test.YtkbgobbkhiaabaaEncMv
import Derived.Test.YtkbgobbkhiaabaaBdU
namespace Go.Proofs.Ytkbgobbkhiaabaa
open Go.RowKit
namespace Enc
open Sol Clk Atf Cel
theorem rat_b (n k : Int) (b : Bool) (w : World) (h : Hid (atOk n k = b)) :
    Calls Try.prog 17 #[.agg #[.int .i64 n, .int .i64 k]] w fun e w' => e = .returned (.bool b) ∧ Below w.heap.size w w' :=
  (rAt_to n k b w h).mono fun _ _ ⟨he, hw⟩ => ⟨he, by rw [← hw]; exact (Below.refl _ _).alloc (Nat.le_refl _) _⟩
def s4 (n : Int) : Bool := decide (-345600 ≤ n ∧ n ≤ 345600)
theorem mv_ref (n k d s now : Int) : mvB n k d s now = (atOk n k && (s4 d && (s4 s && decide (-172800 ≤ now ∧ now ≤ 172800)))) := by
  rw [mvB, utB, atOk]
  cases h1 : isK k with
  | false => simp
  | true =>
    cases h2 : inS n with
    | false => simp
    | true =>
      have b : inB n = true := (inB_iff n).2 (by rw [inS] at h2; have := of_decide_eq_true h2; omega)
      rw [b]
      simp only [Bool.and_self, Bool.true_and, inS, s4]
      cases decide (-172800 ≤ now ∧ now ≤ 172800) <;> cases decide (-345600 ≤ d ∧ d ≤ 345600) <;> cases decide (-345600 ≤ s ∧ s ≤ 345600) <;> rfl
theorem ut_bd {n k d s : Int} (hk : atOk n k = true) (h2 : s4 d = true) (h3 : s4 s = true) : utB n k d s = true ∧ -1100000 ≤ utV n k d s ∧ utV n k d s ≤ 1100000 := by
  have h := mv_ref n k d s 0
  rw [hk, h2, h3] at h
  have hu : utB n k d s = true := by
    rw [mvB, hk] at h
    simpa using h
  rw [atOk, Bool.and_eq_true, inS] at hk
  have b1 := of_decide_eq_true hk.1
  rw [s4] at h2 h3
  have b2 := of_decide_eq_true h2
  have b3 := of_decide_eq_true h3
  refine ⟨hu, ?_⟩
  rw [utV, if_pos hu]
  split
  · omega
  · split <;> omega
theorem mv_out {n k d s now v x : Int} {b : Bool} (h : mvD n k d s now = v ∧ mvS n k d s now = x ∧ mvB n k d s now = b) (hb : mvB n k d s now = false) : v = 0 ∧ x = 0 ∧ b = false := by
  obtain ⟨h1, h2⟩ := mv_no hb
  exact ⟨by rw [← h.1, h1], by rw [← h.2.1, h2], by rw [← h.2.2, hb]⟩
set_option maxHeartbeats 6400000 in
set_option maxRecDepth 100000 in
theorem rmove_to (n k d s now v x : Int) (b : Bool) (w : World) (h : Hid (mvD n k d s now = v ∧ mvS n k d s now = x ∧ mvB n k d s now = b)) (n1 : -9223372036854775808 ≤ now) (n2 : now ≤ 9223372036854775807) :
    Calls Try.prog 6 #[.agg #[.int .i64 n, .int .i64 k], .int .i64 d, .int .i64 s, .int .i64 now] w fun e w' => e = .returned (.tuple #[.int .i64 v, .int .i64 x, .bool b]) ∧ Below w.heap.size w w' := by
  obtain ⟨q1, h1⟩ : ∃ q, atOk n k = q := ⟨_, rfl⟩
  obtain ⟨q2, h2⟩ : ∃ q, s4 d = q := ⟨_, rfl⟩
  obtain ⟨q3, h3⟩ : ∃ q, s4 s = q := ⟨_, rfl⟩
  obtain ⟨q4, h4⟩ : ∃ q, decide (-172800 ≤ now ∧ now ≤ 172800) = q := ⟨_, rfl⟩
  have H1 := Lib.hid h1
  have H2 := Lib.hid h2
  have H3 := Lib.hid h3
  have H4 := Lib.hid h4
  have HR := mv_ref n k d s now
  rw [h1, h2, h3, h4] at HR
  have HR := Lib.hid HR
  clear h1 h2 h3 h4
  have K0 := Lib.hid (Cs.new w [.int .i64 n, .int .i64 k] 25)
  go_enter Try.func6, Try.ntmps6
  go_wp2_with fail
  refine (rat_b n k q1 _ H1).mono ?_
  rintro e w1 ⟨rfl, m1⟩
  have C1 := Lib.hid (K0.out.below m1)
  have B1 : Hid (Below w.heap.size w w1) := Lib.hid (bstep ((Below.refl w.heap.size w).alloc (Nat.le_refl _) _) m1)
  clear m1 K0
  cases q1 with
  | false =>
    obtain ⟨rfl, rfl, rfl⟩ := mv_out h.out (by rw [HR.out]; rfl)
    go_wp2
    go_ret3
    exact ⟨rfl, B1.out⟩
  | true =>
  go_wp2_with fail
  refine (rin_to d (-345600) 345600 q2 _ H2.out).mono ?_
  rintro e w2 ⟨rfl, rfl⟩
  cases q2 with
  | false =>
    obtain ⟨rfl, rfl, rfl⟩ := mv_out h.out (by rw [HR.out]; rfl)
    go_wp2
    go_ret3
    exact ⟨rfl, B1.out⟩
  | true =>
  go_wp2_with fail
  refine (rin_to s (-345600) 345600 q3 _ H3.out).mono ?_
  rintro e w2 ⟨rfl, rfl⟩
  cases q3 with
  | false =>
    obtain ⟨rfl, rfl, rfl⟩ := mv_out h.out (by rw [HR.out]; rfl)
    go_wp2
    go_ret3
    exact ⟨rfl, B1.out⟩
  | true =>
  go_wp2_with fail
  refine (rin_to now (-172800) 172800 q4 _ H4.out).mono ?_
  rintro e w2 ⟨rfl, rfl⟩
  cases q4 with
  | false =>
    obtain ⟨rfl, rfl, rfl⟩ := mv_out h.out (by rw [HR.out]; rfl)
    go_wp2
    go_ret3
    exact ⟨rfl, B1.out⟩
  | true =>
  have hb : mvB n k d s now = true := by rw [HR.out]; rfl
  obtain ⟨hu, u1, u2⟩ := ut_bd (n := n) (k := k) (d := d) (s := s) H1.out H2.out H3.out
  obtain ⟨hy1, hy2⟩ := mv_yes hb
  have b4 := of_decide_eq_true H4.out
  obtain ⟨U, hU⟩ : ∃ U, utV n k d s = U := ⟨_, rfl⟩
  rw [hU] at hy1 hy2 u1 u2
  have HU := Lib.hid hU
  have e1 : (U + now) / 86400 = v := by rw [← h.out.1, hy1]
  have e2 : (U + now) % 86400 = x := by rw [← h.out.2.1, hy2]
  have e3 : b = true := by rw [← h.out.2.2, hb]
  subst e3
  have E1 := Lib.hid e1
  have E2 := Lib.hid e2
  have s1 : IntKind.i64.wrap (U + now) = U + now := IntWalk.i64_in _ (by omega)
  have c0 := (C1.out.2 0 _ rfl).1
  have c1 := (C1.out.2 1 _ rfl).1
  clear hy1 hy2 hU e1 e2 hb
  go_wp2_with fail
  refine (rutc_to n k d s U _ hu HU).mono ?_
  rintro e w3 ⟨rfl, rfl⟩
  go_wp2_with fail
  refine (rdiv_l (U + now) 86400 v x _ (by decide) (by decide) (by omega) (by omega) E1.out E2.out).mono ?_
  rintro e w4 ⟨rfl, m4⟩
  go_wp2
  go_ret3
  exact ⟨rfl, bstep B1.out m4⟩
end Enc
end Go.Proofs.Ytkbgobbkhiaabaa
