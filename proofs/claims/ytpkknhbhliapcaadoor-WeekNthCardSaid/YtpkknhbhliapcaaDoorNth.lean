/-
  WeekNth: the law answers true at every four integers, in whatever world that holds the table of the months.
-/
import Derived.Test.YtpkknhbhliapcaaDoorLaw3
namespace Go.Proofs.YtpkknhbhliapcaaDoor
open Go.RowKit
namespace Wk
open Civ
/-- How many of the first j days from f on are of the weekday k. -/
def cnt (f k j : Int) : Int := (j + 6 - untl f k) / 7
theorem cnt_hit {f k j : Int} (h : Cal.wday (f + j) = k) : cnt f k (j + 1) = cnt f k j + 1 ∧ f + (untl f k + 7 * (cnt f k j + 1 - 1)) = f + j := by
  unfold cnt untl Cal.wday at *; omega
theorem cnt_miss {f k j : Int} (hk : 0 ≤ k ∧ k ≤ 6) (h : Cal.wday (f + j) ≠ k) : cnt f k (j + 1) = cnt f k j := by
  have e : ∀ x, Cal.wday x = (x + 4) % 7 := fun _ => rfl
  simp only [cnt, untl, e] at h ⊢
  omega
theorem cnt_bd {f k j : Int} (h0 : 0 ≤ j) (h1 : j ≤ 800) : 0 ≤ cnt f k j ∧ cnt f k j ≤ 116 := by
  have := untl_bd f k
  unfold cnt; omega
theorem cnt_last (f k n : Int) : f + n - since k (f + n) = f + untl f k + 7 * (cnt f k (n + 1) - 1) := by
  unfold cnt untl since Cal.wday at *; omega
theorem cnt_le (f k n num : Int) : f + (untl f k + 7 * (num - 1)) ≤ f + n ↔ num ≤ cnt f k (n + 1) := by
  have := untl_bd f k
  unfold cnt; omega

theorem cnt_0 (f k : Int) : cnt f k 0 = 0 := by have := untl_bd f k; unfold cnt; omega
theorem nth_to (f t num k v : Int) (b : Bool) (w : World) (f1 : -9223372036854775808 ≤ f) (f2 : f ≤ 9223372036854775807) (t1 : -9223372036854775808 ≤ t) (t2 : t ≤ 9223372036854775807) (h1 : Hid (nthV f t num k = v)) (h2 : Hid (nthB f t num k = b)) :
    Calls Tryd.prog 26 #[.int .i64 f, .int .i64 t, .int .i64 num, .int .i64 k] w fun e w' => e = .returned (.tuple #[.int .i64 v, .bool b]) ∧ w = w' :=
  (nth_any f t num k w f1 f2 t1 t2).mono fun _ _ ⟨he, hw⟩ => ⟨by rw [he, h1.out, h2.out], hw⟩
theorem tail_facts (f n K m : Int) (hk : 0 ≤ K ∧ K ≤ 6) (m0 : 0 ≤ m) (m1 : m < 400) (c0 : 0 ≤ cnt f K (n + 1)) (c1 : cnt f K (n + 1) ≤ 116) :
    ∃ (v v2 : Int) (b b2 : Bool), Hid (nthV f (f + n) (1 + m) K = v) ∧ Hid (nthB f (f + n) (1 + m) K = b) ∧ Hid (nthV f (f + n) (1 + m - cnt f K (n + 1) - 1) K = v2) ∧ Hid (nthB f (f + n) (1 + m - cnt f K (n + 1) - 1) K = b2) ∧ ((1 + m ≤ cnt f K (n + 1) ∧ b = true ∧ b2 = true ∧ v2 = v) ∨ (cnt f K (n + 1) < 1 + m ∧ b = false)) := by
  have eL := cnt_last f K n
  have ub := untl_bd f K
  by_cases h : 1 + m ≤ cnt f K (n + 1)
  · obtain ⟨p1, p2⟩ := nth_pos (f := f) (t := f + n) (num := 1 + m) (k := K) (by omega) (by omega) ((cnt_le f K n _).2 h)
    obtain ⟨p3, p4⟩ := nth_neg (f := f) (t := f + n) (num := 1 + m - cnt f K (n + 1) - 1) (k := K) (by omega) (by omega) (by omega)
    exact ⟨_, _, _, _, Lib.hid rfl, Lib.hid p1, Lib.hid rfl, Lib.hid p3, Or.inl ⟨h, rfl, rfl, by rw [p2, p4]; omega⟩⟩
  · obtain ⟨p1, p2⟩ := nth_no (f := f) (t := f + n) (num := 1 + m) (k := K) (by rw [cnt_le]; omega)
    exact ⟨_, _, _, _, Lib.hid rfl, Lib.hid p1, Lib.hid rfl, Lib.hid rfl, Or.inr ⟨by omega, rfl⟩⟩
theorem none_facts (f n K : Int) : (nthB f (f + n) 0 K = false ∧ nthV f (f + n) 0 K = 0) ∧ (nthB (f + 1) f 1 K = false ∧ nthV (f + 1) f 1 K = 0) :=
  ⟨nth_no (by omega), nth_no (by have := untl_bd (f + 1) K; omega)⟩

set_option maxRecDepth 100000 in
set_option maxHeartbeats 3200000 in
theorem wnth_any (ff nn num0 kk : Int) (w : World) (hA : Ahead w) :
    Calls Tryd.prog 5 #[.int .i64 ff, .int .i64 nn, .int .i64 num0, .int .i64 kk] w fun e w' => e = .returned (.bool true) ∧ Below w.heap.size w w' := by
  have HA := Lib.hid hA
  clear hA
  have f0 : -4000000 < ff.tmod 4000000 := by have := Int.lt_tmod_of_pos ff (show (0 : Int) < 4000000 by decide); omega
  have f1 : ff.tmod 4000000 < 4000000 := Int.tmod_lt_of_pos _ (by decide)
  have n0 : 0 ≤ (IntKind.u64.wrap nn).tmod 800 := Int.tmod_nonneg _ (u64_nn nn)
  have n1 : (IntKind.u64.wrap nn).tmod 800 < 800 := Int.tmod_lt_of_pos _ (by omega)
  have k0 : 0 ≤ (IntKind.u64.wrap kk).tmod 7 := Int.tmod_nonneg _ (u64_nn kk)
  have k1 : (IntKind.u64.wrap kk).tmod 7 < 7 := Int.tmod_lt_of_pos _ (by omega)
  have m0 : 0 ≤ (IntKind.u64.wrap num0).tmod 400 := Int.tmod_nonneg _ (u64_nn num0)
  have m1 : (IntKind.u64.wrap num0).tmod 400 < 400 := Int.tmod_lt_of_pos _ (by omega)
  go_enter Tryd.func5, Tryd.ntmps5
  go_wp2_with fail
  generalize ff.tmod 4000000 = f at *
  generalize (IntKind.u64.wrap nn).tmod 800 = n at *
  generalize (IntKind.u64.wrap kk).tmod 7 = K at *
  have hk : 0 ≤ K ∧ K ≤ 6 := ⟨k0, by omega⟩
  go_loop [9, 10] (fun c I => ∃ i : Int, f ≤ i ∧ i ≤ f + n + 1 ∧ I = .int .i64 i ∧ c = .int .i64 (cnt f K (i - f))) (fun _ I => (f + n + 1 - intOf I).toNat)
  case atStart => exact ⟨f, by omega, by omega, rfl, by rw [Int.sub_self, cnt_0]⟩
  case round =>
    obtain ⟨i, i0, i1, rfl, rfl⟩ := hrel
    obtain ⟨c0, c1⟩ := cnt_bd (f := f) (k := K) (j := i - f) (by omega) (by omega)
    by_cases hi : i ≤ f + n
    · by_cases hw : Cal.wday i = K
      · obtain ⟨h1, h2⟩ := cnt_hit (f := f) (k := K) (j := i - f) (by rw [show f + (i - f) = i by omega]; exact hw)
        obtain ⟨p1, p2⟩ := nth_pos (f := f) (t := f + n) (num := cnt f K (i - f) + 1) (k := K) (by omega) (by omega) (by omega)
        have P1 := Lib.hid p1
        have P2 : Hid (nthV f (f + n) (cnt f K (i - f) + 1) K = i) := Lib.hid (by rw [p2]; omega)
        have H1 : Hid (cnt f K (i + 1 - f) = cnt f K (i - f) + 1) := Lib.hid (by rw [← h1]; congr 1; omega)
        have HW := Lib.hid hw
        clear h1 h2 p1 p2 hw
        generalize cnt f K (i - f) = q at *
        go_wp2_with fail
        refine (weekday_any _ _).mono ?_
        rintro e w1 ⟨rfl, rfl⟩
        rw [HW.out]
        go_wp2_with fail
        refine (nth_to _ _ _ _ _ _ _ (by omega) (by omega) (by omega) (by omega) P2 P1).mono ?_
        rintro e w1 ⟨rfl, rfl⟩
        go_wp2
        go_round
        case rel => exact ⟨i + 1, by omega, by omega, rfl, by rw [H1.out]⟩
        case measure => simp [intOf]; omega
      · have H1 : Hid (cnt f K (i + 1 - f) = cnt f K (i - f)) := Lib.hid (by rw [← cnt_miss (f := f) (k := K) (j := i - f) hk (by rw [show f + (i - f) = i by omega]; exact hw)]; congr 1; omega)
        have hb : (Cal.wday i == K) = false := beq_eq_false_iff_ne.2 hw
        clear hw
        go_wp2_with fail
        refine (weekday_any _ _).mono ?_
        rintro e w1 ⟨rfl, rfl⟩
        go_wp2
        go_round
        case rel => exact ⟨i + 1, by omega, by omega, rfl, by rw [H1.out]⟩
        case measure => simp [intOf]; omega
    · obtain rfl : i = f + n + 1 := by omega
      rw [show f + n + 1 - f = n + 1 by omega] at c0 c1 ⊢
      obtain ⟨⟨q1, q2⟩, q3, q4⟩ := none_facts f n K
      have Q1 := Lib.hid q1
      have Q2 := Lib.hid q2
      have Q3 := Lib.hid q3
      have Q4 := Lib.hid q4
      clear q1 q2 q3 q4
      go_wp2_with fail
      generalize (IntKind.u64.wrap num0).tmod 400 = m at *
      obtain ⟨v, v2, b, b2, V, B, V2, B2, hv⟩ := tail_facts f n K m hk m0 m1 c0 c1
      generalize cnt f K (n + 1) = q at *
      rcases hv with ⟨g1, rfl, rfl, rfl⟩ | ⟨g1, rfl⟩
      · refine (nth_to _ _ _ _ _ _ _ (by omega) (by omega) (by omega) (by omega) V B).mono ?_
        rintro e w1 ⟨rfl, rfl⟩
        go_wp2_with fail
        refine (nth_to _ _ _ _ _ _ _ (by omega) (by omega) (by omega) (by omega) V2 B2).mono ?_
        rintro e w1 ⟨rfl, rfl⟩
        go_wp2_with fail
        refine (nth_to _ _ _ _ _ _ _ (by omega) (by omega) (by omega) (by omega) Q2 Q1).mono ?_
        rintro e w1 ⟨rfl, rfl⟩
        go_wp2_with fail
        refine (nth_to _ _ _ _ _ _ _ (by omega) (by omega) (by omega) (by omega) Q4 Q3).mono ?_
        rintro e w1 ⟨rfl, rfl⟩
        go_wp2_with fail
        refine (wakes3_any _ HA.out).mono ?_
        rintro e w5 ⟨rfl, hb5⟩
        go_wp2
        go_ret
        exact ⟨rfl, hb5⟩
      · refine (nth_to _ _ _ _ _ _ _ (by omega) (by omega) (by omega) (by omega) V B).mono ?_
        rintro e w1 ⟨rfl, rfl⟩
        go_wp2_with fail
        refine (nth_to _ _ _ _ _ _ _ (by omega) (by omega) (by omega) (by omega) V2 B2).mono ?_
        rintro e w1 ⟨rfl, rfl⟩
        go_wp2_with fail
        refine (nth_to _ _ _ _ _ _ _ (by omega) (by omega) (by omega) (by omega) Q2 Q1).mono ?_
        rintro e w1 ⟨rfl, rfl⟩
        go_wp2_with fail
        refine (nth_to _ _ _ _ _ _ _ (by omega) (by omega) (by omega) (by omega) Q4 Q3).mono ?_
        rintro e w1 ⟨rfl, rfl⟩
        go_wp2_with fail
        refine (wakes3_any _ HA.out).mono ?_
        rintro e w5 ⟨rfl, hb5⟩
        go_wp2
        go_ret
        exact ⟨rfl, hb5⟩
end Wk
end Go.Proofs.YtpkknhbhliapcaaDoor
