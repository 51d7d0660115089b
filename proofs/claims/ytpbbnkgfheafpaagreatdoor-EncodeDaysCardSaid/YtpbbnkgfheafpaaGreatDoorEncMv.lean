/-
  Contract of package encode: Move.
-/
import Derived.Test.YtpbbnkgfheafpaaGreatDoorBdF
namespace Go.Proofs.YtpbbnkgfheafpaaGreatDoor
open Go.RowKit
namespace Enc
open Sol Clk Atf
def mvB (n k d s now : Int) : Bool := atOk n k && decide (-172800 ≤ now ∧ now ≤ 172800) && utB n k d s
def mvD (n k d s now : Int) : Int := if mvB n k d s now then (utV n k d s + now) / 86400 else 0
def mvS (n k d s now : Int) : Int := if mvB n k d s now then (utV n k d s + now) % 86400 else 0
theorem ret_iib {a a' b b' : Int} {c c' : Bool} (h1 : a = a') (h2 : b = b') (h3 : c = c') : Ending.returned (.tuple #[.int .i64 a, .int .i64 b, .bool c]) = .returned (.tuple #[.int .i64 a', .int .i64 b', .bool c']) := by rw [h1, h2, h3]
theorem mv_no {n k d s now : Int} (h : mvB n k d s now = false) : mvD n k d s now = 0 ∧ mvS n k d s now = 0 := ⟨by rw [mvD, h]; rfl, by rw [mvS, h]; rfl⟩
theorem mv_yes {n k d s now : Int} (h : mvB n k d s now = true) : mvD n k d s now = (utV n k d s + now) / 86400 ∧ mvS n k d s now = (utV n k d s + now) % 86400 := ⟨by rw [mvD, if_pos h], by rw [mvS, if_pos h]⟩
set_option maxHeartbeats 1600000 in
set_option maxRecDepth 100000 in
theorem move_any (n k d s now : Int) (w : World) (k1 : -9223372036854775808 ≤ k) (k2 : k ≤ 9223372036854775807) :
    Calls Tryz.prog 15 #[.agg #[.int .i64 n, .int .i64 k], .int .i64 d, .int .i64 s, .int .i64 now] w fun e w' => e = .returned (.tuple #[.int .i64 (mvD n k d s now), .int .i64 (mvS n k d s now), .bool (mvB n k d s now)]) ∧ Below w.heap.size w w' := by
  have HB : Hid (mvB n k d s now = (atOk n k && decide (-172800 ≤ now ∧ now ≤ 172800) && utB n k d s)) := Lib.hid rfl
  cases ho : atOk n k with
  | false =>
    have H : Hid (mvB n k d s now = false) := Lib.hid (by rw [HB.out, ho]; rfl)
    have HC : Hid (atE n k = 9) := Lib.hid (by rw [atE, ho]; rfl)
    clear ho
    go_enter Tryz.func15, Tryz.ntmps15
    go_wp2_with fail
    refine (acheck_to _ _ _ _ HC).mono ?_
    rintro e w1 ⟨rfl, rfl⟩
    go_wp2
    go_ret3
    exact ⟨ret_iib (mv_no H.out).1.symm (mv_no H.out).2.symm H.out.symm, by repeat (first | exact Below.refl _ _ | refine Below.alloc ?_ (by simp; try omega) _)⟩
  | true =>
    have HC : Hid (atE n k = 0) := Lib.hid (by rw [atE, if_pos ho])
    have hn : -345600 ≤ n ∧ n ≤ 345600 := by rw [atOk, Bool.and_eq_true] at ho; exact of_decide_eq_true ho.1
    have HO := Lib.hid ho
    clear ho
    by_cases h1 : now < -172800
    · have H : Hid (mvB n k d s now = false) := Lib.hid (by rw [HB.out, decide_eq_false (show ¬ (-172800 ≤ now ∧ now ≤ 172800) by omega)]; simp)
      go_enter Tryz.func15, Tryz.ntmps15
      go_wp2_with fail
      refine (acheck_to _ _ _ _ HC).mono ?_
      rintro e w1 ⟨rfl, rfl⟩
      go_wp2
      go_ret3
      exact ⟨ret_iib (mv_no H.out).1.symm (mv_no H.out).2.symm H.out.symm, by repeat (first | exact Below.refl _ _ | refine Below.alloc ?_ (by simp; try omega) _)⟩
    · have h1' : -172800 ≤ now := by omega
      clear h1
      by_cases h2 : 172800 < now
      · have H : Hid (mvB n k d s now = false) := Lib.hid (by rw [HB.out, decide_eq_false (show ¬ (-172800 ≤ now ∧ now ≤ 172800) by omega)]; simp)
        go_enter Tryz.func15, Tryz.ntmps15
        go_wp2_with fail
        refine (acheck_to _ _ _ _ HC).mono ?_
        rintro e w1 ⟨rfl, rfl⟩
        go_wp2
        go_ret3
        exact ⟨ret_iib (mv_no H.out).1.symm (mv_no H.out).2.symm H.out.symm, by repeat (first | exact Below.refl _ _ | refine Below.alloc ?_ (by simp; try omega) _)⟩
      · have h2' : now ≤ 172800 := by omega
        clear h2
        have HU : Hid (mvB n k d s now = utB n k d s) := Lib.hid (by rw [HB.out, HO.out, decide_eq_true ⟨h1', h2'⟩]; simp)
        obtain ⟨u, hu⟩ : ∃ u, utV n k d s = u := ⟨_, rfl⟩
        cases hb : utB n k d s with
        | false =>
          have H : Hid (mvB n k d s now = false) := Lib.hid (by rw [HU.out, hb])
          have HX := Lib.hid (And.intro hu hb)
          clear hu hb
          go_enter Tryz.func15, Tryz.ntmps15
          go_wp2_with fail
          refine (acheck_to _ _ _ _ HC).mono ?_
          rintro e w1 ⟨rfl, rfl⟩
          go_wp2_with fail
          refine (utc_to _ _ _ _ _ _ _ k1 k2 HX).mono ?_
          rintro e w2 ⟨rfl, rfl⟩
          go_wp2
          go_ret3
          exact ⟨ret_iib (mv_no H.out).1.symm (mv_no H.out).2.symm H.out.symm, by repeat (first | exact Below.refl _ _ | refine Below.alloc ?_ (by simp; try omega) _)⟩
        | true =>
          have H : Hid (mvB n k d s now = true) := Lib.hid (by rw [HU.out, hb])
          have HD : Hid (mvD n k d s now = (u + now) / 86400 ∧ mvS n k d s now = (u + now) % 86400) := Lib.hid (by rw [← hu]; exact mv_yes H.out)
          have hub : -1036800 ≤ u ∧ u ≤ 1036800 := by
            have h3 := hb
            rw [utB, Bool.and_eq_true, Bool.and_eq_true] at h3
            have hd : -345600 ≤ d ∧ d ≤ 345600 := of_decide_eq_true h3.1.2
            have hs : -345600 ≤ s ∧ s ≤ 345600 := of_decide_eq_true h3.2
            rw [← hu, utV, if_pos hb]
            split
            · omega
            · split <;> omega
          have HX := Lib.hid (And.intro hu hb)
          clear hu hb
          obtain ⟨u1, u2⟩ := hub
          go_enter Tryz.func15, Tryz.ntmps15
          go_wp2_with fail
          refine (acheck_to _ _ _ _ HC).mono ?_
          rintro e w1 ⟨rfl, rfl⟩
          go_wp2_with fail
          refine (utc_to _ _ _ _ _ _ _ k1 k2 HX).mono ?_
          rintro e w2 ⟨rfl, rfl⟩
          go_wp2_with fail
          refine (csplit_any _ _ (by omega) (by omega)).mono ?_
          rintro e w3 ⟨rfl, q, rfl⟩
          go_wp2
          go_ret3
          exact ⟨ret_iib HD.out.1.symm HD.out.2.symm H.out.symm, by repeat (first | exact Below.refl _ _ | refine below_drewN ?_ _ | refine Below.alloc ?_ (by simp; try omega) _)⟩
theorem move_to (n k d s now v x : Int) (b : Bool) (w : World) (k1 : -9223372036854775808 ≤ k) (k2 : k ≤ 9223372036854775807) (h : Hid (mvD n k d s now = v ∧ mvS n k d s now = x ∧ mvB n k d s now = b)) :
    Calls Tryz.prog 15 #[.agg #[.int .i64 n, .int .i64 k], .int .i64 d, .int .i64 s, .int .i64 now] w fun e w' => e = .returned (.tuple #[.int .i64 v, .int .i64 x, .bool b]) ∧ Below w.heap.size w w' :=
  (move_any n k d s now w k1 k2).mono fun _ _ ⟨he, hw⟩ => ⟨by rw [he, h.out.1, h.out.2.1, h.out.2.2], hw⟩
end Enc
end Go.Proofs.YtpbbnkgfheafpaaGreatDoor
