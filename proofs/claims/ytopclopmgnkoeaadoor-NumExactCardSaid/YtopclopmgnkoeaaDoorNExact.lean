/-
  NumExact: the law answers true at every input, in whatever world that holds the table of powers of ten.
-/
import Derived.Test.YtopclopmgnkoeaaDoorRefNum3
namespace Go.Proofs.YtopclopmgnkoeaaDoor
open Go.RowKit
namespace RNum
theorem may_cases (a b : Int) : (¬ 1 ≤ b ∧ Sol.divB a b = false) ∨ (1 ≤ b ∧ Sol.inB a = false ∧ Sol.divB a b = false) ∨ (1 ≤ b ∧ Sol.inB a = true ∧ Sol.inB b = false ∧ Sol.divB a b = false) ∨ (1 ≤ b ∧ Sol.inB a = true ∧ Sol.inB b = true ∧ Sol.divB a b = true) := by
  by_cases h : 1 ≤ b
  · cases ha : Sol.inB a with
    | false => exact Or.inr (Or.inl ⟨h, rfl, Sol.divB_a ha⟩)
    | true =>
      cases hb : Sol.inB b with
      | false => exact Or.inr (Or.inr (Or.inl ⟨h, rfl, rfl, Sol.divB_b hb⟩))
      | true => exact Or.inr (Or.inr (Or.inr ⟨h, rfl, rfl, Sol.divB_mk h ha hb⟩))
  · exact Or.inl ⟨h, Sol.divB_1 h⟩

set_option maxRecDepth 100000 in
set_option maxHeartbeats 3200000 in
theorem nexact_any (a b d : Int) (s : ByteArray) (w : World) (hp : Pow w) (hs : s.size ≤ maxLen) (a1 : -9223372036854775808 ≤ a) (a2 : a ≤ 9223372036854775807) (b1 : -9223372036854775808 ≤ b) (b2 : b ≤ 9223372036854775807) (d1 : -9223372036854775808 ≤ d) (d2 : d ≤ 9223372036854775807) :
    Calls Tryd.prog 3 #[.int .i64 a, .int .i64 b, .string s, .int .i64 d] w fun e w' => e = .returned (.bool true) ∧ Below w.heap.size w w' := by
  have HP := Lib.hid hp
  have HZ := Lib.hid hs
  clear hp
  unfold maxLen at hs
  by_cases hlong : 100 < s.size
  · go_enter Tryd.func3, Tryd.ntmps3
    go_wp2
    go_ret
    exact ⟨rfl, Below.refl _ _⟩
  · have HC := Lib.hid (may_cases a b)
    have HV : Hid ((Sol.parseB s.data.toList = true ∧ Sol.parseV s.data.toList = Sol.digVal s.data.toList) ∨ (Sol.parseB s.data.toList = false ∧ Sol.parseV s.data.toList = 0)) := Lib.hid (by
      cases h : Sol.parseB s.data.toList with
      | true => exact Or.inl ⟨rfl, Sol.parseV_yes h⟩
      | false => exact Or.inr ⟨rfl, Sol.parseV_no h⟩)
    go_enter Tryd.func3, Tryd.ntmps3
    go_wp2_with fail
    refine (add_any _ _ _).mono ?_
    rintro e w1 ⟨rfl, rfl⟩
    go_wp2_with fail
    refine (mul_any _ _ _).mono ?_
    rintro e w1 ⟨rfl, rfl⟩
    go_wp2_with fail
    refine (div_any _ _ _ b1 b2).mono ?_
    rintro e w1 ⟨rfl, q, rfl⟩
    go_wp2_with fail
    refine (parse_any _ _ HZ.out).mono ?_
    rintro e w1 ⟨rfl, rfl⟩
    go_wp2_with fail
    refine (radd_any _ _ _).mono ?_
    rintro e w1 ⟨rfl, rfl⟩
    go_wp2_with fail
    refine (rmul_any _ _ _).mono ?_
    rintro e w1 ⟨rfl, rfl⟩
    generalize Sol.addV a b = x1 at *
    generalize Sol.addB a b = x2 at *
    generalize Sol.mulV a b = x3 at *
    generalize Sol.mulB a b = x4 at *
    go_wp2_with fail
    refine (text_any _ _ _ a1 a2 d1 d2 (HP.out.drewN q).here).mono ?_
    rintro e w1 ⟨rfl, hb1⟩
    go_wp2_with fail
    refine (rtext_any _ _ _ a1 a2 d1 d2).mono ?_
    rintro e w2 ⟨rfl, hb2⟩
    have hbw : Below w.heap.size w w2 := ((below_drewN (Below.refl _ _) q).trans hb1).trans (hb2.mono (by have := hb1.size; simpa using this))
    generalize Sol.textL a d = tx at *
    rcases HC.out with ⟨c1, c4⟩ | ⟨c1, c2, c4⟩ | ⟨c1, c2, c3, c4⟩ | ⟨c1, c2, c3, c4⟩
    · rw [Sol.divQ_no c4, Sol.divR_no c4, c4]
      clear c4
      go_wp2_with (go_at_call 23; refine (rbound_any _ _).mono ?_; rintro e w' ⟨rfl, rfl⟩)
      refine (rdigits_any _ _ HZ.out).mono ?_
      rintro e w3 ⟨rfl, rfl⟩
      rcases HV.out with ⟨p1, p2⟩ | ⟨p1, p2⟩
      · rw [p1, p2]
        have HPB := Lib.hid p1
        clear p1 p2
        go_wp2_with fail
        refine (rvalue_any _ _ HPB).mono ?_
        rintro e w3 ⟨rfl, rfl⟩
        generalize Sol.digVal s.data.toList = dv at *
        go_wp2_with fail
        refine (wakes1_any _ (HP.out.stays hbw)).mono ?_
        rintro e w4 ⟨rfl, hb4⟩
        go_wp2
        go_ret
        exact ⟨rfl, hbw.trans (hb4.mono hbw.size)⟩
      · rw [p1, p2]
        clear p1 p2
        go_wp2_with fail
        refine (wakes1_any _ (HP.out.stays hbw)).mono ?_
        rintro e w4 ⟨rfl, hb4⟩
        go_wp2
        go_ret
        exact ⟨rfl, hbw.trans (hb4.mono hbw.size)⟩
    · rw [Sol.divQ_no c4, Sol.divR_no c4, c4]
      clear c4
      go_wp2_with (go_at_call 23; refine (rbound_any _ _).mono ?_; rintro e w' ⟨rfl, rfl⟩)
      refine (rdigits_any _ _ HZ.out).mono ?_
      rintro e w3 ⟨rfl, rfl⟩
      rcases HV.out with ⟨p1, p2⟩ | ⟨p1, p2⟩
      · rw [p1, p2]
        have HPB := Lib.hid p1
        clear p1 p2
        go_wp2_with fail
        refine (rvalue_any _ _ HPB).mono ?_
        rintro e w3 ⟨rfl, rfl⟩
        generalize Sol.digVal s.data.toList = dv at *
        go_wp2_with fail
        refine (wakes1_any _ (HP.out.stays hbw)).mono ?_
        rintro e w4 ⟨rfl, hb4⟩
        go_wp2
        go_ret
        exact ⟨rfl, hbw.trans (hb4.mono hbw.size)⟩
      · rw [p1, p2]
        clear p1 p2
        go_wp2_with fail
        refine (wakes1_any _ (HP.out.stays hbw)).mono ?_
        rintro e w4 ⟨rfl, hb4⟩
        go_wp2
        go_ret
        exact ⟨rfl, hbw.trans (hb4.mono hbw.size)⟩
    · rw [Sol.divQ_no c4, Sol.divR_no c4, c4]
      clear c4
      go_wp2_with (go_at_call 23; refine (rbound_any _ _).mono ?_; rintro e w' ⟨rfl, rfl⟩)
      refine (rdigits_any _ _ HZ.out).mono ?_
      rintro e w3 ⟨rfl, rfl⟩
      rcases HV.out with ⟨p1, p2⟩ | ⟨p1, p2⟩
      · rw [p1, p2]
        have HPB := Lib.hid p1
        clear p1 p2
        go_wp2_with fail
        refine (rvalue_any _ _ HPB).mono ?_
        rintro e w3 ⟨rfl, rfl⟩
        generalize Sol.digVal s.data.toList = dv at *
        go_wp2_with fail
        refine (wakes1_any _ (HP.out.stays hbw)).mono ?_
        rintro e w4 ⟨rfl, hb4⟩
        go_wp2
        go_ret
        exact ⟨rfl, hbw.trans (hb4.mono hbw.size)⟩
      · rw [p1, p2]
        clear p1 p2
        go_wp2_with fail
        refine (wakes1_any _ (HP.out.stays hbw)).mono ?_
        rintro e w4 ⟨rfl, hb4⟩
        go_wp2
        go_ret
        exact ⟨rfl, hbw.trans (hb4.mono hbw.size)⟩
    · obtain ⟨k1, k2⟩ := (Sol.inB_iff a).1 c2
      obtain ⟨k3, k4⟩ := (Sol.inB_iff b).1 c3
      rw [Sol.divQ_yes c4, Sol.divR_yes c4, c4]
      clear c4
      go_wp2_with (go_at_call 23; refine (rbound_any _ _).mono ?_; rintro e w' ⟨rfl, rfl⟩)
      refine (rdiv_any _ _ _ c1 k4 k1 k2).mono ?_
      rintro e w3 ⟨rfl, q2, rfl⟩
      have hbw := below_drewN hbw q2
      generalize a / b = qq at *
      generalize a % b = rr at *
      go_wp2_with fail
      refine (rdigits_any _ _ HZ.out).mono ?_
      rintro e w3 ⟨rfl, rfl⟩
      rcases HV.out with ⟨p1, p2⟩ | ⟨p1, p2⟩
      · rw [p1, p2]
        have HPB := Lib.hid p1
        clear p1 p2
        go_wp2_with fail
        refine (rvalue_any _ _ HPB).mono ?_
        rintro e w3 ⟨rfl, rfl⟩
        generalize Sol.digVal s.data.toList = dv at *
        go_wp2_with fail
        refine (wakes1_any _ (HP.out.stays hbw)).mono ?_
        rintro e w4 ⟨rfl, hb4⟩
        go_wp2
        go_ret
        exact ⟨rfl, hbw.trans (hb4.mono hbw.size)⟩
      · rw [p1, p2]
        clear p1 p2
        go_wp2_with fail
        refine (wakes1_any _ (HP.out.stays hbw)).mono ?_
        rintro e w4 ⟨rfl, hb4⟩
        go_wp2
        go_ret
        exact ⟨rfl, hbw.trans (hb4.mono hbw.size)⟩
end RNum
end Go.Proofs.YtopclopmgnkoeaaDoor
