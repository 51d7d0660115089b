/-
  NumBack: the law answers true at every two integers, in whatever world that holds the table of powers of ten.
-/
import Derived.Test.YtopclopmgnkoeaaDoorEdges
import Derived.Deep.DeepCutAuto
namespace Go.Proofs.YtopclopmgnkoeaaDoor
open Go.RowKit

theorem nb_q {a b : Int} (h : Sol.divB a b = true) : 1 ≤ b ∧ -4611686018427387904 ≤ a ∧ a ≤ 4611686018427387904 ∧ b ≤ 4611686018427387904 := by
  simp only [Sol.divB, Bool.and_eq_true, decide_eq_true_eq] at h
  have h1 := (Sol.inB_iff a).1 h.1.2
  have h2 := (Sol.inB_iff b).1 h.2
  omega
theorem nb_r {a b : Int} (h : 1 ≤ b) : 0 ≤ a % b ∧ a % b < b := ⟨Int.emod_nonneg a (by omega), Int.emod_lt_of_pos a (by omega)⟩
theorem nb_sum (a b : Int) : a / b * b + a % b = a := Int.ediv_mul_add_emod a b
theorem nb_inB_of_mul {a b : Int} (h : Sol.mulB a b = true) : (-4611686018427387904 ≤ a ∧ a ≤ 4611686018427387904) ∧ (-4611686018427387904 ≤ b ∧ b ≤ 4611686018427387904) ∧ (-4611686018427387904 ≤ a * b ∧ a * b ≤ 4611686018427387904) := by
  simp only [Sol.mulB, Bool.and_eq_true] at h
  exact ⟨(Sol.inB_iff _).1 h.1.1, (Sol.inB_iff _).1 h.1.2, (Sol.inB_iff _).1 h.2⟩
theorem nb_inB_of_add {a b : Int} (h : Sol.addB a b = true) : (-4611686018427387904 ≤ a ∧ a ≤ 4611686018427387904) ∧ (-4611686018427387904 ≤ b ∧ b ≤ 4611686018427387904) ∧ (-4611686018427387904 ≤ a + b ∧ a + b ≤ 4611686018427387904) := by
  simp only [Sol.addB, Bool.and_eq_true] at h
  exact ⟨(Sol.inB_iff _).1 h.1.1, (Sol.inB_iff _).1 h.1.2, (Sol.inB_iff _).1 h.2⟩
theorem nb_pdiv {a b : Int} (hb : 0 < b) (h : Sol.mulB a b = true) : Sol.divB (a * b) b = true ∧ Sol.divQ (a * b) b = a ∧ Sol.divR (a * b) b = 0 := by
  obtain ⟨h1, h2, h3⟩ := nb_inB_of_mul h
  have k := Sol.divB_mk (a := a * b) (b := b) (by omega) ((Sol.inB_iff _).2 h3) ((Sol.inB_iff _).2 h2)
  exact ⟨k, by rw [Sol.divQ_yes k, Int.mul_ediv_cancel a (by omega)], by rw [Sol.divR_yes k, Int.mul_emod_left]⟩

set_option maxRecDepth 100000 in
set_option maxHeartbeats 800000 in
theorem back_any (a b : Int) (w : World) (hp : Pow w) (a1 : -9223372036854775808 ≤ a) (a2 : a ≤ 9223372036854775807) (b1 : -9223372036854775808 ≤ b) (b2 : b ≤ 9223372036854775807) :
    Calls Tryd.prog 4 #[.int .i64 a, .int .i64 b] w fun e w' => e = .returned (.bool true) ∧ Below w.heap.size w w' := by
  have HP := Lib.hid hp
  clear hp
  obtain ⟨bd, hd⟩ : ∃ x, Sol.divB a b = x := ⟨_, rfl⟩
  have HD := Lib.hid hd
  clear hd
  obtain ⟨q, hq⟩ : ∃ x, Sol.divQ a b = x := ⟨_, rfl⟩
  have HQ := Lib.hid hq
  clear hq
  obtain ⟨r, hr⟩ : ∃ x, Sol.divR a b = x := ⟨_, rfl⟩
  have HR := Lib.hid hr
  clear hr
  go_enter Tryd.func4, Tryd.ntmps4
  go_upto_if 28 with (go_at_call 17; refine (div_any _ _ _ b1 b2).mono ?_; rintro e w1 ⟨rfl, n, rfl⟩; rw [HD.out, HQ.out, HR.out])
  go_cut [] (fun wx => ∃ n : Nat, wx = w.drewN n)
  case first =>
    cases bd with
    | false =>
      go_wp2
      go_meet
      exact ⟨_, rfl⟩
    | true =>
      obtain ⟨k1, k2, k3, k4⟩ := nb_q HD.out
      obtain ⟨k5, k6, hs⟩ : 0 ≤ r ∧ r < b ∧ q * b + r = a := by
        have e1 := HQ.out
        have e2 := HR.out
        rw [Sol.divQ_yes HD.out] at e1
        rw [Sol.divR_yes HD.out] at e2
        rw [← e1, ← e2]
        exact ⟨(nb_r (a := a) k1).1, (nb_r (a := a) k1).2, nb_sum a b⟩
      have HS := Lib.hid hs
      clear hs
      obtain ⟨be, hbe⟩ : ∃ x, Sol.mulB q b = x := ⟨_, rfl⟩
      have HE := Lib.hid hbe
      clear hbe
      go_wp2_with fail
      refine (mul_any _ _ _).mono ?_
      rintro e w1 ⟨rfl, rfl⟩
      rw [HE.out]
      cases be with
      | false =>
        rw [Sol.mulV_no HE.out]
        go_wp2_with fail
        refine (add_any _ _ _).mono ?_
        rintro e w1 ⟨rfl, rfl⟩
        go_wp2
        go_meet
        exact ⟨_, rfl⟩
      | true =>
        rw [Sol.mulV_yes HE.out]
        have HA : Hid (Sol.addB (q * b) r = true ∧ Sol.addV (q * b) r = a) := by
          obtain ⟨t1, t2, t3⟩ := nb_inB_of_mul HE.out
          have t4 := HS.out
          have t5 := e_add (a := q * b) (b := r) t3 (by omega) (by omega)
          exact Lib.hid ⟨t5.1, t5.2.trans t4⟩
        go_wp2_with fail
        refine (add_any _ _ _).mono ?_
        rintro e w1 ⟨rfl, rfl⟩
        rw [HA.out.1, HA.out.2]
        go_wp2
        go_meet
        exact ⟨_, rfl⟩
  case rest =>
    obtain ⟨n, rfl⟩ := hcut
    obtain ⟨bs, hs⟩ : ∃ x, Sol.addB a b = x := ⟨_, rfl⟩
    have HS := Lib.hid hs
    clear hs
    obtain ⟨sm, hsm⟩ : ∃ x, Sol.addV a b = x := ⟨_, rfl⟩
    have HV := Lib.hid hsm
    clear hsm
    go_upto_if 66 with (go_at_call 15; refine (add_any _ _ _).mono ?_; rintro e w1 ⟨rfl, rfl⟩; rw [HS.out, HV.out])
    go_cut [] (fun wx => ∃ n : Nat, wx = w.drewN n)
    case first =>
      cases bs with
      | false =>
        go_wp2
        go_meet
        exact ⟨_, rfl⟩
      | true =>
        obtain ⟨⟨t1, t2⟩, ⟨t3, t4⟩, t5, t6⟩ := nb_inB_of_add HS.out
        have e0 := HV.out
        rw [Sol.addV_yes HS.out] at e0
        have e1 : sm + -a = b := by omega
        have HA := Lib.hid (e_add (a := sm) (b := -a) (by omega) (by omega) (by omega))
        have HE := Lib.hid e1
        clear e1 e0
        go_wp2_with fail
        refine (add_any _ _ _).mono ?_
        rintro e w1 ⟨rfl, rfl⟩
        rw [HA.out.1, HA.out.2, HE.out]
        go_wp2
        go_meet
        exact ⟨_, rfl⟩
    case rest =>
      obtain ⟨n, rfl⟩ := hcut
      obtain ⟨bm, hm⟩ : ∃ x, Sol.mulB a b = x := ⟨_, rfl⟩
      have HM := Lib.hid hm
      clear hm
      go_wp2_with fail
      refine (mul_any _ _ _).mono ?_
      rintro e w1 ⟨rfl, rfl⟩
      rw [HM.out]
      cases bm with
      | false =>
        go_wp2_with fail
        refine (wakes1_any _ (HP.out.drewN n)).mono ?_
        rintro e w2 ⟨rfl, hb⟩
        go_wp2
        go_ret
        exact ⟨rfl, (below_drewN (Below.refl _ _) n).trans hb⟩
      | true =>
        by_cases hb0 : 0 < b
        · have HX := Lib.hid (nb_pdiv hb0 HM.out)
          rw [Sol.mulV_yes HM.out]
          go_wp2_with fail
          refine (div_any _ _ _ b1 b2).mono ?_
          rintro e w1 ⟨rfl, n2, rfl⟩
          rw [HX.out.1, HX.out.2.1, HX.out.2.2]
          go_wp2_with fail
          refine (wakes1_any _ (HP.out.drewN _)).mono ?_
          rintro e w2 ⟨rfl, hb⟩
          go_wp2
          go_ret
          exact ⟨rfl, (below_drewN (Below.refl _ _) _).trans hb⟩
        · go_wp2_with fail
          refine (wakes1_any _ (HP.out.drewN n)).mono ?_
          rintro e w2 ⟨rfl, hb⟩
          go_wp2
          go_ret
          exact ⟨rfl, (below_drewN (Below.refl _ _) n).trans hb⟩
end Go.Proofs.YtopclopmgnkoeaaDoor
