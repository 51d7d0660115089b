/-
  ClockBack: the law answers true at every two integers and every text, in whatever world that holds the table of powers of ten.
-/
import Derived.Test.YtpkknhbhliapcaaDoorClk4
import Derived.Test.YtpkknhbhliapcaaDoorRefNum
import Derived.Deep.DeepCutAuto
namespace Go.Proofs.YtpkknhbhliapcaaDoor
open Go.RowKit
namespace Clk
open Sol
theorem jn_split (t : Int) (t1 : -9223372036854775808 ≤ t) (t2 : t ≤ 9223372036854775807) : (inB t = true ∧ jnB (t / 86400) (t % 86400) = true ∧ jnV (t / 86400) (t % 86400) = t) ∨ (inB t = false ∧ jnB (t / 86400) (t % 86400) = false ∧ jnV (t / 86400) (t % 86400) = 0) := by
  by_cases h : -4611686018427387904 ≤ t ∧ t ≤ 4611686018427387904
  · obtain ⟨a, b⟩ := jn_yes (d := t / 86400) (s := t % 86400) (by omega)
    exact Or.inl ⟨(inB_iff t).2 h, a, by rw [b]; omega⟩
  · obtain ⟨a, b⟩ := jn_no (d := t / 86400) (s := t % 86400) (by omega)
    exact Or.inr ⟨inB_no h, a, b⟩
theorem bound_to (n : Int) (b : Bool) (w : World) (h : Hid (inB n = b)) :
    Calls Tryd.prog 45 #[.int .i64 n] w fun e w' => e = .returned (.bool b) ∧ w = w' :=
  (RNum.rbound_any n w).mono fun _ _ ⟨he, hw⟩ => ⟨by rw [he, h.out], hw⟩
theorem back_facts {n : Int} (h0 : -345600 ≤ n) (h1 : n ≤ 345600) : ∃ T : List UInt8, T.length ≤ 9 ∧ ctS n = T ∧ ctE n = 0 ∧ clV T = n ∧ clE T = 0 := by
  obtain ⟨a, b⟩ := ct_in (n := n) ⟨h0, h1⟩
  obtain ⟨c, d⟩ := cl_ct h0 h1
  refine ⟨ctL n, ?_, b, a, d, clE_yes c⟩
  unfold ctL
  split
  · have := body_len (m := -n) (by omega) (by omega); simp; omega
  · have := body_len (m := n) (by omega) (by omega); omega

set_option maxRecDepth 100000 in
set_option maxHeartbeats 3200000 in
theorem cback_any (n0 t : Int) (s : ByteArray) (w : World) (hp : Pow w) (t1 : -9223372036854775808 ≤ t) (t2 : t ≤ 9223372036854775807) :
    Calls Tryd.prog 7 #[.int .i64 n0, .int .i64 t, .string s] w fun e w' => e = .returned (.bool true) ∧ Below w.heap.size w w' := by
  have HP := Lib.hid hp
  clear hp
  by_cases hs : s.size ≤ 100
  · have n1 : -345601 < n0.tmod 345601 := by have := Int.lt_tmod_of_pos n0 (show (0 : Int) < 345601 by decide); omega
    have n2 : n0.tmod 345601 < 345601 := Int.tmod_lt_of_pos _ (by decide)
    obtain ⟨T, hT, f1, f2, f3, f4⟩ := back_facts (n := n0.tmod 345601) (by omega) (by omega)
    have CT := Lib.hid (And.intro f1 f2)
    have CP := Lib.hid (And.intro f3 f4)
    clear f1 f2 f3 f4
    obtain ⟨L, hL⟩ : ∃ L, s.data.toList = L := ⟨_, rfl⟩
    have SL := Lib.hid hL
    have HK := Lib.hid (fun h => cl_no (l := L) h)
    have HY := Lib.hid (fun h => clE_yes (l := L) h)
    obtain ⟨k0, k1⟩ := cl_bd (l := L)
    obtain ⟨K, hK⟩ : ∃ K, clV L = K := ⟨_, rfl⟩
    obtain ⟨E, hE⟩ : ∃ E, clE L = E := ⟨_, rfl⟩
    obtain ⟨cb, hcb⟩ : ∃ b, clB L = b := ⟨_, rfl⟩
    have PL := Lib.hid (And.intro hK hE)
    rw [hK] at HK k0 k1
    rw [hE] at HK HY
    rw [hcb] at HK HY
    obtain ⟨U, hU, g1, g2, g3, g4⟩ := back_facts k0 k1
    have CU := Lib.hid (And.intro g1 g2)
    have CQ := Lib.hid (And.intro g3 g4)
    clear g1 g2 g3 g4 hK hE hcb hL
    obtain ⟨B, J, JB, j1, j2, j3, hj⟩ : ∃ (B : Bool) (J : Int) (JB : Bool), inB t = B ∧ jnV (t / 86400) (t % 86400) = J ∧ jnB (t / 86400) (t % 86400) = JB ∧ ((B = true ∧ JB = true ∧ J = t) ∨ (B = false ∧ JB = false ∧ J = 0)) := by
      rcases jn_split t t1 t2 with ⟨a, b, c⟩ | ⟨a, b, c⟩
      · exact ⟨true, t, true, a, c, b, Or.inl ⟨rfl, rfl, rfl⟩⟩
      · exact ⟨false, 0, false, a, c, b, Or.inr ⟨rfl, rfl, rfl⟩⟩
    have GJ := Lib.hid (And.intro j2 j3)
    have GB := Lib.hid j1
    clear j1 j2 j3
    have q0 : 0 ≤ t % 86400 := by omega
    have q1 : t % 86400 < 86400 := by omega
    have zT : (⟨T.toArray⟩ : ByteArray).size ≤ maxLen := by show T.length ≤ _; unfold maxLen; omega
    have zU : (⟨U.toArray⟩ : ByteArray).size ≤ maxLen := by show U.length ≤ _; unfold maxLen; omega
    have zS : s.size ≤ maxLen := by unfold maxLen; omega
    have ZT := Lib.hid zT
    have ZU := Lib.hid zU
    have ZS := Lib.hid zS
    clear zT zU zS
    go_enter Tryd.func7, Tryd.ntmps7
    go_wp2_with fail
    generalize n0.tmod 345601 = n at *
    refine (ctext_to n T 0 _ HP.out CT).mono ?_
    rintro e w1 ⟨rfl, hb1⟩
    have HP1 := Lib.hid (HP.out.stays hb1)
    go_wp2_with fail
    refine (cparse_to _ T n 0 _ ZT.out (Lib.hid rfl) CP).mono ?_
    rintro e w2 ⟨rfl, m1, rfl⟩
    go_wp2_with fail
    refine (csplit_any _ _ (by omega) (by omega)).mono ?_
    rintro e w2 ⟨rfl, m2, rfl⟩
    go_wp2_with fail
    refine (cjoin_to _ _ J JB _ (by omega) (by omega) GJ).mono ?_
    rintro e w2 ⟨rfl, m3, rfl⟩
    have hb2 := below_drewN hb1 (m1 + m2 + m3)
    rcases hj with ⟨rfl, rfl, rfl⟩ | ⟨rfl, rfl, rfl⟩
    all_goals
      go_wp2_with fail
      refine (bound_to _ _ _ GB).mono ?_
      rintro e w2 ⟨rfl, rfl⟩
      go_wp2_with fail
      refine (cparse_to _ L K E _ ZS.out SL PL).mono ?_
      rintro e w2 ⟨rfl, m4, rfl⟩
      cases cb with
      | false =>
        obtain ⟨e1, e2⟩ := HK.out rfl
        subst e1 e2
        go_wp2_with fail
        refine (wakes4_any _ (HP.out.stays (by repeat (first | exact hb1 | refine below_drewN ?_ _)))).mono ?_
        rintro e w5 ⟨rfl, hb5⟩
        go_wp2
        go_ret
        exact ⟨rfl, Below.trans (by repeat (first | exact hb1 | refine below_drewN ?_ _)) (hb5.mono (by have := hb1.size; simpa using this))⟩
      | true =>
        have e1 := HY.out rfl
        subst e1
        go_wp2_with fail
        refine (ctext_to K U 0 _ (HP.out.stays (by repeat (first | exact hb1 | refine below_drewN ?_ _))) CU).mono ?_
        rintro e w5 ⟨rfl, hb5⟩
        have hb6 : Below w.heap.size w w5 := Below.trans (by repeat (first | exact hb1 | refine below_drewN ?_ _)) (hb5.mono (by have := hb1.size; simpa using this))
        go_wp2_with fail
        refine (cparse_to _ U K 0 _ ZU.out (Lib.hid rfl) CQ).mono ?_
        rintro e w6 ⟨rfl, m5, rfl⟩
        go_wp2_with fail
        refine (wakes4_any _ (HP.out.stays (below_drewN hb6 _))).mono ?_
        rintro e w7 ⟨rfl, hb7⟩
        go_wp2
        go_ret
        exact ⟨rfl, (below_drewN hb6 _).trans (hb7.mono (by have := hb6.size; simpa using this))⟩
  · have hs2 : 100 < s.size := by omega
    clear hs
    go_enter Tryd.func7, Tryd.ntmps7
    go_wp2
    go_ret
    exact ⟨rfl, Below.refl _ _⟩
end Clk
end Go.Proofs.YtpkknhbhliapcaaDoor
