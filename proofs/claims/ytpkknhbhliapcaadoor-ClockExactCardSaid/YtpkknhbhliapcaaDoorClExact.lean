/-
  ClockExact: the law answers true at every text and every three numbers, in whatever world that holds the table of powers of ten.
-/
import Derived.Test.YtpkknhbhliapcaaDoorRefClk3
namespace Go.Proofs.YtpkknhbhliapcaaDoor
open Go.RowKit
namespace Clk
open Sol
theorem rclock_to (s : ByteArray) (L : List UInt8) (v : Int) (b : Bool) (w : World) (hs : s.size ≤ 1000) (hL : Hid (s.data.toList = L)) (h : Hid (clV L = v ∧ clB L = b)) :
    Calls Tryd.prog 40 #[.string s] w fun e w' => e = .returned (.tuple #[.int .i64 v, .bool b]) ∧ Below w.heap.size w w' :=
  (rclock_any s L w hs hL).mono fun _ _ ⟨he, hw⟩ => ⟨by rw [he, h.out.1, h.out.2], hw⟩
theorem rjoin_to (d s v : Int) (b : Bool) (w : World) (s1 : -9223372036854775808 ≤ s) (s2 : s ≤ 9223372036854775807) (h : Hid (jnV d s = v ∧ jnB d s = b)) :
    Calls Tryd.prog 42 #[.int .i64 d, .int .i64 s] w fun e w' => e = .returned (.tuple #[.int .i64 v, .bool b]) ∧ ∃ n, w' = w.drewN n :=
  (rjoin_any d s w s1 s2).mono fun _ _ ⟨he, hw⟩ => ⟨by rw [he, h.out.1, h.out.2], hw⟩

set_option maxRecDepth 100000 in
set_option maxHeartbeats 3200000 in
theorem cexact_any (s : ByteArray) (n a b : Int) (w : World) (hp : Pow w) (n1 : -9223372036854775808 ≤ n) (n2 : n ≤ 9223372036854775807) (b1 : -9223372036854775808 ≤ b) (b2 : b ≤ 9223372036854775807) :
    Calls Tryd.prog 6 #[.string s, .int .i64 n, .int .i64 a, .int .i64 b] w fun e w' => e = .returned (.bool true) ∧ Below w.heap.size w w' := by
  have HP := Lib.hid hp
  clear hp
  by_cases hs : s.size ≤ 100
  · obtain ⟨L, hL⟩ : ∃ L, s.data.toList = L := ⟨_, rfl⟩
    have SL := Lib.hid hL
    have HK := Lib.hid (fun h => cl_no (l := L) h)
    have HY := Lib.hid (fun h => clE_yes (l := L) h)
    obtain ⟨K, hK⟩ : ∃ K, clV L = K := ⟨_, rfl⟩
    obtain ⟨E, hE⟩ : ∃ E, clE L = E := ⟨_, rfl⟩
    obtain ⟨cb, hcb⟩ : ∃ x, clB L = x := ⟨_, rfl⟩
    have PL := Lib.hid (And.intro hK hE)
    have RL := Lib.hid (And.intro hK hcb)
    rw [hK] at HK
    rw [hE] at HK HY
    rw [hcb] at HK HY
    obtain ⟨T, hT⟩ : ∃ T, ctS n = T := ⟨_, rfl⟩
    obtain ⟨F, hF⟩ : ∃ F, ctE n = F := ⟨_, rfl⟩
    have CT := Lib.hid (And.intro hT hF)
    obtain ⟨J, hJ⟩ : ∃ J, jnV a b = J := ⟨_, rfl⟩
    obtain ⟨JB, hJB⟩ : ∃ x, jnB a b = x := ⟨_, rfl⟩
    have GJ := Lib.hid (And.intro hJ hJB)
    have zS : s.size ≤ maxLen := by unfold maxLen; omega
    have ZS := Lib.hid zS
    clear zS hL hK hE hcb hT hF hJ hJB
    go_enter Tryd.func6, Tryd.ntmps6
    go_wp2_with fail
    refine (cparse_to _ L K E _ ZS.out SL PL).mono ?_
    rintro e w1 ⟨rfl, m1, rfl⟩
    go_wp2_with fail
    refine (ctext_to n T F _ (HP.out.drewN m1) CT).mono ?_
    rintro e w1 ⟨rfl, hb0⟩
    have hb1 : Below w.heap.size w w1 := (below_drewN (Below.refl w.heap.size w) m1).trans hb0
    clear hb0
    go_wp2_with fail
    refine (csplit_any _ _ n1 n2).mono ?_
    rintro e w2 ⟨rfl, m2, rfl⟩
    go_wp2_with fail
    refine (cjoin_to _ _ J JB _ b1 b2 GJ).mono ?_
    rintro e w2 ⟨rfl, m3, rfl⟩
    have hb2 := below_drewN hb1 (m2 + m3)
    go_wp2_with fail
    refine (rclock_to s L K cb _ (by omega) SL RL).mono ?_
    rintro e w3 ⟨rfl, hb3⟩
    have hb4 : Below w.heap.size w w3 := hb2.trans (hb3.mono hb2.size)
    clear hb1 hb2 hb3
    have hx : Hid ((cb = false ∧ K = 0 ∧ E = 5) ∨ (cb = true ∧ E = 0)) := Lib.hid (by
      cases cb with
      | false => exact Or.inl ⟨rfl, HK.out rfl⟩
      | true => exact Or.inr ⟨rfl, HY.out rfl⟩)
    have hn : n < -345600 ∨ 345600 < n ∨ (-345600 ≤ n ∧ n ≤ 345600) := by omega
    rcases hx.out with ⟨rfl, rfl, rfl⟩ | ⟨rfl, rfl⟩
    all_goals
      rcases hn with hn | hn | ⟨hn1, hn2⟩
      · obtain ⟨f1, f2⟩ := ct_out (n := n) (by omega)
        rw [CT.out.2] at f1
        rw [CT.out.1] at f2
        subst f1 f2
        go_wp2_with fail
        refine (Civ.rdiv_any _ _ _ (by omega) (by omega) n1 n2).mono ?_
        rintro e w5 ⟨rfl, m5, rfl⟩
        go_wp2_with fail
        refine (rjoin_to _ _ J JB _ b1 b2 GJ).mono ?_
        rintro e w5 ⟨rfl, m6, rfl⟩
        have hb5 := below_drewN hb4 (m5 + m6)
        go_wp2_with fail
        refine (wakes4_any _ (HP.out.stays hb5)).mono ?_
        rintro e w7 ⟨rfl, hb7⟩
        go_wp2
        go_ret
        exact ⟨rfl, hb5.trans (hb7.mono hb5.size)⟩
      · obtain ⟨f1, f2⟩ := ct_out (n := n) (by omega)
        rw [CT.out.2] at f1
        rw [CT.out.1] at f2
        subst f1 f2
        go_wp2_with fail
        refine (Civ.rdiv_any _ _ _ (by omega) (by omega) n1 n2).mono ?_
        rintro e w5 ⟨rfl, m5, rfl⟩
        go_wp2_with fail
        refine (rjoin_to _ _ J JB _ b1 b2 GJ).mono ?_
        rintro e w5 ⟨rfl, m6, rfl⟩
        have hb5 := below_drewN hb4 (m5 + m6)
        go_wp2_with fail
        refine (wakes4_any _ (HP.out.stays hb5)).mono ?_
        rintro e w7 ⟨rfl, hb7⟩
        go_wp2
        go_ret
        exact ⟨rfl, hb5.trans (hb7.mono hb5.size)⟩
      · obtain ⟨f1, f2⟩ := ct_in (n := n) ⟨hn1, hn2⟩
        rw [CT.out.2] at f1
        rw [CT.out.1] at f2
        subst f1
        have FT := Lib.hid f2.symm
        clear f2
        go_wp2_with fail
        refine (Civ.rdiv_any _ _ _ (by omega) (by omega) n1 n2).mono ?_
        rintro e w5 ⟨rfl, m5, rfl⟩
        go_wp2_with fail
        refine (rjoin_to _ _ J JB _ b1 b2 GJ).mono ?_
        rintro e w5 ⟨rfl, m6, rfl⟩
        have hb5 := below_drewN hb4 (m5 + m6)
        go_wp2_with fail
        refine (rctext_to n T _ hn1 hn2 FT).mono ?_
        rintro e w6 ⟨rfl, hb6⟩
        have hb8 : Below w.heap.size w w6 := hb5.trans (hb6.mono hb5.size)
        go_wp2_with fail
        refine (wakes4_any _ (HP.out.stays hb8)).mono ?_
        rintro e w7 ⟨rfl, hb7⟩
        go_wp2
        go_ret
        exact ⟨rfl, hb8.trans (hb7.mono hb8.size)⟩
  · have hs2 : 100 < s.size := by omega
    clear hs
    go_enter Tryd.func6, Tryd.ntmps6
    go_wp2
    go_ret
    exact ⟨rfl, Below.refl _ _⟩
end Clk
end Go.Proofs.YtpkknhbhliapcaaDoor
