/-
  Contracts of package value: Time. (Its long sum is a region that draws its order and whose calls make memory: one walk, by the library's QuietBelow.)
-/
import Derived.Test.YtbeefhmnoihmcaaGreatDoorVal3
import Derived.Test.YtbeefhmnoihmcaaGreatDoorBdF
import Derived.Lib.QuietBelow
namespace Go.Proofs.YtbeefhmnoihmcaaGreatDoor
open Go.RowKit
namespace Val
open Sol Civ Wk
theorem text_to (n d : Int) (T : List UInt8) (w : World) (n1 : -9223372036854775808 ≤ n) (n2 : n ≤ 9223372036854775807) (d1 : -9223372036854775808 ≤ d) (d2 : d ≤ 9223372036854775807) (hp : Pow w) (h : Hid (textL n d = T)) :
    Calls Tryz.prog 17 #[.int .i64 n, .int .i64 d] w fun e w' => e = .returned (.string ⟨T.toArray⟩) ∧ Below w.heap.size w w' :=
  (text_any n d w n1 n2 d1 d2 hp.here).mono fun _ _ ⟨he, hw⟩ => ⟨by rw [he, h.out], hw⟩
theorem bytes_eq {s t : ByteArray} (h : s.data.toList = t.data.toList) : s = t := ByteArray.ext (Array.toList_inj.1 h)
theorem date_to (n Y M D c : Int) (w : World) (hA : Ahead w) (h : Hid (dY n = Y ∧ dM n = M ∧ dD n = D)) (h2 : Hid (dnE n = c)) :
    Calls Tryz.prog 40 #[.int .i64 n] w fun e w' => e = .returned (.tuple #[.agg #[.int .i64 Y, .int .i64 M, .int .i64 D], .int .i64 c]) ∧ w.alloc (Obj.cells #[.int .i64 Y, .int .i64 M, .int .i64 D] 43) = w' :=
  (date_w n w hA).mono fun _ _ ⟨he, hw⟩ => ⟨by rw [he, h.out.1, h.out.2.1, h.out.2.2, h2.out], by rw [← hw, h.out.1, h.out.2.1, h.out.2.2]⟩
theorem tx_len (h : Int) (d : Nat) (h0 : 0 ≤ h) (d1 : 1 ≤ d) (d2 : d ≤ 20) (h1 : h < 10 ^ d) : (textL h d).length = d := by
  have e : textL h d = padL d (Lib.decDigits h.toNat) := by rw [textL, if_neg (by omega), if_pos (by omega)]; rfl
  rw [e, padL_len]
  have hk : h.toNat < 10 ^ (d - 1 + 1) := by
    rw [show d - 1 + 1 = d by omega]
    have : ((h.toNat : Nat) : Int) < ((10 ^ d : Nat) : Int) := by rw [Int.toNat_of_nonneg h0]; push_cast; exact h1
    exact Int.ofNat_lt.1 this
  have := decDigits_len (k := d - 1) (u := h.toNat) hk
  omega
/-- The text of a time. -/
def tmE (t : Int) : Int := if dnE (t / 86400) = 0 ∧ 1 ≤ dY (t / 86400) ∧ dY (t / 86400) ≤ 9999 then 0 else 23
def tmT (Y M D s : Int) : List UInt8 := textL Y 4 ++ textL M 2 ++ textL D 2 ++ [84] ++ textL (s / 3600) 2 ++ textL (s / 60 % 60) 2 ++ textL (s % 60) 2
def tmL (t : Int) : List UInt8 := tmT (dY (t / 86400)) (dM (t / 86400)) (dD (t / 86400)) (t % 86400)
def tmS (t : Int) (u : Bool) : List UInt8 := if tmE t = 0 then tmL t ++ (if u = true then [90] else []) else []
theorem ret_si {s s' : ByteArray} {a a' : Int} (k : s = s') (h : a = a') : Ending.returned (.tuple #[.string s, .int .i64 a]) = .returned (.tuple #[.string s', .int .i64 a']) := by rw [h, k]
theorem dd_in {n : Int} (h : dnE n = 0) : 1 ≤ dM n ∧ dM n ≤ 12 ∧ 1 ≤ dD n ∧ dD n ≤ 31 := by
  have hr : -719528 ≤ n ∧ n ≤ 2933262 := by
    by_cases x : -719528 ≤ n ∧ n ≤ 2933262
    · exact x
    · rw [dnE, if_neg x] at h; exact absurd h (by decide)
  obtain ⟨k1, k2, k3⟩ := dd_yes hr
  obtain ⟨s1, s2, s3, s4⟩ := Cal.yr_spec hr.1 hr.2
  have ns := Cal.ny_succ (Cal.yr n)
  obtain ⟨m1, m2, m3, m4⟩ := Cal.mon_spec (y := Cal.yr n) (r := n - Cal.ny (Cal.yr n)) (by omega) (by omega)
  obtain ⟨p1, p2⟩ := Cal.mlen_bd (Cal.yr n) (Cal.mon (Cal.yr n) (n - Cal.ny (Cal.yr n)))
  rw [k2, k3]; omega
set_option maxHeartbeats 6400000 in
set_option maxRecDepth 100000 in
theorem time_to (t : Int) (u : Bool) (T : List UInt8) (c : Int) (w : World) (hA : Ahead w) (hp : Pow w) (t1 : -9223372036854775808 ≤ t) (t2 : t ≤ 9223372036854775807) (h : Hid (tmS t u = T ∧ tmE t = c)) :
    Calls Tryz.prog 18 #[.int .i64 t, .bool u] w fun e w' => e = .returned (.tuple #[.string ⟨T.toArray⟩, .int .i64 c]) ∧ Below w.heap.size w w' := by
  have HA := Lib.hid hA
  have HP := Lib.hid hp
  have HH := h.out
  clear h hA hp
  have s0 := Int.emod_nonneg t (show (86400 : Int) ≠ 0 by decide)
  have s1 := Int.emod_lt_of_pos t (show (0 : Int) < 86400 by decide)
  have CS := fun w => Clk.csplit_any t w t1 t2
  have HD := fun h => dd_in (n := t / 86400) h
  have b1 : -9223372036854775808 ≤ t / 86400 := by omega
  have b2 : t / 86400 ≤ 9223372036854775807 := by omega
  rw [tmS, tmL, tmE] at HH
  clear t1 t2
  obtain ⟨s, hs⟩ : ∃ s, t % 86400 = s := ⟨_, rfl⟩
  obtain ⟨n, hn⟩ : ∃ s, t / 86400 = s := ⟨_, rfl⟩
  rw [hs] at s0 s1 HH
  rw [hn] at HD b1 b2 HH
  simp only [hs, hn] at CS
  clear hs hn
  obtain ⟨Y, hY⟩ : ∃ s, dY n = s := ⟨_, rfl⟩
  obtain ⟨M, hM⟩ : ∃ s, dM n = s := ⟨_, rfl⟩
  obtain ⟨D, hD⟩ : ∃ s, dD n = s := ⟨_, rfl⟩
  obtain ⟨E, hE⟩ : ∃ s, dnE n = s := ⟨_, rfl⟩
  rw [hY, hM, hD, hE] at HH
  rw [hM, hD, hE] at HD
  have DY := Lib.hid (And.intro hY (And.intro hM hD))
  have DE := Lib.hid hE
  clear hY hM hD hE
  have CS := Lib.hid CS
  have hE : E = 0 ∨ (E == 0) = false := by
    by_cases h : E = 0
    · exact Or.inl h
    · exact Or.inr (beq_eq_false_iff_ne.2 h)
  rcases hE with rfl | hE
  · obtain ⟨m1, m2, e1, e2⟩ := HD rfl
    by_cases y1 : Y < 1
    · skip
      have H : T = [] ∧ c = 23 := by rw [if_neg (show ¬ ((0 : Int) = 0 ∧ 1 ≤ Y ∧ Y ≤ 9999) by omega)] at HH; exact ⟨HH.1.symm, HH.2.symm⟩
      obtain ⟨rfl, rfl⟩ := H
      clear HH
      go_enter Tryz.func18, Tryz.ntmps18
      go_wp2_with fail
      refine (CS.out _).mono ?_
      rintro e w1 ⟨rfl, q, rfl⟩
      go_wp2_with fail
      refine (date_to n Y M D _ _ (HA.out.drewN q) DY DE).mono ?_
      rintro e w1 ⟨rfl, rfl⟩
      go_wp2
      go_ret2
      exact ⟨rfl, ((below_drewN (Below.refl _ _) q).alloc (by simp) _).alloc (by simp) _⟩
    · by_cases y2 : 9999 < Y
      · skip
        have H : T = [] ∧ c = 23 := by rw [if_neg (show ¬ ((0 : Int) = 0 ∧ 1 ≤ Y ∧ Y ≤ 9999) by omega)] at HH; exact ⟨HH.1.symm, HH.2.symm⟩
        obtain ⟨rfl, rfl⟩ := H
        clear HH
        go_enter Tryz.func18, Tryz.ntmps18
        go_wp2_with fail
        refine (CS.out _).mono ?_
        rintro e w1 ⟨rfl, q, rfl⟩
        go_wp2_with fail
        refine (date_to n Y M D _ _ (HA.out.drewN q) DY DE).mono ?_
        rintro e w1 ⟨rfl, rfl⟩
        go_wp2
        go_ret2
        exact ⟨rfl, ((below_drewN (Below.refl _ _) q).alloc (by simp) _).alloc (by simp) _⟩
      · skip
        obtain ⟨T1, q1⟩ : ∃ T, textL Y 4 = T := ⟨_, rfl⟩
        have l1 : T1.length = 4 := by rw [← q1]; exact tx_len Y 4 (by omega) (by decide) (by decide) (by omega)
        obtain ⟨T2, q2⟩ : ∃ T, textL M 2 = T := ⟨_, rfl⟩
        have l2 : T2.length = 2 := by rw [← q2]; exact tx_len M 2 (by omega) (by decide) (by decide) (by omega)
        obtain ⟨T3, q3⟩ : ∃ T, textL D 2 = T := ⟨_, rfl⟩
        have l3 : T3.length = 2 := by rw [← q3]; exact tx_len D 2 (by omega) (by decide) (by decide) (by omega)
        obtain ⟨T4, q4⟩ : ∃ T, textL (s / 3600) 2 = T := ⟨_, rfl⟩
        have l4 : T4.length = 2 := by rw [← q4]; exact tx_len (s / 3600) 2 (by omega) (by decide) (by decide) (by omega)
        obtain ⟨T5, q5⟩ : ∃ T, textL (s / 60 % 60) 2 = T := ⟨_, rfl⟩
        have l5 : T5.length = 2 := by rw [← q5]; exact tx_len (s / 60 % 60) 2 (by omega) (by decide) (by decide) (by omega)
        obtain ⟨T6, q6⟩ : ∃ T, textL (s % 60) 2 = T := ⟨_, rfl⟩
        have l6 : T6.length = 2 := by rw [← q6]; exact tx_len (s % 60) 2 (by omega) (by decide) (by decide) (by omega)
        have HC : T = T1 ++ T2 ++ T3 ++ [84] ++ T4 ++ T5 ++ T6 ++ (if u = true then [90] else []) ∧ c = 0 := by
          rw [if_pos (show ((0 : Int) = 0 ∧ 1 ≤ Y ∧ Y ≤ 9999) by omega), if_pos rfl, tmT, q1, q2, q3, q4, q5, q6] at HH; exact ⟨HH.1.symm, HH.2.symm⟩
        have Q1 := Lib.hid q1
        have Q2 := Lib.hid q2
        have Q3 := Lib.hid q3
        have Q4 := Lib.hid q4
        have Q5 := Lib.hid q5
        have Q6 := Lib.hid q6
        have HC := Lib.hid HC
        clear HH q1 q2 q3 q4 q5 q6
        go_enter Tryz.func18, Tryz.ntmps18
        go_wp2_with fail
        refine (CS.out _).mono ?_
        rintro e w1 ⟨rfl, q, rfl⟩
        go_wp2_with fail
        refine (date_to n Y M D _ _ (HA.out.drewN q) DY DE).mono ?_
        rintro e w1 ⟨rfl, rfl⟩
        go_wp2_with fail
        have k0 : (((w.drewN q).alloc (Obj.cells #[.int .i64 Y, .int .i64 M, .int .i64 D] 43)).alloc (Obj.cells #[.int .i64 Y, .int .i64 M, .int .i64 D] 43)).cell? ⟨w.heap.size + 1, 0, none⟩ = some (.int .i64 Y) := by go_simp
        have k1 : (((w.drewN q).alloc (Obj.cells #[.int .i64 Y, .int .i64 M, .int .i64 D] 43)).alloc (Obj.cells #[.int .i64 Y, .int .i64 M, .int .i64 D] 43)).cell? ⟨w.heap.size + 1, 1, none⟩ = some (.int .i64 M) := by go_simp
        have k2 : (((w.drewN q).alloc (Obj.cells #[.int .i64 Y, .int .i64 M, .int .i64 D] 43)).alloc (Obj.cells #[.int .i64 Y, .int .i64 M, .int .i64 D] 43)).cell? ⟨w.heap.size + 1, 2, none⟩ = some (.int .i64 D) := by go_simp
        have hb : Below w.heap.size w (((w.drewN q).alloc (Obj.cells #[.int .i64 Y, .int .i64 M, .int .i64 D] 43)).alloc (Obj.cells #[.int .i64 Y, .int .i64 M, .int .i64 D] 43)) :=
          ((below_drewN (Below.refl _ _) q).alloc (by simp) _).alloc (by simp) _
        generalize (((w.drewN q).alloc (Obj.cells #[.int .i64 Y, .int .i64 M, .int .i64 D] 43)).alloc (Obj.cells #[.int .i64 Y, .int .i64 M, .int .i64 D] 43)) = W at k0 k1 k2 hb ⊢
        have c0 := cell_regrown k0
        have c1 := cell_regrown k1
        have c2 := cell_regrown k2
        have HW : ∀ dd os, Pow (Sort.grow (redrawn W dd) os) := fun dd os => (HP.out.stays hb).stays (below_regrown W dd os)
        have d1 := Lib.hid (fun dd os => Calls.regrown_of (text_to Y 4 T1 (Sort.grow (redrawn W dd) os) (by omega) (by omega) (by omega) (by omega) (HW dd os) Q1))
        have d2 := Lib.hid (fun dd os => Calls.regrown_of (text_to M 2 T2 (Sort.grow (redrawn W dd) os) (by omega) (by omega) (by omega) (by omega) (HW dd os) Q2))
        have d3 := Lib.hid (fun dd os => Calls.regrown_of (text_to D 2 T3 (Sort.grow (redrawn W dd) os) (by omega) (by omega) (by omega) (by omega) (HW dd os) Q3))
        have d4 := Lib.hid (fun dd os => Calls.regrown_of (text_to (s / 3600) 2 T4 (Sort.grow (redrawn W dd) os) (by omega) (by omega) (by omega) (by omega) (HW dd os) Q4))
        have d5 := Lib.hid (fun dd os => Calls.regrown_of (text_to (s / 60 % 60) 2 T5 (Sort.grow (redrawn W dd) os) (by omega) (by omega) (by omega) (by omega) (HW dd os) Q5))
        have d6 := Lib.hid (fun dd os => Calls.regrown_of (text_to (s % 60) 2 T6 (Sort.grow (redrawn W dd) os) (by omega) (by omega) (by omega) (by omega) (HW dd os) Q6))
        have r1 : IntKind.i64.wrap (s.tdiv 3600) = s / 3600 := IntWalk.i64_quo s 3600 (by omega)
        have r2 : IntKind.i64.wrap (s.tdiv 60) = s / 60 := IntWalk.i64_quo s 60 (by omega)
        have r3 : IntKind.i64.wrap ((s / 60).tmod 60) = s / 60 % 60 := by rw [Int.tmod_eq_emod_of_nonneg (by omega)]; exact IntWalk.i64_in _ (by omega)
        have r4 : IntKind.i64.wrap (s.tmod 60) = s % 60 := by rw [Int.tmod_eq_emod_of_nonneg s0]; exact IntWalk.i64_in _ (by omega)
        have r5 : (s / 60).tmod 60 = s / 60 % 60 := Int.tmod_eq_emod_of_nonneg (by omega)
        have r6 : s.tmod 60 = s % 60 := Int.tmod_eq_emod_of_nonneg s0
        refine wp_region_quiet_below (by kernel_rfl) (by kernel_rfl) ?_
        clear HW HD
        repeat (quiet_step (first | with_reducible exact d1.out _ _ | with_reducible exact d2.out _ _ | with_reducible exact d3.out _ _ | with_reducible exact d4.out _ _ | with_reducible exact d5.out _ _ | with_reducible exact d6.out _ _))
        refine wpQuiet_nil ?_
        intro w' hw'
        obtain ⟨⟨dq, osq⟩, rfl⟩ := hw'
        have hz := hb.trans ((below_regrown W dq osq).mono hb.size)
        cases u
        all_goals
          go_wp2
          go_ret2
          exact ⟨ret_si (bytes_eq (by first | (simp; done) | (rw [HC.out.1]; simp))) (by first | rfl | exact HC.out.2.symm), hz⟩
  · have hE0 : ¬ E = 0 := beq_eq_false_iff_ne.1 hE
    have hE1 : (E != 0) = true := by simp [bne, hE]
    have H : T = [] ∧ c = 23 := by rw [if_neg (show ¬ (E = 0 ∧ 1 ≤ Y ∧ Y ≤ 9999) by omega)] at HH; exact ⟨HH.1.symm, HH.2.symm⟩
    obtain ⟨rfl, rfl⟩ := H
    clear HH
    go_enter Tryz.func18, Tryz.ntmps18
    go_wp2_with fail
    refine (CS.out _).mono ?_
    rintro e w1 ⟨rfl, q, rfl⟩
    go_wp2_with fail
    refine (date_to n Y M D _ _ (HA.out.drewN q) DY DE).mono ?_
    rintro e w1 ⟨rfl, rfl⟩
    go_wp2
    go_ret2
    exact ⟨rfl, ((below_drewN (Below.refl _ _) q).alloc (by simp) _).alloc (by simp) _⟩
end Val
end Go.Proofs.YtbeefhmnoihmcaaGreatDoor
