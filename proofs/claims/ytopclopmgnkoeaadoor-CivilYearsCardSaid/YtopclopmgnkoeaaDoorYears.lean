/-
  CivilYears: the law answers true at every three integers, in whatever world that holds the table of the months.
-/
import Derived.Test.YtopclopmgnkoeaaDoorDays
import Derived.Deep.RegionHeld3
namespace Go.Proofs.YtopclopmgnkoeaaDoor
open Go.RowKit
namespace Civ
def sumTo (y i : Int) : Int := if i ≤ 12 then Cal.cum y i else 365 + Cal.lp y
theorem sumTo_1 (y : Int) : sumTo y 1 = 0 := rfl
theorem sumTo_13 (y : Int) : sumTo y 13 = 365 + Cal.lp y := rfl
theorem sumTo_succ {y i : Int} (h1 : 1 ≤ i) (h2 : i ≤ 12) : sumTo y (i + 1) = sumTo y i + Cal.mlen y i := by
  unfold sumTo
  rw [if_pos h2]
  by_cases h : i ≤ 11
  · rw [if_pos (by omega), Cal.cum_succ h1 h]
  · obtain rfl : i = 12 := by omega
    rw [if_neg (by omega), Cal.cum_12]
theorem sumTo_bd {y i : Int} (h1 : 1 ≤ i) (_h2 : i ≤ 13) : 0 ≤ sumTo y i ∧ sumTo y i ≤ 366 := by
  have l := Cal.lp_01 y
  unfold sumTo
  split
  · have := Cal.cum_bd (y := y) h1 (by omega); have := Cal.mlen_bd y i; omega
  · omega
theorem wday_bd (n : Int) : 0 ≤ Cal.wday n ∧ Cal.wday n ≤ 6 := by unfold Cal.wday; omega
theorem wday_7 (n : Int) : Cal.wday (n + 7) = Cal.wday n := by unfold Cal.wday; omega
theorem wday_1 (n : Int) : Cal.wday (n + 1) = (Cal.wday n + 1) % 7 := by unfold Cal.wday; omega
theorem long_400 (y : Int) : Cal.long (y + 400) = Cal.long y := by
  have h4 : (y + 400) % 4 = y % 4 := by omega
  have h100 : (y + 400) % 100 = y % 100 := by omega
  have h400 : (y + 400) % 400 = y % 400 := by omega
  simp only [Cal.long, h4, h100, h400]
theorem lp_400 (y : Int) : Cal.lp (y + 400) = Cal.lp y := by rw [Cal.lp, Cal.lp, long_400]
theorem mlen_400 (y m : Int) : Cal.mlen (y + 400) m = Cal.mlen y m := by rw [Cal.mlen, Cal.mlen, lp_400]
theorem num_400 (y m d : Int) : Cal.num (y + 400) m d = Cal.num y m d + 146097 := by
  have h : Cal.ny (y + 400) = Cal.ny y + 146097 := by unfold Cal.ny; omega
  rw [Cal.num, Cal.num, Cal.cum, Cal.cum, lp_400, h]; omega
theorem wday_400 (n : Int) : Cal.wday (n + 146097) = Cal.wday n := by unfold Cal.wday; omega

theorem weekday_at (n v : Int) (w : World) (h : Hid (Cal.wday n = v)) :
    Calls Tryd.prog 35 #[.int .i64 n] w fun e w' => e = .returned (.int .i64 v) ∧ w = w' :=
  (weekday_any n w).mono fun _ _ ⟨he, hw⟩ => ⟨by rw [he, h.out], hw⟩
theorem long_at (y : Int) (b : Bool) (w : World) (h : Hid (Cal.long y = b)) :
    Calls Tryd.prog 31 #[.int .i64 y] w fun e w' => e = .returned (.bool b) ∧ w = w' :=
  (long_any y w).mono fun _ _ ⟨he, hw⟩ => ⟨by rw [he, h.out], hw⟩

set_option maxRecDepth 100000 in
set_option maxHeartbeats 3200000 in
theorem years_any (y m d : Int) (w : World) (hA : Ahead w) :
    Calls Tryd.prog 9 #[.int .i64 y, .int .i64 m, .int .i64 d] w fun e w' => e = .returned (.bool true) ∧ Below w.heap.size w w' := by
  have HA := Lib.hid hA
  clear hA
  go_enter Tryd.func9, Tryd.ntmps9
  go_wp2_with fail
  refine (some_any _ _ _ _).mono ?_
  rintro e w1 ⟨rfl, hb1⟩
  obtain ⟨⟨y0, y1⟩, ⟨m0, m1⟩, d0, d1⟩ := some_bd y m d
  have HA1 := Lib.hid (HA.out.stays hb1)
  have dm := (Cal.mlen_bd (someY y) (someM m)).2
  generalize someD y m d = D at *
  generalize someY y = Y at *
  generalize someM m = M at *
  obtain ⟨a1, a2, _, _, a5, a6⟩ := num_bd y0 y1 m0 m1 d0 d1
  obtain ⟨n, hn⟩ : ∃ n, Cal.num Y M D = n := ⟨_, rfl⟩
  rw [hn] at a2 a5 a6
  have G1 := Lib.hid a1
  have G2 := Lib.hid a2
  have GN := Lib.hid hn
  clear a1 a2 hn
  have HS := Lib.hid (fun i h1 h2 => sumTo_succ (y := Y) (i := i) h1 h2)
  have HB := Lib.hid (fun i h1 h2 => sumTo_bd (y := Y) (i := i) h1 h2)
  have HM := Lib.hid (fun i => Cal.mlen_bd Y i)
  go_wp2_with fail
  refine (number_w _ _ _ _ (Ahead.alloc HA1.out _) (by omega) (by omega)).mono ?_
  rintro e w2 ⟨rfl, q1, rfl⟩
  rw [G1.out, G2.out]
  go_wp2_with fail
  go_loop [10, 11] (fun s i => ∃ k : Int, 1 ≤ k ∧ k ≤ 13 ∧ i = .int .i64 k ∧ s = .int .i64 (sumTo Y k)) (fun _ i => (13 - intOf i).toNat)
  case atStart => exact ⟨1, by omega, by omega, rfl, by rw [sumTo_1]⟩
  case round =>
    obtain ⟨k, k0, k1, rfl, rfl⟩ := hrel
    obtain ⟨s0, s1⟩ := HB.out k k0 k1
    by_cases hk : k ≤ 12
    · have l1 := HM.out k
      go_wp2_with (go_at_call 33; refine (len_any _ _ _).mono ?_; rintro e w' ⟨rfl, rfl⟩)
      go_round
      case rel => exact ⟨k + 1, by omega, by omega, rfl, by rw [HS.out k k0 hk]⟩
      case measure => simp [intOf]; omega
    · obtain rfl : k = 13 := by omega
      clear HS HB HM
      rw [sumTo_13]
      have hl : (Cal.long Y = true ∧ Cal.lp Y = 1) ∨ (Cal.long Y = false ∧ Cal.lp Y = 0) := by
        cases h : Cal.long Y with
        | true => exact Or.inl ⟨rfl, lp_yes h⟩
        | false => exact Or.inr ⟨rfl, lp_no h⟩
      clear s0 s1 hk k0 k1
      have b0 := wday_bd n
      have e7 : Hid (Cal.wday (n + 7) = Cal.wday n) := Lib.hid (wday_7 n)
      have e1 : Hid (Cal.wday (n + 1) = (Cal.wday n + 1) % 7) := Lib.hid (wday_1 n)
      obtain ⟨v, hv⟩ : ∃ v, Cal.wday n = v := ⟨_, rfl⟩
      rw [hv] at b0 e7 e1
      have HV := Lib.hid hv
      clear hv
      rcases hl with ⟨hl, hp⟩ | ⟨hl, hp⟩
      all_goals
        rw [hp]
        have HL := Lib.hid hl
        clear hl hp
        go_wp2_with fail
        refine (long_any _ _).mono ?_
        rintro e w2 ⟨rfl, rfl⟩
        rw [HL.out]
        go_wp2_with fail
        refine (weekday_any _ _).mono ?_
        rintro e w2 ⟨rfl, rfl⟩
        rw [e7.out]
        go_wp2_with fail
        refine (weekday_any _ _).mono ?_
        rintro e w2 ⟨rfl, rfl⟩
        rw [HV.out]
        go_wp2_with fail
        refine (weekday_any _ _).mono ?_
        rintro e w2 ⟨rfl, rfl⟩
        rw [e1.out]
        go_wp2_with fail
        refine (weekday_any _ _).mono ?_
        rintro e w2 ⟨rfl, rfl⟩
        rw [HV.out]
        by_cases h96 : 9600 < Y
        · go_wp2_with fail
          refine (wakes2_any _ (HA1.out.stays (by repeat (first | exact Below.refl _ _ | refine Below.setCell ?_ (by simp) _ | refine below_drewN ?_ _ | refine Below.drew ?_ | refine Below.alloc ?_ (by simp; try omega) _)))).mono ?_
          rintro e w2 ⟨rfl, hb2⟩
          go_wp2
          go_ret
          exact ⟨rfl, below_chain hb1 (by repeat (first | exact Below.refl _ _ | refine Below.setCell ?_ (by simp) _ | refine below_drewN ?_ _ | refine Below.drew ?_ | refine Below.alloc ?_ (by simp; try omega) _)) hb2⟩
        · obtain ⟨c1, c2, _, _, c5, c6⟩ := num_bd (Y := Y + 400) (M := M) (D := D) (by omega) (by omega) m0 m1 d0 (by rw [mlen_400]; omega)
          have c7 : Cal.num (Y + 400) M D = n + 146097 := by rw [num_400, GN.out]
          rw [c7] at c2 c5 c6
          have K1 := Lib.hid c1
          have K2 := Lib.hid c2
          have L4 : Hid (Cal.long (Y + 400) = Cal.long Y) := Lib.hid (long_400 Y)
          have W4 : Hid (Cal.wday (n + 146097) = v) := Lib.hid ((wday_400 n).trans HV.out)
          clear c1 c2 c7
          go_wp2_with fail
          refine (number_w _ _ _ _ (HA1.out.stays (by repeat (first | exact Below.refl _ _ | refine Below.setCell ?_ (by simp) _ | refine below_drewN ?_ _ | refine Below.drew ?_ | refine Below.alloc ?_ (by simp; try omega) _))) (by omega) (by omega)).mono ?_
          rintro e w2 ⟨rfl, q2, rfl⟩
          rw [K1.out, K2.out]
          go_wp2_with fail
          have L5 := Lib.hid (L4.out.trans HL.out)
          have x1 : IntKind.i64.wrap (n + 146097 - n) = 146097 := by rw [IntWalk.i64_in _ (by omega)]; omega
          have x2 : IntKind.i64.wrap (Y + 400) = Y + 400 := IntWalk.i64_in _ (by omega)
          have x3 : wrap64 (n + 146097 - n) = 146097 := by rw [IntWalk.wrap64_in _ (by omega)]; omega
          have x4 : wrap64 (Y + 400) = Y + 400 := IntWalk.wrap64_in _ (by omega)
          clear b0 m0 m1 d0 d1 dm a5 a6 c5 c6
          go_region_held3 (fun w' => w'.cell? ⟨w1.heap.size, 0, none⟩ = some (.int .i64 Y)) (first | (exact (hb2.cell (p := ⟨w1.heap.size, 0, none⟩) (by simp; omega)).trans (by go_simp)) | go_keep) (first | (go_at_call 35; (with_reducible refine (weekday_at _ v _ W4).mono ?_); rintro e w' ⟨rfl, rfl⟩) | (go_at_call 35; (with_reducible refine (weekday_at _ v _ HV).mono ?_); rintro e w' ⟨rfl, rfl⟩) | (go_at_call 31; (with_reducible refine (long_at _ _ _ HL).mono ?_); rintro e w' ⟨rfl, rfl⟩) | (go_at_call 31; (with_reducible refine (long_at _ _ _ L5).mono ?_); rintro e w' ⟨rfl, rfl⟩) | (go_at_call 41; refine (wakes2_any _ (HA1.out.stays (by repeat (first | exact Below.refl _ _ | refine Below.setCell ?_ (by simp) _ | refine below_drewN ?_ _ | refine Below.drew ?_ | refine Below.alloc ?_ (by simp; try omega) _)))).mono ?_; rintro e w2 ⟨rfl, hb2⟩))
          all_goals (go_wp2_with fail)
          all_goals go_ret
          all_goals exact ⟨rfl, below_chain hb1 (by repeat (first | exact Below.refl _ _ | refine Below.setCell ?_ (by simp) _ | refine below_drewN ?_ _ | refine Below.drew ?_ | refine Below.alloc ?_ (by simp; try omega) _)) hb2⟩
end Civ
end Go.Proofs.YtopclopmgnkoeaaDoor
