/-
  WeekExact: the law answers true at every form of a day and every six numbers, in whatever world that holds the table of the months.
-/
import Derived.Test.YtpkknhbhliapcaaDoorRefWk3
import Derived.Test.YtpkknhbhliapcaaDoorLaw3
import Derived.Deep.RegionHeld3
import Derived.Deep.DeepCutAuto
import Derived.Deep.CutBlock
namespace Go.Proofs.YtpkknhbhliapcaaDoor
open Go.RowKit
namespace Wk
open Civ
theorem o_below {w X : World} {a : Nat} {u v z : Value} (h : X.cell? ⟨a, 0, none⟩ = some u ∧ X.cell? ⟨a, 1, none⟩ = some v ∧ X.cell? ⟨a, 2, none⟩ = some z ∧ Below w.heap.size w X ∧ a < X.heap.size) : Below w.heap.size w X := h.2.2.2.1
theorem o_keep {w X Z : World} {a : Nat} {u v z : Value} (h : X.cell? ⟨a, 0, none⟩ = some u ∧ X.cell? ⟨a, 1, none⟩ = some v ∧ X.cell? ⟨a, 2, none⟩ = some z ∧ Below w.heap.size w X ∧ a < X.heap.size) (hb : Below X.heap.size X Z) :
    Z.cell? ⟨a, 0, none⟩ = some u ∧ Z.cell? ⟨a, 1, none⟩ = some v ∧ Z.cell? ⟨a, 2, none⟩ = some z ∧ Below w.heap.size w Z ∧ a < Z.heap.size :=
  ⟨(hb.cell (p := ⟨a, 0, none⟩) h.2.2.2.2).trans h.1, (hb.cell (p := ⟨a, 1, none⟩) h.2.2.2.2).trans h.2.1, (hb.cell (p := ⟨a, 2, none⟩) h.2.2.2.2).trans h.2.2.1, h.2.2.2.1.trans (hb.mono h.2.2.2.1.size), Nat.lt_of_lt_of_le h.2.2.2.2 hb.size⟩
theorem check_b (k v d : Int) (c : Int) (w : World) (h : Hid (chE k v d = c)) :
    Calls Tryd.prog 29 #[.agg #[.int .i64 k, .int .i64 v, .int .i64 d]] w fun e w' => e = .returned (.int .i64 c) ∧ Below w.heap.size w w' :=
  (check_any k v d w).mono fun _ _ ⟨he, hw⟩ => ⟨by rw [he, h.out], by rw [← hw]; exact (Below.refl _ _).alloc (Nat.le_refl _) _⟩
theorem ron_b (k v d : Int) (b : Bool) (w : World) (h : Hid (onOk k v d = b)) :
    Calls Tryd.prog 30 #[.agg #[.int .i64 k, .int .i64 v, .int .i64 d]] w fun e w' => e = .returned (.bool b) ∧ Below w.heap.size w w' :=
  (ron_any k v d w).mono fun _ _ ⟨he, hw⟩ => ⟨by rw [he, h.out], by rw [← hw]; exact (Below.refl _ _).alloc (Nat.le_refl _) _⟩
theorem chE_val {k v d : Int} {b : Bool} (h : onOk k v d = b) : chE k v d = if b then 0 else 8 := by rw [chE, h]

set_option maxRecDepth 100000 in
set_option maxHeartbeats 6400000 in
theorem wexact_a (k v d y m f t num wk : Int) (w : World) (hA : Ahead w) (f1 : -9223372036854775808 ≤ f) (f2 : f ≤ 9223372036854775807) (t1 : -9223372036854775808 ≤ t) (t2 : t ≤ 9223372036854775807) (ya : 1 ≤ y) (yb : y ≤ 9999) :
    Calls Tryd.prog 4 #[.agg #[.int .i64 k, .int .i64 v, .int .i64 d], .int .i64 y, .int .i64 m, .int .i64 f, .int .i64 t, .int .i64 num, .int .i64 wk] w fun e w' => e = .returned (.bool true) ∧ Below w.heap.size w w' := by
  have HA := Lib.hid hA
  clear hA
  obtain ⟨RV, hRV⟩ : ∃ x, resV y m k v d = x := ⟨_, rfl⟩
  obtain ⟨RE, hRE⟩ : ∃ x, resE y m k v d = x := ⟨_, rfl⟩
  obtain ⟨NV, hNV⟩ : ∃ x, nthV f t num wk = x := ⟨_, rfl⟩
  obtain ⟨NB, hNB⟩ : ∃ x, nthB f t num wk = x := ⟨_, rfl⟩
  obtain ⟨YY, hYY⟩ : ∃ x, noY f wk = x := ⟨_, rfl⟩
  obtain ⟨NN, hNN⟩ : ∃ x, noN f wk = x := ⟨_, rfl⟩
  obtain ⟨NE, hNE⟩ : ∃ x, noE f wk = x := ⟨_, rfl⟩
  obtain ⟨CV, hCV⟩ : ∃ x, wkV y wk = x := ⟨_, rfl⟩
  obtain ⟨CE, hCE⟩ : ∃ x, wkE y wk = x := ⟨_, rfl⟩
  obtain ⟨ob, hob⟩ : ∃ x, onOk k v d = x := ⟨_, rfl⟩
  obtain ⟨ce, hce⟩ : ∃ x, chE k v d = x := ⟨_, rfl⟩
  have M1 := fun w' h => resolve_any y m k v d w' h
  have M2 := fun w' => nth_any f t num wk w' f1 f2 t1 t2
  have M3 := fun w' h => no_any f wk w' h
  have M4 := fun w' h => weeks_any y wk w' h
  have M5 := fun w' => rnth_any f t num wk w' f1 f2 t1 t2
  rw [hRV, hRE] at M1
  rw [hNV, hNB] at M2 M5
  rw [hYY, hNN, hNE] at M3
  rw [hCV, hCE] at M4
  have GRV := Lib.hid hRV
  have GRE := Lib.hid hRE
  have GYY := Lib.hid hYY
  have GNN := Lib.hid hNN
  have GNE := Lib.hid hNE
  have GCV := Lib.hid hCV
  have GCE := Lib.hid hCE
  have GO := Lib.hid hob
  have GC := Lib.hid hce
  have HM1 := Lib.hid M1
  have HM2 := Lib.hid M2
  have HM3 := Lib.hid M3
  have HM4 := Lib.hid M4
  have HM5 := Lib.hid M5
  have hcc : (ce == 0) = ob := by rw [← hce, chE_val hob]; cases ob <;> rfl
  clear hRV hRE hNV hNB hYY hNN hNE hCV hCE hob hce M1 M2 M3 M4 M5
  go_enter Tryd.func4, Tryd.ntmps4
  go_wp2_with fail
  refine (HM1.out _ (HA.out.stays (by repeat (first | exact Below.refl _ _ | refine Below.setCell ?_ (by simp) _ | refine below_drewN ?_ _ | refine Below.drew ?_ | refine Below.alloc ?_ (by simp; try omega) _)))).mono ?_
  rintro e w1 ⟨rfl, hb1⟩
  have S1 : w1.cell? ⟨w.heap.size, 0, none⟩ = some (.int .i64 k) ∧ w1.cell? ⟨w.heap.size, 1, none⟩ = some (.int .i64 v) ∧ w1.cell? ⟨w.heap.size, 2, none⟩ = some (.int .i64 d) ∧ Below w.heap.size w w1 ∧ w.heap.size < w1.heap.size := o_keep (X := w.alloc (Obj.cells #[.int .i64 k, .int .i64 v, .int .i64 d] 40)) ⟨by go_simp, by go_simp, by go_simp, by repeat (first | exact Below.refl _ _ | refine Below.setCell ?_ (by simp) _ | refine below_drewN ?_ _ | refine Below.drew ?_ | refine Below.alloc ?_ (by simp; try omega) _), by simp⟩ hb1
  clear hb1
  go_wp2_with fail
  refine (HM2.out _).mono ?_
  rintro e w2 ⟨rfl, rfl⟩
  go_wp2_with fail
  refine (HM3.out _ (HA.out.stays (o_below S1))).mono ?_
  rintro e w2 ⟨rfl, hb2⟩
  have S2 := o_keep S1 hb2
  clear hb2 S1
  go_wp2_with fail
  refine (HM4.out _ (HA.out.stays (o_below S2))).mono ?_
  rintro e w3 ⟨rfl, hb3⟩
  have S3 := o_keep S2 hb3
  have S4 := o_keep S3 (Below.drew (Below.refl _ _))
  clear hb3 S2
  go_wp2_with fail
  go_region_held3 (fun w' => w'.cell? ⟨w.heap.size, 0, none⟩ = some (.int .i64 k) ∧ w'.cell? ⟨w.heap.size, 1, none⟩ = some (.int .i64 v) ∧ w'.cell? ⟨w.heap.size, 2, none⟩ = some (.int .i64 d) ∧ Below w.heap.size w w' ∧ w.heap.size < w'.heap.size) (first | exact S4 | exact o_keep (by assumption) hq1 | exact o_keep (by assumption) hq2 | go_keep) (first | (go_at_call 29; (with_reducible refine (check_b _ _ _ _ _ GC).mono ?_); rintro e w' ⟨rfl, hq1⟩) | (go_at_call 30; (with_reducible refine (ron_b _ _ _ _ _ GO).mono ?_); rintro e w' ⟨rfl, hq2⟩))
  go_wp2_with fail
  have S5 : (w'.cell? ⟨w.heap.size, 0, none⟩ = some (.int .i64 k) ∧ w'.cell? ⟨w.heap.size, 1, none⟩ = some (.int .i64 v) ∧ w'.cell? ⟨w.heap.size, 2, none⟩ = some (.int .i64 d) ∧ Below w.heap.size w w' ∧ w.heap.size < w'.heap.size) := by assumption
  clear S3 S4
  refine (HM5.out _).mono ?_
  rintro e w4 ⟨rfl, q5, rfl⟩
  have S6 := o_keep S5 (below_drewN (Below.refl _ _) q5)
  clear S5
  go_upto_block 0 with fail
  go_cut [] (fun wx => Below w.heap.size w wx)
  case first =>
    cases ob with
    | false =>
      go_wp2_with fail
      refine (ron_b _ _ _ _ _ GO).mono ?_
      rintro e w5 ⟨rfl, hb5⟩
      have S7 := o_keep S6 hb5
      have hB7 := o_below S7
      clear S6 hb5
      obtain ⟨c0, c1, c2, _, _⟩ := S7
      obtain ⟨r1, r2⟩ := res_8 (y := y) (m := m) GO.out
      have e1 : RE = 8 := by rw [← GRE.out]; exact r1
      have e2 : RV = 0 := by rw [← GRV.out]; exact r2
      have e3 : ce = 8 := by rw [← GC.out]; exact chE_no GO.out
      subst e1 e2 e3
      go_wp2_with fail
      refine (check_b _ _ _ _ _ GC).mono ?_
      rintro e w6 ⟨rfl, hb6⟩
      go_wp2
      go_meet
      exact hB7.trans (hb6.mono hB7.size)
    | true =>
      go_wp2_with fail
      refine (ron_b _ _ _ _ _ GO).mono ?_
      rintro e w5 ⟨rfl, hb5⟩
      have S7 := o_keep S6 hb5
      have hB7 := o_below S7
      clear S6 hb5
      obtain ⟨c0, c1, c2, _, _⟩ := S7

      rcases numE_04 y m (rday y m k d) with hn | hn
      · obtain ⟨z1, z2⟩ := rs_yes GO.out ⟨ya, yb⟩ hn
        obtain ⟨r1, r2⟩ := res_0 GO.out ⟨ya, yb⟩ hn
        rw [← r2] at z2
        have e1 : RE = 0 := by rw [← GRE.out]; exact r1
        have e2 : rsV y m k v d = RV := by rw [z2]; exact GRV.out
        have MR := rres_any y m k v d w5 GO.out ya yb
        rw [e2, z1] at MR
        subst e1
        have HMR := Lib.hid MR
        clear z1 z2 r1 r2 e2 hn MR
        go_wp2_with fail
        refine HMR.out.mono ?_
        rintro e w6 ⟨rfl, hb6⟩
        go_wp2
        go_meet
        exact hB7.trans (hb6.mono hB7.size)
      · obtain ⟨z1, z2⟩ := rs_no (v := v) hn
        obtain ⟨r1, r2⟩ := res_4 GO.out ⟨ya, yb⟩ hn
        have e1 : RE = 4 := by rw [← GRE.out]; exact r1
        have e2 : RV = 0 := by rw [← GRV.out]; exact r2
        have MR := rres_any y m k v d w5 GO.out ya yb
        rw [z1, z2] at MR
        subst e1 e2
        have HMR := Lib.hid MR
        clear z1 z2 r1 r2 hn MR
        go_wp2_with fail
        refine HMR.out.mono ?_
        rintro e w6 ⟨rfl, hb6⟩
        go_wp2
        go_meet
        exact hB7.trans (hb6.mono hB7.size)
  case rest =>
    clear S6
    rcases inb_cases 0 6 wk with ⟨_, k0, k6⟩ | ⟨_, hk⟩
    · go_upto_block 1 with fail
      go_cut [] (fun wx => Below w.heap.size w wx)
      case first =>
        have e4 : CE = 0 := by rw [← GCE.out, wkE, if_pos ⟨k0, k6⟩, if_pos ⟨ya, yb⟩]
        subst e4
        have MW := fun w' => rweeks_any y wk w' ya yb k0 k6
        rw [GCV.out] at MW
        have HMW := Lib.hid MW
        clear MW
        go_wp2_with fail
        refine (HMW.out _).mono ?_
        rintro e w7 ⟨rfl, hb7⟩
        go_wp2
        go_meet
        exact hcut.trans (hb7.mono hcut.size)
      case rest =>
        have hB8 := hcut
        clear hcut
        by_cases hlo : f < -719528
        · obtain ⟨r1, r2, r3⟩ := no_23 (n := f) ⟨k0, k6⟩ (by omega)
          have e1 : YY = 0 := by rw [← GYY.out]; exact r2
          have e2 : NN = 0 := by rw [← GNN.out]; exact r3
          have e3 : NE = 23 := by rw [← GNE.out]; exact r1
          subst e1 e2 e3
          clear r1 r2 r3
          go_wp2_with fail
          refine (least_any _).mono ?_
          rintro e w8 ⟨rfl, hb8⟩
          have hB9 := hB8.trans (hb8.mono hB8.size)
          clear hb8
          go_wp2_with fail
          refine (wakes3_any _ (HA.out.stays hB9)).mono ?_
          rintro e wz ⟨rfl, hbz⟩
          go_wp2
          go_ret
          exact ⟨rfl, hB9.trans (hbz.mono hB9.size)⟩
        · by_cases hhi : 2933262 < f
          · obtain ⟨r1, r2, r3⟩ := no_23 (n := f) ⟨k0, k6⟩ (by omega)
            have e1 : YY = 0 := by rw [← GYY.out]; exact r2
            have e2 : NN = 0 := by rw [← GNN.out]; exact r3
            have e3 : NE = 23 := by rw [← GNE.out]; exact r1
            subst e1 e2 e3
            clear r1 r2 r3
            go_wp2_with fail
            refine (least_any _).mono ?_
            rintro e w8 ⟨rfl, hb8⟩
            have hB9 := hB8.trans (hb8.mono hB8.size)
            clear hb8
            go_wp2_with fail
            refine (most_any _).mono ?_
            rintro e w9 ⟨rfl, hb9⟩
            have hB10 := hB9.trans (hb9.mono hB9.size)
            clear hb9
            go_wp2_with fail
            refine (wakes3_any _ (HA.out.stays hB10)).mono ?_
            rintro e wz ⟨rfl, hbz⟩
            go_wp2
            go_ret
            exact ⟨rfl, hB10.trans (hbz.mono hB10.size)⟩
          · have MD : Hid (∀ w' : World, Calls Tryd.prog 23 #[.int .i64 f] w' fun e w'' => e = .returned (.agg #[.int .i64 (dY f), .int .i64 (dM f), .int .i64 (dD f)]) ∧ Below w'.heap.size w' w'') := Lib.hid (fun w' => rdate_any f w' (by omega) (by omega))
            rw [(dd_yes (n := f) ⟨by omega, by omega⟩).1] at MD
            have hys := Cal.yr_spec (n := f) (by omega) (by omega)
            by_cases hin : 1 ≤ Cal.yr f ∧ Cal.yr f ≤ 9999
            · have MN := fun w' => rno_any f wk w' ⟨by omega, by omega⟩ hin k0 k6
              rw [GYY.out, GNN.out] at MN
              have HMN := Lib.hid MN
              have e1 : NE = 0 := by rw [← GNE.out]; exact (no_0 (n := f) ⟨k0, k6⟩ ⟨⟨by omega, by omega⟩, hin⟩).1
              subst e1
              obtain ⟨hi1, hi2⟩ := hin
              clear MN hys
              generalize Cal.yr f = Y at *
              generalize dM f = MM at *
              generalize dD f = DD at *
              have hfd : ∀ w : World, (Instr.field 23 (.agg #[.int .i64 Y, .int .i64 MM, .int .i64 DD]) 0).run Tryd.prog w = .ok (.int .i64 Y) w := fun _ => by kernel_rfl
              go_wp2_with fail
              refine (least_any _).mono ?_
              rintro e w8 ⟨rfl, hb8⟩
              have hB9 := hB8.trans (hb8.mono hB8.size)
              clear hb8
              go_wp2_with fail
              refine (most_any _).mono ?_
              rintro e w9 ⟨rfl, hb9⟩
              have hB10 := hB9.trans (hb9.mono hB9.size)
              clear hb9
              go_wp2_with fail
              refine (MD.out _).mono ?_
              rintro e w10 ⟨rfl, hb10⟩
              have hB11 := hB10.trans (hb10.mono hB10.size)
              clear hb10
              go_wp2_with fail
              refine (MD.out _).mono ?_
              rintro e w11 ⟨rfl, hb11⟩
              have hB12 := hB11.trans (hb11.mono hB11.size)
              clear hb11
              go_wp2_with fail
              refine (HMN.out _).mono ?_
              rintro e w12 ⟨rfl, hb12⟩
              have hB13 := hB12.trans (hb12.mono hB12.size)
              clear hb12
              go_wp2_with fail
              refine (wakes3_any _ (HA.out.stays hB13)).mono ?_
              rintro e wz ⟨rfl, hbz⟩
              go_wp2
              go_ret
              exact ⟨rfl, hB13.trans (hbz.mono hB13.size)⟩
            · obtain ⟨r1, r2, r3⟩ := no_23 (n := f) ⟨k0, k6⟩ (by omega)
              have e1 : YY = 0 := by rw [← GYY.out]; exact r2
              have e2 : NN = 0 := by rw [← GNN.out]; exact r3
              have e3 : NE = 23 := by rw [← GNE.out]; exact r1
              subst e1 e2 e3
              clear r1 r2 r3
              have hcase : Cal.yr f < 1 ∨ 9999 < Cal.yr f := by omega
              clear hin hys
              generalize Cal.yr f = Y at *
              generalize dM f = MM at *
              generalize dD f = DD at *
              have hfd : ∀ w : World, (Instr.field 23 (.agg #[.int .i64 Y, .int .i64 MM, .int .i64 DD]) 0).run Tryd.prog w = .ok (.int .i64 Y) w := fun _ => by kernel_rfl
              rcases hcase with hcase | hcase
              · go_wp2_with fail
                refine (least_any _).mono ?_
                rintro e w8 ⟨rfl, hb8⟩
                have hB9 := hB8.trans (hb8.mono hB8.size)
                clear hb8
                go_wp2_with fail
                refine (most_any _).mono ?_
                rintro e w9 ⟨rfl, hb9⟩
                have hB10 := hB9.trans (hb9.mono hB9.size)
                clear hb9
                go_wp2_with fail
                refine (MD.out _).mono ?_
                rintro e w10 ⟨rfl, hb10⟩
                have hB11 := hB10.trans (hb10.mono hB10.size)
                clear hb10
                go_wp2_with fail
                refine (wakes3_any _ (HA.out.stays hB11)).mono ?_
                rintro e wz ⟨rfl, hbz⟩
                go_wp2
                go_ret
                exact ⟨rfl, hB11.trans (hbz.mono hB11.size)⟩
              · go_wp2_with fail
                refine (least_any _).mono ?_
                rintro e w8 ⟨rfl, hb8⟩
                have hB9 := hB8.trans (hb8.mono hB8.size)
                clear hb8
                go_wp2_with fail
                refine (most_any _).mono ?_
                rintro e w9 ⟨rfl, hb9⟩
                have hB10 := hB9.trans (hb9.mono hB9.size)
                clear hb9
                go_wp2_with fail
                refine (MD.out _).mono ?_
                rintro e w10 ⟨rfl, hb10⟩
                have hB11 := hB10.trans (hb10.mono hB10.size)
                clear hb10
                go_wp2_with fail
                refine (MD.out _).mono ?_
                rintro e w11 ⟨rfl, hb11⟩
                have hB12 := hB11.trans (hb11.mono hB11.size)
                clear hb11
                go_wp2_with fail
                refine (wakes3_any _ (HA.out.stays hB12)).mono ?_
                rintro e wz ⟨rfl, hbz⟩
                go_wp2
                go_ret
                exact ⟨rfl, hB12.trans (hbz.mono hB12.size)⟩
    · obtain ⟨r1, r2, r3⟩ := no_1 (n := f) hk
      have e1 : YY = 0 := by rw [← GYY.out]; exact r2
      have e2 : NN = 0 := by rw [← GNN.out]; exact r3
      have e3 : NE = 1 := by rw [← GNE.out]; exact r1
      have e4 : CV = 0 := by rw [← GCV.out, wkV, if_neg (fun h => hk h.1)]
      have e5 : CE = 1 := by rw [← GCE.out, wkE, if_neg hk]
      subst e1 e2 e3 e4 e5
      have hk2 : wk < 0 ∨ 6 < wk := by omega
      clear hk r1 r2 r3
      rcases hk2 with hk2 | hk2
      all_goals
        go_wp2_with fail
        refine (wakes3_any _ (HA.out.stays hcut)).mono ?_
        rintro e w7 ⟨rfl, hb7⟩
        go_wp2
        go_ret
        exact ⟨rfl, hcut.trans (hb7.mono hcut.size)⟩

set_option maxRecDepth 100000 in
set_option maxHeartbeats 6400000 in
theorem wexact_b (k v d y m f t num wk : Int) (w : World) (hA : Ahead w) (f1 : -9223372036854775808 ≤ f) (f2 : f ≤ 9223372036854775807) (t1 : -9223372036854775808 ≤ t) (t2 : t ≤ 9223372036854775807) (hyc : y < 1) :
    Calls Tryd.prog 4 #[.agg #[.int .i64 k, .int .i64 v, .int .i64 d], .int .i64 y, .int .i64 m, .int .i64 f, .int .i64 t, .int .i64 num, .int .i64 wk] w fun e w' => e = .returned (.bool true) ∧ Below w.heap.size w w' := by
  have HA := Lib.hid hA
  clear hA
  obtain ⟨RV, hRV⟩ : ∃ x, resV y m k v d = x := ⟨_, rfl⟩
  obtain ⟨RE, hRE⟩ : ∃ x, resE y m k v d = x := ⟨_, rfl⟩
  obtain ⟨NV, hNV⟩ : ∃ x, nthV f t num wk = x := ⟨_, rfl⟩
  obtain ⟨NB, hNB⟩ : ∃ x, nthB f t num wk = x := ⟨_, rfl⟩
  obtain ⟨YY, hYY⟩ : ∃ x, noY f wk = x := ⟨_, rfl⟩
  obtain ⟨NN, hNN⟩ : ∃ x, noN f wk = x := ⟨_, rfl⟩
  obtain ⟨NE, hNE⟩ : ∃ x, noE f wk = x := ⟨_, rfl⟩
  obtain ⟨CV, hCV⟩ : ∃ x, wkV y wk = x := ⟨_, rfl⟩
  obtain ⟨CE, hCE⟩ : ∃ x, wkE y wk = x := ⟨_, rfl⟩
  obtain ⟨ob, hob⟩ : ∃ x, onOk k v d = x := ⟨_, rfl⟩
  obtain ⟨ce, hce⟩ : ∃ x, chE k v d = x := ⟨_, rfl⟩
  have M1 := fun w' h => resolve_any y m k v d w' h
  have M2 := fun w' => nth_any f t num wk w' f1 f2 t1 t2
  have M3 := fun w' h => no_any f wk w' h
  have M4 := fun w' h => weeks_any y wk w' h
  have M5 := fun w' => rnth_any f t num wk w' f1 f2 t1 t2
  rw [hRV, hRE] at M1
  rw [hNV, hNB] at M2 M5
  rw [hYY, hNN, hNE] at M3
  rw [hCV, hCE] at M4
  have GRV := Lib.hid hRV
  have GRE := Lib.hid hRE
  have GYY := Lib.hid hYY
  have GNN := Lib.hid hNN
  have GNE := Lib.hid hNE
  have GCV := Lib.hid hCV
  have GCE := Lib.hid hCE
  have GO := Lib.hid hob
  have GC := Lib.hid hce
  have HM1 := Lib.hid M1
  have HM2 := Lib.hid M2
  have HM3 := Lib.hid M3
  have HM4 := Lib.hid M4
  have HM5 := Lib.hid M5
  have hcc : (ce == 0) = ob := by rw [← hce, chE_val hob]; cases ob <;> rfl
  clear hRV hRE hNV hNB hYY hNN hNE hCV hCE hob hce M1 M2 M3 M4 M5
  go_enter Tryd.func4, Tryd.ntmps4
  go_wp2_with fail
  refine (HM1.out _ (HA.out.stays (by repeat (first | exact Below.refl _ _ | refine Below.setCell ?_ (by simp) _ | refine below_drewN ?_ _ | refine Below.drew ?_ | refine Below.alloc ?_ (by simp; try omega) _)))).mono ?_
  rintro e w1 ⟨rfl, hb1⟩
  have S1 : w1.cell? ⟨w.heap.size, 0, none⟩ = some (.int .i64 k) ∧ w1.cell? ⟨w.heap.size, 1, none⟩ = some (.int .i64 v) ∧ w1.cell? ⟨w.heap.size, 2, none⟩ = some (.int .i64 d) ∧ Below w.heap.size w w1 ∧ w.heap.size < w1.heap.size := o_keep (X := w.alloc (Obj.cells #[.int .i64 k, .int .i64 v, .int .i64 d] 40)) ⟨by go_simp, by go_simp, by go_simp, by repeat (first | exact Below.refl _ _ | refine Below.setCell ?_ (by simp) _ | refine below_drewN ?_ _ | refine Below.drew ?_ | refine Below.alloc ?_ (by simp; try omega) _), by simp⟩ hb1
  clear hb1
  go_wp2_with fail
  refine (HM2.out _).mono ?_
  rintro e w2 ⟨rfl, rfl⟩
  go_wp2_with fail
  refine (HM3.out _ (HA.out.stays (o_below S1))).mono ?_
  rintro e w2 ⟨rfl, hb2⟩
  have S2 := o_keep S1 hb2
  clear hb2 S1
  go_wp2_with fail
  refine (HM4.out _ (HA.out.stays (o_below S2))).mono ?_
  rintro e w3 ⟨rfl, hb3⟩
  have S3 := o_keep S2 hb3
  have S4 := o_keep S3 (Below.drew (Below.refl _ _))
  clear hb3 S2
  go_wp2_with fail
  go_region_held3 (fun w' => w'.cell? ⟨w.heap.size, 0, none⟩ = some (.int .i64 k) ∧ w'.cell? ⟨w.heap.size, 1, none⟩ = some (.int .i64 v) ∧ w'.cell? ⟨w.heap.size, 2, none⟩ = some (.int .i64 d) ∧ Below w.heap.size w w' ∧ w.heap.size < w'.heap.size) (first | exact S4 | exact o_keep (by assumption) hq1 | exact o_keep (by assumption) hq2 | go_keep) (first | (go_at_call 29; (with_reducible refine (check_b _ _ _ _ _ GC).mono ?_); rintro e w' ⟨rfl, hq1⟩) | (go_at_call 30; (with_reducible refine (ron_b _ _ _ _ _ GO).mono ?_); rintro e w' ⟨rfl, hq2⟩))
  go_wp2_with fail
  have S5 : (w'.cell? ⟨w.heap.size, 0, none⟩ = some (.int .i64 k) ∧ w'.cell? ⟨w.heap.size, 1, none⟩ = some (.int .i64 v) ∧ w'.cell? ⟨w.heap.size, 2, none⟩ = some (.int .i64 d) ∧ Below w.heap.size w w' ∧ w.heap.size < w'.heap.size) := by assumption
  clear S3 S4
  refine (HM5.out _).mono ?_
  rintro e w4 ⟨rfl, q5, rfl⟩
  have S6 := o_keep S5 (below_drewN (Below.refl _ _) q5)
  clear S5
  have hy : ¬ (1 ≤ y ∧ y ≤ 9999) := by omega
  go_upto_block 0 with fail
  go_cut [] (fun wx => Below w.heap.size w wx)
  case first =>
    cases ob with
    | false =>
      go_wp2_with fail
      refine (ron_b _ _ _ _ _ GO).mono ?_
      rintro e w5 ⟨rfl, hb5⟩
      have S7 := o_keep S6 hb5
      have hB7 := o_below S7
      clear S6 hb5
      obtain ⟨c0, c1, c2, _, _⟩ := S7
      obtain ⟨r1, r2⟩ := res_8 (y := y) (m := m) GO.out
      have e1 : RE = 8 := by rw [← GRE.out]; exact r1
      have e2 : RV = 0 := by rw [← GRV.out]; exact r2
      have e3 : ce = 8 := by rw [← GC.out]; exact chE_no GO.out
      subst e1 e2 e3
      go_wp2_with fail
      refine (check_b _ _ _ _ _ GC).mono ?_
      rintro e w6 ⟨rfl, hb6⟩
      go_wp2
      go_meet
      exact hB7.trans (hb6.mono hB7.size)
    | true =>
      go_wp2_with fail
      refine (ron_b _ _ _ _ _ GO).mono ?_
      rintro e w5 ⟨rfl, hb5⟩
      have S7 := o_keep S6 hb5
      have hB7 := o_below S7
      clear S6 hb5
      obtain ⟨c0, c1, c2, _, _⟩ := S7
      obtain ⟨r1, r2⟩ := res_23 (m := m) GO.out hy
      have e1 : RE = 23 := by rw [← GRE.out]; exact r1
      have e2 : RV = 0 := by rw [← GRV.out]; exact r2
      subst e1 e2
      clear r1 r2
      go_wp2
      go_meet
      exact hB7
  case rest =>
    clear S6
    rcases inb_cases 0 6 wk with ⟨_, k0, k6⟩ | ⟨_, hk⟩
    · go_upto_block 1 with fail
      go_cut [] (fun wx => Below w.heap.size w wx)
      case first =>
        have e4 : CE = 23 := by rw [← GCE.out, wkE, if_pos ⟨k0, k6⟩, if_neg (by omega)]
        have e5 : CV = 0 := by rw [← GCV.out, wkV, if_neg (fun h => by omega)]
        subst e4 e5
        go_wp2
        go_meet
        exact hcut
      case rest =>
        have hB8 := hcut
        clear hcut
        by_cases hlo : f < -719528
        · obtain ⟨r1, r2, r3⟩ := no_23 (n := f) ⟨k0, k6⟩ (by omega)
          have e1 : YY = 0 := by rw [← GYY.out]; exact r2
          have e2 : NN = 0 := by rw [← GNN.out]; exact r3
          have e3 : NE = 23 := by rw [← GNE.out]; exact r1
          subst e1 e2 e3
          clear r1 r2 r3
          go_wp2_with fail
          refine (least_any _).mono ?_
          rintro e w8 ⟨rfl, hb8⟩
          have hB9 := hB8.trans (hb8.mono hB8.size)
          clear hb8
          go_wp2_with fail
          refine (wakes3_any _ (HA.out.stays hB9)).mono ?_
          rintro e wz ⟨rfl, hbz⟩
          go_wp2
          go_ret
          exact ⟨rfl, hB9.trans (hbz.mono hB9.size)⟩
        · by_cases hhi : 2933262 < f
          · obtain ⟨r1, r2, r3⟩ := no_23 (n := f) ⟨k0, k6⟩ (by omega)
            have e1 : YY = 0 := by rw [← GYY.out]; exact r2
            have e2 : NN = 0 := by rw [← GNN.out]; exact r3
            have e3 : NE = 23 := by rw [← GNE.out]; exact r1
            subst e1 e2 e3
            clear r1 r2 r3
            go_wp2_with fail
            refine (least_any _).mono ?_
            rintro e w8 ⟨rfl, hb8⟩
            have hB9 := hB8.trans (hb8.mono hB8.size)
            clear hb8
            go_wp2_with fail
            refine (most_any _).mono ?_
            rintro e w9 ⟨rfl, hb9⟩
            have hB10 := hB9.trans (hb9.mono hB9.size)
            clear hb9
            go_wp2_with fail
            refine (wakes3_any _ (HA.out.stays hB10)).mono ?_
            rintro e wz ⟨rfl, hbz⟩
            go_wp2
            go_ret
            exact ⟨rfl, hB10.trans (hbz.mono hB10.size)⟩
          · have MD : Hid (∀ w' : World, Calls Tryd.prog 23 #[.int .i64 f] w' fun e w'' => e = .returned (.agg #[.int .i64 (dY f), .int .i64 (dM f), .int .i64 (dD f)]) ∧ Below w'.heap.size w' w'') := Lib.hid (fun w' => rdate_any f w' (by omega) (by omega))
            rw [(dd_yes (n := f) ⟨by omega, by omega⟩).1] at MD
            have hys := Cal.yr_spec (n := f) (by omega) (by omega)
            by_cases hin : 1 ≤ Cal.yr f ∧ Cal.yr f ≤ 9999
            · have MN := fun w' => rno_any f wk w' ⟨by omega, by omega⟩ hin k0 k6
              rw [GYY.out, GNN.out] at MN
              have HMN := Lib.hid MN
              have e1 : NE = 0 := by rw [← GNE.out]; exact (no_0 (n := f) ⟨k0, k6⟩ ⟨⟨by omega, by omega⟩, hin⟩).1
              subst e1
              obtain ⟨hi1, hi2⟩ := hin
              clear MN hys
              generalize Cal.yr f = Y at *
              generalize dM f = MM at *
              generalize dD f = DD at *
              have hfd : ∀ w : World, (Instr.field 23 (.agg #[.int .i64 Y, .int .i64 MM, .int .i64 DD]) 0).run Tryd.prog w = .ok (.int .i64 Y) w := fun _ => by kernel_rfl
              go_wp2_with fail
              refine (least_any _).mono ?_
              rintro e w8 ⟨rfl, hb8⟩
              have hB9 := hB8.trans (hb8.mono hB8.size)
              clear hb8
              go_wp2_with fail
              refine (most_any _).mono ?_
              rintro e w9 ⟨rfl, hb9⟩
              have hB10 := hB9.trans (hb9.mono hB9.size)
              clear hb9
              go_wp2_with fail
              refine (MD.out _).mono ?_
              rintro e w10 ⟨rfl, hb10⟩
              have hB11 := hB10.trans (hb10.mono hB10.size)
              clear hb10
              go_wp2_with fail
              refine (MD.out _).mono ?_
              rintro e w11 ⟨rfl, hb11⟩
              have hB12 := hB11.trans (hb11.mono hB11.size)
              clear hb11
              go_wp2_with fail
              refine (HMN.out _).mono ?_
              rintro e w12 ⟨rfl, hb12⟩
              have hB13 := hB12.trans (hb12.mono hB12.size)
              clear hb12
              go_wp2_with fail
              refine (wakes3_any _ (HA.out.stays hB13)).mono ?_
              rintro e wz ⟨rfl, hbz⟩
              go_wp2
              go_ret
              exact ⟨rfl, hB13.trans (hbz.mono hB13.size)⟩
            · obtain ⟨r1, r2, r3⟩ := no_23 (n := f) ⟨k0, k6⟩ (by omega)
              have e1 : YY = 0 := by rw [← GYY.out]; exact r2
              have e2 : NN = 0 := by rw [← GNN.out]; exact r3
              have e3 : NE = 23 := by rw [← GNE.out]; exact r1
              subst e1 e2 e3
              clear r1 r2 r3
              have hcase : Cal.yr f < 1 ∨ 9999 < Cal.yr f := by omega
              clear hin hys
              generalize Cal.yr f = Y at *
              generalize dM f = MM at *
              generalize dD f = DD at *
              have hfd : ∀ w : World, (Instr.field 23 (.agg #[.int .i64 Y, .int .i64 MM, .int .i64 DD]) 0).run Tryd.prog w = .ok (.int .i64 Y) w := fun _ => by kernel_rfl
              rcases hcase with hcase | hcase
              · go_wp2_with fail
                refine (least_any _).mono ?_
                rintro e w8 ⟨rfl, hb8⟩
                have hB9 := hB8.trans (hb8.mono hB8.size)
                clear hb8
                go_wp2_with fail
                refine (most_any _).mono ?_
                rintro e w9 ⟨rfl, hb9⟩
                have hB10 := hB9.trans (hb9.mono hB9.size)
                clear hb9
                go_wp2_with fail
                refine (MD.out _).mono ?_
                rintro e w10 ⟨rfl, hb10⟩
                have hB11 := hB10.trans (hb10.mono hB10.size)
                clear hb10
                go_wp2_with fail
                refine (wakes3_any _ (HA.out.stays hB11)).mono ?_
                rintro e wz ⟨rfl, hbz⟩
                go_wp2
                go_ret
                exact ⟨rfl, hB11.trans (hbz.mono hB11.size)⟩
              · go_wp2_with fail
                refine (least_any _).mono ?_
                rintro e w8 ⟨rfl, hb8⟩
                have hB9 := hB8.trans (hb8.mono hB8.size)
                clear hb8
                go_wp2_with fail
                refine (most_any _).mono ?_
                rintro e w9 ⟨rfl, hb9⟩
                have hB10 := hB9.trans (hb9.mono hB9.size)
                clear hb9
                go_wp2_with fail
                refine (MD.out _).mono ?_
                rintro e w10 ⟨rfl, hb10⟩
                have hB11 := hB10.trans (hb10.mono hB10.size)
                clear hb10
                go_wp2_with fail
                refine (MD.out _).mono ?_
                rintro e w11 ⟨rfl, hb11⟩
                have hB12 := hB11.trans (hb11.mono hB11.size)
                clear hb11
                go_wp2_with fail
                refine (wakes3_any _ (HA.out.stays hB12)).mono ?_
                rintro e wz ⟨rfl, hbz⟩
                go_wp2
                go_ret
                exact ⟨rfl, hB12.trans (hbz.mono hB12.size)⟩
    · obtain ⟨r1, r2, r3⟩ := no_1 (n := f) hk
      have e1 : YY = 0 := by rw [← GYY.out]; exact r2
      have e2 : NN = 0 := by rw [← GNN.out]; exact r3
      have e3 : NE = 1 := by rw [← GNE.out]; exact r1
      have e4 : CV = 0 := by rw [← GCV.out, wkV, if_neg (fun h => hk h.1)]
      have e5 : CE = 1 := by rw [← GCE.out, wkE, if_neg hk]
      subst e1 e2 e3 e4 e5
      have hk2 : wk < 0 ∨ 6 < wk := by omega
      clear hk r1 r2 r3
      rcases hk2 with hk2 | hk2
      all_goals
        go_wp2_with fail
        refine (wakes3_any _ (HA.out.stays hcut)).mono ?_
        rintro e w7 ⟨rfl, hb7⟩
        go_wp2
        go_ret
        exact ⟨rfl, hcut.trans (hb7.mono hcut.size)⟩

set_option maxRecDepth 100000 in
set_option maxHeartbeats 6400000 in
theorem wexact_c (k v d y m f t num wk : Int) (w : World) (hA : Ahead w) (f1 : -9223372036854775808 ≤ f) (f2 : f ≤ 9223372036854775807) (t1 : -9223372036854775808 ≤ t) (t2 : t ≤ 9223372036854775807) (hyc : 9999 < y) :
    Calls Tryd.prog 4 #[.agg #[.int .i64 k, .int .i64 v, .int .i64 d], .int .i64 y, .int .i64 m, .int .i64 f, .int .i64 t, .int .i64 num, .int .i64 wk] w fun e w' => e = .returned (.bool true) ∧ Below w.heap.size w w' := by
  have HA := Lib.hid hA
  clear hA
  obtain ⟨RV, hRV⟩ : ∃ x, resV y m k v d = x := ⟨_, rfl⟩
  obtain ⟨RE, hRE⟩ : ∃ x, resE y m k v d = x := ⟨_, rfl⟩
  obtain ⟨NV, hNV⟩ : ∃ x, nthV f t num wk = x := ⟨_, rfl⟩
  obtain ⟨NB, hNB⟩ : ∃ x, nthB f t num wk = x := ⟨_, rfl⟩
  obtain ⟨YY, hYY⟩ : ∃ x, noY f wk = x := ⟨_, rfl⟩
  obtain ⟨NN, hNN⟩ : ∃ x, noN f wk = x := ⟨_, rfl⟩
  obtain ⟨NE, hNE⟩ : ∃ x, noE f wk = x := ⟨_, rfl⟩
  obtain ⟨CV, hCV⟩ : ∃ x, wkV y wk = x := ⟨_, rfl⟩
  obtain ⟨CE, hCE⟩ : ∃ x, wkE y wk = x := ⟨_, rfl⟩
  obtain ⟨ob, hob⟩ : ∃ x, onOk k v d = x := ⟨_, rfl⟩
  obtain ⟨ce, hce⟩ : ∃ x, chE k v d = x := ⟨_, rfl⟩
  have M1 := fun w' h => resolve_any y m k v d w' h
  have M2 := fun w' => nth_any f t num wk w' f1 f2 t1 t2
  have M3 := fun w' h => no_any f wk w' h
  have M4 := fun w' h => weeks_any y wk w' h
  have M5 := fun w' => rnth_any f t num wk w' f1 f2 t1 t2
  rw [hRV, hRE] at M1
  rw [hNV, hNB] at M2 M5
  rw [hYY, hNN, hNE] at M3
  rw [hCV, hCE] at M4
  have GRV := Lib.hid hRV
  have GRE := Lib.hid hRE
  have GYY := Lib.hid hYY
  have GNN := Lib.hid hNN
  have GNE := Lib.hid hNE
  have GCV := Lib.hid hCV
  have GCE := Lib.hid hCE
  have GO := Lib.hid hob
  have GC := Lib.hid hce
  have HM1 := Lib.hid M1
  have HM2 := Lib.hid M2
  have HM3 := Lib.hid M3
  have HM4 := Lib.hid M4
  have HM5 := Lib.hid M5
  have hcc : (ce == 0) = ob := by rw [← hce, chE_val hob]; cases ob <;> rfl
  clear hRV hRE hNV hNB hYY hNN hNE hCV hCE hob hce M1 M2 M3 M4 M5
  go_enter Tryd.func4, Tryd.ntmps4
  go_wp2_with fail
  refine (HM1.out _ (HA.out.stays (by repeat (first | exact Below.refl _ _ | refine Below.setCell ?_ (by simp) _ | refine below_drewN ?_ _ | refine Below.drew ?_ | refine Below.alloc ?_ (by simp; try omega) _)))).mono ?_
  rintro e w1 ⟨rfl, hb1⟩
  have S1 : w1.cell? ⟨w.heap.size, 0, none⟩ = some (.int .i64 k) ∧ w1.cell? ⟨w.heap.size, 1, none⟩ = some (.int .i64 v) ∧ w1.cell? ⟨w.heap.size, 2, none⟩ = some (.int .i64 d) ∧ Below w.heap.size w w1 ∧ w.heap.size < w1.heap.size := o_keep (X := w.alloc (Obj.cells #[.int .i64 k, .int .i64 v, .int .i64 d] 40)) ⟨by go_simp, by go_simp, by go_simp, by repeat (first | exact Below.refl _ _ | refine Below.setCell ?_ (by simp) _ | refine below_drewN ?_ _ | refine Below.drew ?_ | refine Below.alloc ?_ (by simp; try omega) _), by simp⟩ hb1
  clear hb1
  go_wp2_with fail
  refine (HM2.out _).mono ?_
  rintro e w2 ⟨rfl, rfl⟩
  go_wp2_with fail
  refine (HM3.out _ (HA.out.stays (o_below S1))).mono ?_
  rintro e w2 ⟨rfl, hb2⟩
  have S2 := o_keep S1 hb2
  clear hb2 S1
  go_wp2_with fail
  refine (HM4.out _ (HA.out.stays (o_below S2))).mono ?_
  rintro e w3 ⟨rfl, hb3⟩
  have S3 := o_keep S2 hb3
  have S4 := o_keep S3 (Below.drew (Below.refl _ _))
  clear hb3 S2
  go_wp2_with fail
  go_region_held3 (fun w' => w'.cell? ⟨w.heap.size, 0, none⟩ = some (.int .i64 k) ∧ w'.cell? ⟨w.heap.size, 1, none⟩ = some (.int .i64 v) ∧ w'.cell? ⟨w.heap.size, 2, none⟩ = some (.int .i64 d) ∧ Below w.heap.size w w' ∧ w.heap.size < w'.heap.size) (first | exact S4 | exact o_keep (by assumption) hq1 | exact o_keep (by assumption) hq2 | go_keep) (first | (go_at_call 29; (with_reducible refine (check_b _ _ _ _ _ GC).mono ?_); rintro e w' ⟨rfl, hq1⟩) | (go_at_call 30; (with_reducible refine (ron_b _ _ _ _ _ GO).mono ?_); rintro e w' ⟨rfl, hq2⟩))
  go_wp2_with fail
  have S5 : (w'.cell? ⟨w.heap.size, 0, none⟩ = some (.int .i64 k) ∧ w'.cell? ⟨w.heap.size, 1, none⟩ = some (.int .i64 v) ∧ w'.cell? ⟨w.heap.size, 2, none⟩ = some (.int .i64 d) ∧ Below w.heap.size w w' ∧ w.heap.size < w'.heap.size) := by assumption
  clear S3 S4
  refine (HM5.out _).mono ?_
  rintro e w4 ⟨rfl, q5, rfl⟩
  have S6 := o_keep S5 (below_drewN (Below.refl _ _) q5)
  clear S5
  have hy : ¬ (1 ≤ y ∧ y ≤ 9999) := by omega
  have hy1 : 1 ≤ y := by omega
  have hy9 : decide (y ≤ 9999) = false := decide_eq_false (by omega)
  go_upto_block 0 with fail
  go_cut [] (fun wx => Below w.heap.size w wx)
  case first =>
    cases ob with
    | false =>
      go_wp2_with fail
      refine (ron_b _ _ _ _ _ GO).mono ?_
      rintro e w5 ⟨rfl, hb5⟩
      have S7 := o_keep S6 hb5
      have hB7 := o_below S7
      clear S6 hb5
      obtain ⟨c0, c1, c2, _, _⟩ := S7
      obtain ⟨r1, r2⟩ := res_8 (y := y) (m := m) GO.out
      have e1 : RE = 8 := by rw [← GRE.out]; exact r1
      have e2 : RV = 0 := by rw [← GRV.out]; exact r2
      have e3 : ce = 8 := by rw [← GC.out]; exact chE_no GO.out
      subst e1 e2 e3
      go_wp2_with fail
      refine (check_b _ _ _ _ _ GC).mono ?_
      rintro e w6 ⟨rfl, hb6⟩
      go_wp2
      go_meet
      exact hB7.trans (hb6.mono hB7.size)
    | true =>
      go_wp2_with fail
      refine (ron_b _ _ _ _ _ GO).mono ?_
      rintro e w5 ⟨rfl, hb5⟩
      have S7 := o_keep S6 hb5
      have hB7 := o_below S7
      clear S6 hb5
      obtain ⟨c0, c1, c2, _, _⟩ := S7
      obtain ⟨r1, r2⟩ := res_23 (m := m) GO.out hy
      have e1 : RE = 23 := by rw [← GRE.out]; exact r1
      have e2 : RV = 0 := by rw [← GRV.out]; exact r2
      subst e1 e2
      clear r1 r2
      go_wp2
      go_meet
      exact hB7
  case rest =>
    clear S6
    rcases inb_cases 0 6 wk with ⟨_, k0, k6⟩ | ⟨_, hk⟩
    · go_upto_block 1 with fail
      go_cut [] (fun wx => Below w.heap.size w wx)
      case first =>
        have e4 : CE = 23 := by rw [← GCE.out, wkE, if_pos ⟨k0, k6⟩, if_neg (by omega)]
        have e5 : CV = 0 := by rw [← GCV.out, wkV, if_neg (fun h => by omega)]
        subst e4 e5
        go_wp2
        go_meet
        exact hcut
      case rest =>
        have hB8 := hcut
        clear hcut
        by_cases hlo : f < -719528
        · obtain ⟨r1, r2, r3⟩ := no_23 (n := f) ⟨k0, k6⟩ (by omega)
          have e1 : YY = 0 := by rw [← GYY.out]; exact r2
          have e2 : NN = 0 := by rw [← GNN.out]; exact r3
          have e3 : NE = 23 := by rw [← GNE.out]; exact r1
          subst e1 e2 e3
          clear r1 r2 r3
          go_wp2_with fail
          refine (least_any _).mono ?_
          rintro e w8 ⟨rfl, hb8⟩
          have hB9 := hB8.trans (hb8.mono hB8.size)
          clear hb8
          go_wp2_with fail
          refine (wakes3_any _ (HA.out.stays hB9)).mono ?_
          rintro e wz ⟨rfl, hbz⟩
          go_wp2
          go_ret
          exact ⟨rfl, hB9.trans (hbz.mono hB9.size)⟩
        · by_cases hhi : 2933262 < f
          · obtain ⟨r1, r2, r3⟩ := no_23 (n := f) ⟨k0, k6⟩ (by omega)
            have e1 : YY = 0 := by rw [← GYY.out]; exact r2
            have e2 : NN = 0 := by rw [← GNN.out]; exact r3
            have e3 : NE = 23 := by rw [← GNE.out]; exact r1
            subst e1 e2 e3
            clear r1 r2 r3
            go_wp2_with fail
            refine (least_any _).mono ?_
            rintro e w8 ⟨rfl, hb8⟩
            have hB9 := hB8.trans (hb8.mono hB8.size)
            clear hb8
            go_wp2_with fail
            refine (most_any _).mono ?_
            rintro e w9 ⟨rfl, hb9⟩
            have hB10 := hB9.trans (hb9.mono hB9.size)
            clear hb9
            go_wp2_with fail
            refine (wakes3_any _ (HA.out.stays hB10)).mono ?_
            rintro e wz ⟨rfl, hbz⟩
            go_wp2
            go_ret
            exact ⟨rfl, hB10.trans (hbz.mono hB10.size)⟩
          · have MD : Hid (∀ w' : World, Calls Tryd.prog 23 #[.int .i64 f] w' fun e w'' => e = .returned (.agg #[.int .i64 (dY f), .int .i64 (dM f), .int .i64 (dD f)]) ∧ Below w'.heap.size w' w'') := Lib.hid (fun w' => rdate_any f w' (by omega) (by omega))
            rw [(dd_yes (n := f) ⟨by omega, by omega⟩).1] at MD
            have hys := Cal.yr_spec (n := f) (by omega) (by omega)
            by_cases hin : 1 ≤ Cal.yr f ∧ Cal.yr f ≤ 9999
            · have MN := fun w' => rno_any f wk w' ⟨by omega, by omega⟩ hin k0 k6
              rw [GYY.out, GNN.out] at MN
              have HMN := Lib.hid MN
              have e1 : NE = 0 := by rw [← GNE.out]; exact (no_0 (n := f) ⟨k0, k6⟩ ⟨⟨by omega, by omega⟩, hin⟩).1
              subst e1
              obtain ⟨hi1, hi2⟩ := hin
              clear MN hys
              generalize Cal.yr f = Y at *
              generalize dM f = MM at *
              generalize dD f = DD at *
              have hfd : ∀ w : World, (Instr.field 23 (.agg #[.int .i64 Y, .int .i64 MM, .int .i64 DD]) 0).run Tryd.prog w = .ok (.int .i64 Y) w := fun _ => by kernel_rfl
              go_wp2_with fail
              refine (least_any _).mono ?_
              rintro e w8 ⟨rfl, hb8⟩
              have hB9 := hB8.trans (hb8.mono hB8.size)
              clear hb8
              go_wp2_with fail
              refine (most_any _).mono ?_
              rintro e w9 ⟨rfl, hb9⟩
              have hB10 := hB9.trans (hb9.mono hB9.size)
              clear hb9
              go_wp2_with fail
              refine (MD.out _).mono ?_
              rintro e w10 ⟨rfl, hb10⟩
              have hB11 := hB10.trans (hb10.mono hB10.size)
              clear hb10
              go_wp2_with fail
              refine (MD.out _).mono ?_
              rintro e w11 ⟨rfl, hb11⟩
              have hB12 := hB11.trans (hb11.mono hB11.size)
              clear hb11
              go_wp2_with fail
              refine (HMN.out _).mono ?_
              rintro e w12 ⟨rfl, hb12⟩
              have hB13 := hB12.trans (hb12.mono hB12.size)
              clear hb12
              go_wp2_with fail
              refine (wakes3_any _ (HA.out.stays hB13)).mono ?_
              rintro e wz ⟨rfl, hbz⟩
              go_wp2
              go_ret
              exact ⟨rfl, hB13.trans (hbz.mono hB13.size)⟩
            · obtain ⟨r1, r2, r3⟩ := no_23 (n := f) ⟨k0, k6⟩ (by omega)
              have e1 : YY = 0 := by rw [← GYY.out]; exact r2
              have e2 : NN = 0 := by rw [← GNN.out]; exact r3
              have e3 : NE = 23 := by rw [← GNE.out]; exact r1
              subst e1 e2 e3
              clear r1 r2 r3
              have hcase : Cal.yr f < 1 ∨ 9999 < Cal.yr f := by omega
              clear hin hys
              generalize Cal.yr f = Y at *
              generalize dM f = MM at *
              generalize dD f = DD at *
              have hfd : ∀ w : World, (Instr.field 23 (.agg #[.int .i64 Y, .int .i64 MM, .int .i64 DD]) 0).run Tryd.prog w = .ok (.int .i64 Y) w := fun _ => by kernel_rfl
              rcases hcase with hcase | hcase
              · go_wp2_with fail
                refine (least_any _).mono ?_
                rintro e w8 ⟨rfl, hb8⟩
                have hB9 := hB8.trans (hb8.mono hB8.size)
                clear hb8
                go_wp2_with fail
                refine (most_any _).mono ?_
                rintro e w9 ⟨rfl, hb9⟩
                have hB10 := hB9.trans (hb9.mono hB9.size)
                clear hb9
                go_wp2_with fail
                refine (MD.out _).mono ?_
                rintro e w10 ⟨rfl, hb10⟩
                have hB11 := hB10.trans (hb10.mono hB10.size)
                clear hb10
                go_wp2_with fail
                refine (wakes3_any _ (HA.out.stays hB11)).mono ?_
                rintro e wz ⟨rfl, hbz⟩
                go_wp2
                go_ret
                exact ⟨rfl, hB11.trans (hbz.mono hB11.size)⟩
              · go_wp2_with fail
                refine (least_any _).mono ?_
                rintro e w8 ⟨rfl, hb8⟩
                have hB9 := hB8.trans (hb8.mono hB8.size)
                clear hb8
                go_wp2_with fail
                refine (most_any _).mono ?_
                rintro e w9 ⟨rfl, hb9⟩
                have hB10 := hB9.trans (hb9.mono hB9.size)
                clear hb9
                go_wp2_with fail
                refine (MD.out _).mono ?_
                rintro e w10 ⟨rfl, hb10⟩
                have hB11 := hB10.trans (hb10.mono hB10.size)
                clear hb10
                go_wp2_with fail
                refine (MD.out _).mono ?_
                rintro e w11 ⟨rfl, hb11⟩
                have hB12 := hB11.trans (hb11.mono hB11.size)
                clear hb11
                go_wp2_with fail
                refine (wakes3_any _ (HA.out.stays hB12)).mono ?_
                rintro e wz ⟨rfl, hbz⟩
                go_wp2
                go_ret
                exact ⟨rfl, hB12.trans (hbz.mono hB12.size)⟩
    · obtain ⟨r1, r2, r3⟩ := no_1 (n := f) hk
      have e1 : YY = 0 := by rw [← GYY.out]; exact r2
      have e2 : NN = 0 := by rw [← GNN.out]; exact r3
      have e3 : NE = 1 := by rw [← GNE.out]; exact r1
      have e4 : CV = 0 := by rw [← GCV.out, wkV, if_neg (fun h => hk h.1)]
      have e5 : CE = 1 := by rw [← GCE.out, wkE, if_neg hk]
      subst e1 e2 e3 e4 e5
      have hk2 : wk < 0 ∨ 6 < wk := by omega
      clear hk r1 r2 r3
      rcases hk2 with hk2 | hk2
      all_goals
        go_wp2_with fail
        refine (wakes3_any _ (HA.out.stays hcut)).mono ?_
        rintro e w7 ⟨rfl, hb7⟩
        go_wp2
        go_ret
        exact ⟨rfl, hcut.trans (hb7.mono hcut.size)⟩

theorem wexact_any (k v d y m f t num wk : Int) (w : World) (hA : Ahead w) (f1 : -9223372036854775808 ≤ f) (f2 : f ≤ 9223372036854775807) (t1 : -9223372036854775808 ≤ t) (t2 : t ≤ 9223372036854775807) :
    Calls Tryd.prog 4 #[.agg #[.int .i64 k, .int .i64 v, .int .i64 d], .int .i64 y, .int .i64 m, .int .i64 f, .int .i64 t, .int .i64 num, .int .i64 wk] w fun e w' => e = .returned (.bool true) ∧ Below w.heap.size w w' := by
  by_cases h1 : y < 1
  · exact wexact_b k v d y m f t num wk w hA f1 f2 t1 t2 h1
  · by_cases h2 : 9999 < y
    · exact wexact_c k v d y m f t num wk w hA f1 f2 t1 t2 h2
    · exact wexact_a k v d y m f t num wk w hA f1 f2 t1 t2 (by omega) (by omega)
end Wk
end Go.Proofs.YtpkknhbhliapcaaDoor
