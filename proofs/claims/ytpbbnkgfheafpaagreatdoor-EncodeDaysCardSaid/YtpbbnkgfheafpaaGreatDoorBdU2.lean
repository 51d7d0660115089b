/-
  Several texts in one (RruF, RruM, RruG).
-/
import Derived.Test.YtpbbnkgfheafpaaGreatDoorBdU1
import Derived.Test.YtpbbnkgfheafpaaGreatDoorBdFn
import Derived.Test.YtpbbnkgfheafpaaGreatDoorBdFd
import Derived.Lib.QuietBelow
import Derived.Test.YtpbbnkgfheafpaaGreatDoorRruE
/-
  Package rrule: days, bases.
-/
namespace Go.Proofs.YtpbbnkgfheafpaaGreatDoor
open Go.RowKit
namespace Rru
open Rcv (CV IntV DayV LisV)
open Ap (RowI Grew)
open Rck (Small)
open Civ (Ahead)
open Fil (letP nth_all lets_to)
open Cel
/-- The days, from one up to another, that a rule lets: at the first of its seconds. -/
def dyB (x : CV) (st s0 d : Int) : Bool := mbB x (Cal.wday d) && letP x st (d * 86400 + s0)
def daL (x : CV) (st s0 a b : Int) : List Int := (((List.range (b - a).toNat).map fun (i : Nat) => a + (i : Int)).filter (dyB x st s0)).map (· * 86400)
theorem da_step {x : CV} {st s0 a : Int} {k : Nat} : daL x st s0 a (a + (k + 1 : Nat)) = daL x st s0 a (a + (k : Nat)) ++ (if dyB x st s0 (a + k) = true then [(a + k) * 86400] else []) := by
  have e1 : (a + ((k + 1 : Nat) : Int) - a).toNat = k + 1 := by omega
  have e2 : (a + ((k : Nat) : Int) - a).toNat = k := by omega
  rw [daL, daL, e1, e2, List.range_succ, List.map_append, List.filter_append, List.map_append]
  congr 1
  by_cases h : dyB x st s0 (a + k) = true <;> simp [h]
theorem da_nil {x : CV} {st s0 a b : Int} (h : b ≤ a) : daL x st s0 a b = [] := by
  have : (b - a).toNat = 0 := by omega
  rw [daL, this]; rfl
theorem da_len (x : CV) (st s0 a b : Int) : (daL x st s0 a b).length ≤ (b - a).toNat := by
  rw [daL, List.length_map]
  refine Nat.le_trans (List.length_filter_le _ _) ?_
  simp
theorem weekday_b (n k : Int) (w : World) (h : Hid (Cal.wday n = k)) : Calls Tryz.prog 42 #[.int .i64 n] w fun e w' => e = .returned (.int .i64 k) ∧ Below w.heap.size w w' :=
  (Civ.weekday_any n w).mono fun _ _ ⟨he, hw⟩ => ⟨by rw [he, h.out], by rw [← hw]; exact Below.refl _ _⟩
theorem pre16 {g : Nat} {w : World} {v0 v1 v2 v3 v4 v5 v6 v7 v8 v9 v10 v11 v12 v13 v14 v15 v16 v17 : Value} (C : Cs g w [v0, v1, v2, v3, v4, v5, v6, v7, v8, v9, v10, v11, v12, v13, v14, v15, v16, v17]) : w.rangeAt g 0 [v0, v1, v2, v3, v4, v5, v6, v7, v8, v9, v10, v11, v12, v13, v14, v15] := fun j v hj => by
  rw [Nat.zero_add]
  refine (C.2 j v ?_).1
  have hl := (List.getElem?_eq_some_iff.1 hj).1
  have e : [v0, v1, v2, v3, v4, v5, v6, v7, v8, v9, v10, v11, v12, v13, v14, v15, v16, v17] = [v0, v1, v2, v3, v4, v5, v6, v7, v8, v9, v10, v11, v12, v13, v14, v15] ++ [v16, v17] := rfl
  rw [e, List.getElem?_append_left hl]
  exact hj
set_option maxHeartbeats 12800000 in
set_option maxRecDepth 100000 in
theorem days_to (x : CV) (s6 s7 s8 s9 s10 s11 s12 s13 s14 : Value) (st s0 a b : Int) (sb so sn sc : Nat) (B0 : Nat) (lv : Value) (A : List Int) (w0 w : World) (HA : Hid (Ahead w0)) (HU : Hid (-9223372036854775808 ≤ x.ua ∧ x.ua ≤ 9223372036854775807)) (L : Hid (LisV w0 x s6 s7 s8 s9 s10 s11 s12 s13 s14)) (S : Hid (Small x)) (HST : Hid (-1000000000000 ≤ st ∧ st ≤ 1000000000000)) (hw0 : w0.heap.size ≤ B0) (B00 : Hid (Below w0.heap.size w0 w)) (hr : RowI B0 w lv A) (hB0 : B0 ≤ w.heap.size) (hA : A.length ≤ 1000000)
    (hs0 : w.cell? ⟨sb, so, none⟩ = some (.int .i64 s0)) (hsb : sb < B0) (hsn : 0 < sn) (hsec : 0 ≤ s0 ∧ s0 < 86400) (ha : -1000000 ≤ a ∧ a ≤ 4000000) (hab : b ≤ a + 400) :
    Calls Tryz.prog 53 #[.agg #[.int .i64 x.fq, .int .i64 x.iv, .int .i64 x.ct, .bool x.un, .int .i64 x.ua, .bool x.ut, s6, s7, s8, s9, s10, s11, s12, s13, s14, .int .i64 x.wk, .int .i64 st, .slice (some ⟨sb, so, none⟩) sn sc], lv, .int .i64 a, .int .i64 b] w fun e w' => ∃ lv', e = .returned lv' ∧ RowI B0 w' lv' (A ++ daL x st s0 a b) ∧ Below B0 w w' := by
  obtain ⟨m, hm⟩ : ∃ m, (b - a).toNat = m := ⟨_, rfl⟩
  have HM := Lib.hid hm
  have m400 : m ≤ 400 := by omega
  have HR := Lib.hid hr
  have HS0 := Lib.hid hs0
  have HB0 := Lib.hid hB0
  have HSEC := Lib.hid hsec
  have HW0 := Lib.hid hw0
  have hN : Hid (some w.heap.size ≠ lv.ownBlock) := Lib.hid (fun e => by have := (World.ownsRow.lt hr _ e.symm).2; exact absurd this (Nat.lt_irrefl _))
  have HAL := Lib.hid hA
  have sz : (0 : Int) < (sn : Int) := by omega
  obtain ⟨D, hD⟩ : ∃ l, daL x st s0 a b = l := ⟨_, rfl⟩
  have HD := Lib.hid hD
  rw [hD]
  clear hm hr hs0 hB0 hsec hD hA hw0
  go_enter Tryz.func53, Tryz.ntmps53
  go_upto_region 0 with fail
  go_cut [4] (fun p wz => p = .pointer (some ⟨w.heap.size, 0, none⟩) ∧ Hid (Cs w.heap.size wz [.int .i64 x.fq, .int .i64 x.iv, .int .i64 x.ct, .bool x.un, .int .i64 x.ua, .bool x.ut, s6, s7, s8, s9, s10, s11, s12, s13, s14, .int .i64 x.wk, .int .i64 st, .slice (some ⟨sb, so, none⟩) sn sc]) ∧ Hid (RowI B0 wz lv A) ∧ Hid (Below B0 w wz))
  case first =>
    go_wp2
    go_meet
    exact ⟨rfl, Lib.hid (Cs.new w _ _), Lib.hid (HR.out.below ((Below.refl _ _).alloc (Nat.le_refl _) _)), Lib.hid ((Below.refl _ _).alloc HB0.out _)⟩
  case rest =>
  obtain ⟨w1, rfl⟩ : ∃ x : World, x = wc := ⟨_, rfl⟩
  clear HR
  obtain ⟨rfl, RB, HR, B⟩ := hcut
  go_wp2_with fail
  go_loopw [1, 9] (fun l iv wr => ∃ (k : Nat) (l2 : Value), k ≤ m ∧ l2 = l ∧ iv = .int .i64 (a + k) ∧ Hid (RowI B0 wr l2 (A ++ daL x st s0 a (a + k))) ∧ Hid (Cs w.heap.size wr [.int .i64 x.fq, .int .i64 x.iv, .int .i64 x.ct, .bool x.un, .int .i64 x.ua, .bool x.ut, s6, s7, s8, s9, s10, s11, s12, s13, s14, .int .i64 x.wk, .int .i64 st, .slice (some ⟨sb, so, none⟩) sn sc]) ∧ Hid (some w.heap.size ≠ l2.ownBlock) ∧ Hid (Below B0 w wr)) (fun _ iv _ => (a + m - intOf iv).toNat)
  case atStart => exact ⟨0, lv, Nat.zero_le _, rfl, by simp, Lib.hid (by rw [da_nil (by simp), List.append_nil]; exact HR.out), RB, hN, B⟩
  case round =>
    clear RB HR B hN
    obtain ⟨k, l2, hk, rfl, rfl, HR, RB, HNE, B⟩ := hrel
    obtain ⟨wo, rfl⟩ : ∃ wo : World, wo = wr := ⟨_, rfl⟩
    obtain ⟨d, hd⟩ : ∃ d, a + (k : Int) = d := ⟨_, rfl⟩
    have HDD := Lib.hid hd
    rw [hd] at HR ⊢
    by_cases hlt : k < m
    · have db : d < b := by have := HM.out; omega
      have dlo : -1000000 ≤ d ∧ d ≤ 5000000 := by omega
      obtain ⟨kw, hkw⟩ : ∃ z, Cal.wday d = z := ⟨_, rfl⟩
      obtain ⟨c1, hc1⟩ : ∃ c, mbB x kw = c := ⟨_, rfl⟩
      obtain ⟨c2, hc2⟩ : ∃ c, letP x st (d * 86400 + s0) = c := ⟨_, rfl⟩
      have HKW := Lib.hid hkw
      have HC1 := Lib.hid hc1
      have HC2 := Lib.hid hc2
      have HSTEP : Hid (daL x st s0 a (a + (k + 1 : Nat)) = daL x st s0 a d ++ (if (c1 && c2) = true then [d * 86400] else [])) := Lib.hid (by rw [da_step, HDD.out, dyB, hkw, hc1, hc2])
      have se := HSEC.out
      have r1 : IntKind.i64.wrap (d * 86400) = d * 86400 := IntWalk.i64_in _ (by omega)
      have r2 : IntKind.i64.wrap (d * 86400 + s0) = d * 86400 + s0 := IntWalk.i64_in _ (by omega)
      have r3 : IntKind.i64.wrap (d + 1) = d + 1 := IntWalk.i64_in _ (by omega)
      have hsz : B0 ≤ wo.heap.size := Nat.le_trans HB0.out (by have := RB.out.1; omega)
      have BZ := Lib.hid (B00.out.trans (B.out.mono HW0.out))
      have c16 := (RB.out.2 16 _ rfl).1
      have c17 := (RB.out.2 17 _ rfl).1
      have cs0 := (B.out.cell (p := ⟨sb, so, none⟩) hsb).trans HS0.out
      have k16 := cell_regrown c16
      have k17 := cell_regrown c17
      have ks0 := cell_regrown cs0
      have d1 := Lib.hid (fun dd os => Calls.regrown_of (weekday_b d kw (Sort.grow (redrawn wo dd) os) HKW))
      have bdt : -9223372036854775808 ≤ d * 86400 + s0 ∧ d * 86400 + s0 ≤ 9223372036854775807 := by omega
      have BG := Lib.hid (fun dd os => bstep BZ.out (below_regrown wo dd os))
      have d2 := Lib.hid (fun dd os => Calls.regrown_of (mb_to x s6 s7 s8 s9 s10 s11 s12 s13 s14 (.slice (some ⟨sb, so, none⟩) sn sc) st kw c1 (Sort.grow (redrawn wo dd) os) (L.out.below (BG.out dd os)).h9 S.out.dy HC1))
      have d3 := Lib.hid (fun dd os => Calls.regrown_of (lets_to x s6 s7 s8 s9 s10 s11 s12 s13 s14 st (d * 86400 + s0) c2 (Sort.grow (redrawn wo dd) os) (HA.out.stays (BG.out dd os)) HU.out.1 HU.out.2 (L.out.below (BG.out dd os)) S.out (nth_all (HA.out.stays (BG.out dd os)) (L.out.below (BG.out dd os))) (by have := HST.out; omega) (by have := HST.out; omega) bdt.1 bdt.2 HC2))
      go_upto_region 5 with fail
      go_cut [35] (fun v wz => v = .bool (c1 && c2) ∧ Hid (Below wo.heap.size wo wz))
      case first =>
        clear c16 c17 cs0 HSTEP HKW HC1 HC2 BG BZ hd
        cases c1 with
        | true =>
          refine wp_region_quiet_below (by kernel_rfl) (by kernel_rfl) ?_
          refine ldQ (g := w.heap.size) (vs := [.int .i64 x.fq, .int .i64 x.iv, .int .i64 x.ct, .bool x.un, .int .i64 x.ua, .bool x.ut, s6, s7, s8, s9, s10, s11, s12, s13, s14, .int .i64 x.wk, .int .i64 st, .slice (some ⟨sb, so, none⟩) sn sc]) (by rintro _ ⟨p, rfl⟩; exact (RB.out.below (below_regrown wo _ _)).range) rfl Tryz.underlying60 rfl (by kernel_rfl) (by rfl) (by rfl) ?_
          iterate 5 (quiet_step (first | with_reducible exact d1.out _ _ | with_reducible exact d2.out _ _))
          refine ldQ (g := w.heap.size) (vs := [.int .i64 x.fq, .int .i64 x.iv, .int .i64 x.ct, .bool x.un, .int .i64 x.ua, .bool x.ut, s6, s7, s8, s9, s10, s11, s12, s13, s14, .int .i64 x.wk]) (by rintro _ ⟨p, rfl⟩; exact pre16 (RB.out.below (below_regrown wo _ _))) rfl Tryz.underlying29 rfl (by kernel_rfl) (by rfl) (by rfl) ?_
          repeat (quiet_step (with_reducible exact d3.out _ _))
          refine wpQuiet_nil ?_
          intro w' hw'
          obtain ⟨⟨dq, osq⟩, rfl⟩ := hw'
          go_wp2
          go_meet
          exact ⟨rfl, Lib.hid (below_regrown wo dq osq)⟩
        | false =>
          refine wp_region_quiet_below (by kernel_rfl) (by kernel_rfl) ?_
          refine ldQ (g := w.heap.size) (vs := [.int .i64 x.fq, .int .i64 x.iv, .int .i64 x.ct, .bool x.un, .int .i64 x.ua, .bool x.ut, s6, s7, s8, s9, s10, s11, s12, s13, s14, .int .i64 x.wk, .int .i64 st, .slice (some ⟨sb, so, none⟩) sn sc]) (by rintro _ ⟨p, rfl⟩; exact (RB.out.below (below_regrown wo _ _)).range) rfl Tryz.underlying60 rfl (by kernel_rfl) (by rfl) (by rfl) ?_
          iterate 3 (quiet_step (first | with_reducible exact d1.out _ _ | with_reducible exact d2.out _ _))
          refine wpQuiet_step (fun K hK => ?_)
          go_simp
          generalize hA : (Act.mk _ _) = A
          refine hK _ ?_
          clear hK K
          iterate 11 (refine wpQuiet_step (fun K hK => ?_); subst hA; go_simp; generalize hA : (Act.mk _ _) = A; refine hK _ ?_; clear hK K)
          subst hA
          repeat (quiet_step (skip))
          refine wpQuiet_nil ?_
          intro w' hw'
          obtain ⟨⟨dq, osq⟩, rfl⟩ := hw'
          go_wp2
          go_meet
          exact ⟨rfl, Lib.hid (below_regrown wo dq osq)⟩
      case rest =>
      obtain ⟨w2, rfl⟩ : ∃ x : World, x = wc := ⟨_, rfl⟩
      obtain ⟨rfl, k2⟩ := hcut
      have HR2 := Lib.hid (HR.out.below k2.out)
      have RB2 := Lib.hid (RB.out.below k2.out)
      have B2 := Lib.hid (B.out.trans (k2.out.mono hsz))
      have hsz2 : B0 ≤ w2.heap.size := Nat.le_trans hsz k2.out.size
      have HDE : Hid (a + ((k + 1 : Nat) : Int) = d + 1) := Lib.hid (by have := HDD.out; omega)
      clear c16 c17 cs0 k16 k17 ks0 d1 d2 d3 bdt BG BZ HR RB B k2 HC1 HC2 HKW r1 r2 hsz
      cases hcc : (c1 && c2) with
      | false =>
        rw [hcc] at HSTEP
        have HR3 : Hid (RowI B0 w2 l2 (A ++ daL x st s0 a (a + (k + 1 : Nat)))) := Lib.hid (by rw [HSTEP.out, if_neg (by decide), List.append_nil]; exact HR2.out)
        clear HSTEP HR2
        go_wp2
        go_roundw
        case rel => exact ⟨k + 1, l2, by omega, rfl, by rw [HDE.out], HR3, RB2, HNE, B2⟩
        case measure => have := HDD.out; simp [intOf]; omega
      | true =>
        rw [hcc] at HSTEP
        obtain ⟨AA, cc, rfl⟩ := HR2.out.forms
        obtain ⟨AD, hAD⟩ : ∃ l, A ++ daL x st s0 a d = l := ⟨_, rfl⟩
        have hl : AD.length ≤ 100000000 := by
          have h1 := HAL.out
          have h2 := da_len x st s0 a d
          rw [← hAD, List.length_append]; omega
        have HSX : Hid (A ++ daL x st s0 a (a + (k + 1 : Nat)) = AD ++ [d * 86400]) := Lib.hid (by rw [HSTEP.out, if_pos rfl, ← List.append_assoc, hAD])
        rw [hAD] at HR2 HNE ⊢
        have hg0 := RB2.out.1
        clear hAD HSTEP
        go_wp2_with (at_builtin; refine appIH rfl _ _ rfl B0 _ AD rfl HR2.out (d * 86400) rfl hl hsz2 ?_)
        intro wn gg gcap r5 g5 hat
        have HR3 : Hid (RowI B0 wn (.slice (some ⟨gg, 0, none⟩) (AD.length + 1) gcap) (A ++ daL x st s0 a (a + (k + 1 : Nat)))) := Lib.hid (by rw [HSX.out]; exact r5)
        have RB3 := Lib.hid (Cs.grew RB2.out g5 HNE.out)
        have B3 := Lib.hid (g5.below B0 w (Nat.le_refl _) B2.out hsz2)
        have HN3 : Hid (some w.heap.size ≠ (Value.slice (some ⟨gg, 0, none⟩) (AD.length + 1) gcap).ownBlock) := Lib.hid (by
          rcases hat with h | h
          · intro e
            exact HNE.out (e.trans h.symm)
          · intro e
            have e2 : w.heap.size = gg := by simpa [Value.ownBlock] using e
            omega)
        clear r5 g5 hat HR2 RB2 B2 HSX HNE hg0
        go_wp2
        go_roundw
        case rel => exact ⟨k + 1, _, by omega, rfl, by rw [HDE.out], HR3, RB3, HN3, B3⟩
        case measure => have := HDD.out; simp [intOf]; omega
    · obtain rfl : k = m := by omega
      have HR2 : Hid (RowI B0 wo l2 (A ++ D)) := Lib.hid (by
        have q := HR.out
        by_cases h : a ≤ b
        · have e : d = b := by have := HM.out; omega
          rw [e, HD.out] at q; exact q
        · have e : d = a := by have := HM.out; omega
          rw [e, da_nil (Int.le_refl _)] at q
          rw [← HD.out, da_nil (by omega)]; exact q)
      have db : ¬ d < b := by have := HM.out; omega
      clear HR hd HDD
      go_wp2
      go_ret
      exact ⟨_, rfl, HR2.out, B.out⟩
end Rru
end Go.Proofs.YtpbbnkgfheafpaaGreatDoor
/-
  Package rrule, plain words: days side by side; a month that a rule does not have lets none.
-/
namespace Go.Proofs.YtpbbnkgfheafpaaGreatDoor
open Go.RowKit
namespace Rru
open Rcv (CV)
open Fil (letP letQ lnB dy_bounds)
open Civ (dY dM dD)
theorem da_app {x : CV} {st s0 a b : Int} (h : a ≤ b) (k : Nat) : daL x st s0 a (b + k) = daL x st s0 a b ++ daL x st s0 b (b + k) := by
  obtain ⟨j, hj⟩ : ∃ j : Nat, b = a + j := ⟨(b - a).toNat, by omega⟩
  subst hj
  induction k with
  | zero =>
    rw [da_nil (a := a + (j : Int)) (b := a + (j : Int) + ((0 : Nat) : Int)) (by simp)]
    simp
  | succ k ih =>
    have e : a + (j : Int) + ((k + 1 : Nat) : Int) = a + ((j + k + 1 : Nat) : Int) := by omega
    have e' : a + (j : Int) + (k : Int) = a + ((j + k : Nat) : Int) := by omega
    rw [da_step (a := a + (j : Int)) (k := k), e, da_step (a := a) (k := j + k), ← e', ih, List.append_assoc]
theorem da_split {x : CV} {st s0 a b c : Int} (h : a ≤ b) (k : b ≤ c) : daL x st s0 a c = daL x st s0 a b ++ daL x st s0 b c := by
  obtain ⟨j, rfl⟩ : ∃ j : Nat, c = b + j := ⟨(c - b).toNat, by omega⟩
  exact da_app h j
/-- Days of one month. -/
theorem month_same {d : Int} (hd : -719162 ≤ d ∧ d < 2932897) {e : Int} (h1 : d ≤ e) (h2 : e < d + Cal.mlen (dY d) (dM d) - dD d + 1) : dM e = dM d := by
  obtain ⟨Y, M, D, hY, hM, hD, y, m, dd, q, a, b⟩ := dy_bounds hd
  rw [hY, hM, hD] at h2
  have cb := Cal.cum_bd (y := Y) m.1 m.2
  have s := Cal.ny_succ Y
  have nb := Cal.ny_bd (y := Y + 1) (by omega) (by omega)
  have e1 : Cal.ny Y ≤ e := by omega
  have e2 : e < Cal.ny (Y + 1) := by omega
  have rg : -719528 ≤ e ∧ e ≤ 2933262 := by omega
  have yr := Cal.yr_of e1 e2 rg.1 rg.2
  have mo := Cal.mon_of (y := Y) (r := e - Cal.ny Y) m.1 m.2 (by omega) (by omega)
  rw [hM, dM, if_pos rg, yr, mo]
theorem lets_month {x : CV} {st t : Int} (h : letP x st t = true) : x.mo = [] ∨ x.mo.contains (dM (t / 86400)) = true := by
  rw [letP, letQ, lnB] at h
  simp only [Bool.and_eq_true, Bool.or_eq_true, decide_eq_true_eq] at h
  exact h.2.2.2.2.1.1
/-- A month that a rule does not have. -/
theorem da_skip {x : CV} {st s0 d b : Int} (hs : 0 ≤ s0 ∧ s0 < 86400) (hd : -719162 ≤ d ∧ d < 2932897) (hb : b ≤ d + Cal.mlen (dY d) (dM d) - dD d + 1) (h0 : x.mo ≠ []) (hm : x.mo.contains (dM d) = false) : daL x st s0 d b = [] := by
  rw [daL, List.filter_eq_nil_iff.2, List.map_nil]
  intro e he
  obtain ⟨i, hi, rfl⟩ := List.mem_map.1 he
  rw [List.mem_range] at hi
  rw [dyB]
  intro q
  rw [Bool.and_eq_true] at q
  have l := lets_month q.2
  rw [show ((d + (i : Int)) * 86400 + s0) / 86400 = d + (i : Int) by omega, month_same hd (by omega) (by omega), hm] at l
  rcases l with l | l
  · exact h0 l
  · exact absurd l (by decide)
/-- The bases of a span at which a rule lets anything. -/
def bsL (x : CV) (st s0 a b : Int) : List Int := if x.fq < 4 then (if letP x st (a + s0) = true then [a] else []) else daL x st s0 (a / 86400) (b / 86400 + 1)
theorem behind_bd {d : Int} (hd : -719162 ≤ d ∧ d < 2932897) : d < d + Cal.mlen (dY d) (dM d) - dD d + 1 ∧ d + Cal.mlen (dY d) (dM d) - dD d + 1 ≤ d + 31 ∧ 1 ≤ dD d ∧ dD d ≤ 31 ∧ 28 ≤ Cal.mlen (dY d) (dM d) ∧ Cal.mlen (dY d) (dM d) ≤ 31 := by
  obtain ⟨Y, M, D, hY, hM, hD, y, m, dd, q, a, b⟩ := dy_bounds hd
  rw [hY, hM, hD]
  have l := Cal.mlen_bd Y M
  have l2 := Cal.mlen_28 (y := Y) m.1 m.2
  omega
end Rru
end Go.Proofs.YtpbbnkgfheafpaaGreatDoor
/-
  Package rrule: bases.
-/
namespace Go.Proofs.YtpbbnkgfheafpaaGreatDoor
open Go.RowKit
namespace Rru
open Rcv (CV IntV DayV LisV)
open Ap (RowI Grew)
open Rck (Small)
open Civ (Ahead dY dM dD dnE)
open Fil (letP nth_all lets_to moO mo_bd)
open Cel
theorem len_w (y m l : Int) (w : World) (h : Hid (Cal.mlen y m = l)) : Calls Tryz.prog 14 #[.int .i64 y, .int .i64 m] w fun e w' => e = .returned (.int .i64 l) ∧ Below w.heap.size w w' :=
  (Civ.len_any y m w).mono fun _ _ ⟨he, hw⟩ => ⟨by rw [he, h.out], by rw [← hw]; exact Below.refl _ _⟩
theorem cs_low {g n : Nat} {w w' : World} {vs : List Value} (h : Cs g w vs) (k : Below n w w') (hg : g < n) : Cs g w' vs :=
  ⟨Nat.lt_of_lt_of_le h.1 k.size, fun i v hi => ⟨(k.cell (p := ⟨g, i, none⟩) hg).trans (h.2 i v hi).1, (k.frozen (p := ⟨g, i, none⟩) hg).trans (h.2 i v hi).2⟩⟩
theorem len_pos {α : Type} {L : List α} (h : ¬ L = []) : 0 < (L.length : Int) := by
  have := mt List.length_eq_zero_iff.1 h
  omega
set_option maxHeartbeats 25600000 in
set_option maxRecDepth 100000 in
theorem bases_to (x : CV) (s6 s7 s8 s9 s10 s11 s12 s13 s14 : Value) (st s0 a b : Int) (sb so sn sc : Nat) (w : World) (HA : Hid (Ahead w)) (HU : Hid (-9223372036854775808 ≤ x.ua ∧ x.ua ≤ 9223372036854775807)) (L : Hid (LisV w x s6 s7 s8 s9 s10 s11 s12 s13 s14)) (S : Hid (Small x)) (HST : Hid (-1000000000000 ≤ st ∧ st ≤ 1000000000000))
    (hs0 : w.cell? ⟨sb, so, none⟩ = some (.int .i64 s0)) (hsb : sb < w.heap.size) (hsn : 0 < sn) (hsec : 0 ≤ s0 ∧ s0 < 86400) (ha : moO a = true) (hb : moO b = true) (hab : b / 86400 ≤ a / 86400 + 400) :
    Calls Tryz.prog 30 #[.agg #[.int .i64 x.fq, .int .i64 x.iv, .int .i64 x.ct, .bool x.un, .int .i64 x.ua, .bool x.ut, s6, s7, s8, s9, s10, s11, s12, s13, s14, .int .i64 x.wk, .int .i64 st, .slice (some ⟨sb, so, none⟩) sn sc], .int .i64 a, .int .i64 b] w fun e w' => ∃ lv', e = .returned lv' ∧ RowI w.heap.size w' lv' (bsL x st s0 a b) ∧ Below w.heap.size w w' := by
  have HS0 := Lib.hid hs0
  have HSEC := Lib.hid hsec
  obtain ⟨D, hD⟩ : ∃ l, bsL x st s0 a b = l := ⟨_, rfl⟩
  have HD := Lib.hid hD
  rw [hD]
  have ab := mo_bd ha
  have bb := mo_bd hb
  have RNG := Lib.hid (show (-719162 ≤ a / 86400 ∧ a / 86400 < 2932897) ∧ (-719162 ≤ b / 86400 ∧ b / 86400 < 2932897) ∧ b / 86400 ≤ a / 86400 + 400 from ⟨⟨ab.1, ab.2.1⟩, ⟨bb.1, bb.2.1⟩, hab⟩)
  have TB := Lib.hid (show (-1000000000000 ≤ a ∧ a ≤ 1000000000000) ∧ (-1000000000000 ≤ b ∧ b ≤ 1000000000000) by omega)
  have sz : (0 : Int) < (sn : Int) := by omega
  clear hs0 hsec hD ha hb hab ab bb
  go_enter Tryz.func30, Tryz.ntmps30
  go_upto_region 0 with fail
  go_cut [3] (fun p wz => p = .pointer (some ⟨w.heap.size, 0, none⟩) ∧ Hid (Cs w.heap.size wz [.int .i64 x.fq, .int .i64 x.iv, .int .i64 x.ct, .bool x.un, .int .i64 x.ua, .bool x.ut, s6, s7, s8, s9, s10, s11, s12, s13, s14, .int .i64 x.wk, .int .i64 st, .slice (some ⟨sb, so, none⟩) sn sc]) ∧ Hid (Below w.heap.size w wz))
  case first =>
    go_wp2
    go_meet
    exact ⟨rfl, Lib.hid (Cs.new w _ _), Lib.hid ((Below.refl _ _).alloc (Nat.le_refl _) _)⟩
  case rest =>
  obtain ⟨w1, rfl⟩ : ∃ x : World, x = wc := ⟨_, rfl⟩
  obtain ⟨rfl, RB, B⟩ := hcut
  have l0 := (RB.out.2 0 _ rfl).1
  by_cases f : x.fq < 4
  · obtain ⟨c, hc⟩ : ∃ c, letP x st (a + s0) = c := ⟨_, rfl⟩
    have HC := Lib.hid hc
    have HD2 : Hid (D = if c = true then [a] else []) := Lib.hid (by rw [← HD.out, bsL, if_pos f, hc])
    have fd : decide (x.fq < 4) = true := decide_eq_true f
    have se := HSEC.out
    have tb := TB.out
    have r1 : IntKind.i64.wrap (a + s0) = a + s0 := IntWalk.i64_in _ (by omega)
    have c16 := (RB.out.2 16 _ rfl).1
    have c17 := (RB.out.2 17 _ rfl).1
    have cs0 := (B.out.cell (p := ⟨sb, so, none⟩) hsb).trans HS0.out
    have k16 := cell_regrown c16
    have k17 := cell_regrown c17
    have ks0 := cell_regrown cs0
    have bdt : -9223372036854775808 ≤ a + s0 ∧ a + s0 ≤ 9223372036854775807 := by omega
    have BG := Lib.hid (fun dd os => bstep B.out (below_regrown w1 dd os))
    have d3 := Lib.hid (fun dd os => Calls.regrown_of (lets_to x s6 s7 s8 s9 s10 s11 s12 s13 s14 st (a + s0) c (Sort.grow (redrawn w1 dd) os) (HA.out.stays (BG.out dd os)) HU.out.1 HU.out.2 (L.out.below (BG.out dd os)) S.out (nth_all (HA.out.stays (BG.out dd os)) (L.out.below (BG.out dd os))) (by have := HST.out; omega) (by have := HST.out; omega) bdt.1 bdt.2 HC))
    clear hc
    go_upto_region 3 with fail
    go_cut [29] (fun v wz => v = .bool c ∧ Hid (Below w.heap.size w wz))
    case first =>
      clear c16 c17 cs0 l0 HD HD2 HC BG se tb
      refine wp_region_quiet_below (by kernel_rfl) (by kernel_rfl) ?_
      quiet_step (fail)
      refine ldQ (g := w.heap.size) (vs := [.int .i64 x.fq, .int .i64 x.iv, .int .i64 x.ct, .bool x.un, .int .i64 x.ua, .bool x.ut, s6, s7, s8, s9, s10, s11, s12, s13, s14, .int .i64 x.wk]) (by rintro _ ⟨p, rfl⟩; exact pre16 (RB.out.below (below_regrown w1 _ _))) rfl Tryz.underlying29 rfl (by kernel_rfl) (by rfl) (by rfl) ?_
      repeat (quiet_step (with_reducible exact d3.out _ _))
      refine wpQuiet_nil ?_
      intro w' hw'
      obtain ⟨⟨dq, osq⟩, rfl⟩ := hw'
      go_wp2
      go_meet
      exact ⟨rfl, Lib.hid (bstep B.out (below_regrown w1 dq osq))⟩
    case rest =>
    obtain ⟨w2, rfl⟩ : ∃ x : World, x = wc := ⟨_, rfl⟩
    clear B RB l0 c16 c17 cs0 k16 k17 ks0 d3 BG
    obtain ⟨rfl, B⟩ := hcut
    cases c with
    | false =>
      obtain rfl : D = [] := by rw [HD2.out]; rfl
      go_wp2
      go_ret
      exact ⟨_, rfl, RowI.nil _ _, B.out⟩
    | true =>
      obtain rfl : D = [a] := by rw [HD2.out]; rfl
      have hsz := B.out.size
      go_wp2_with (at_builtin; refine Ap.appI rfl _ _ rfl w.heap.size (.slice none 0 0) [] rfl (RowI.nil _ _) a rfl (by decide) hsz ?_)
      intro wn gg gcap r5 g5
      have R5 := Lib.hid r5
      have B5 := Lib.hid (g5.below w.heap.size w (Nat.le_refl _) B.out hsz)
      clear r5 g5
      go_wp2
      go_ret
      exact ⟨_, rfl, R5.out, B5.out⟩
  · have fd : decide (x.fq < 4) = false := decide_eq_false f
    have HD2 : Hid (D = daL x st s0 (a / 86400) (b / 86400 + 1)) := Lib.hid (by rw [← HD.out, bsL, if_neg f])
    obtain ⟨A0, hA0⟩ : ∃ d, a / 86400 = d := ⟨_, rfl⟩
    obtain ⟨Z, hZ⟩ : ∃ d, b / 86400 = d := ⟨_, rfl⟩
    have HAZ := Lib.hid (And.intro hA0 hZ)
    rw [hA0, hZ] at RNG HD2
    clear HD hA0 hZ
    go_upto_region 6 with fail
    go_cut [8] (fun v wz => v = .int .i64 A0 ∧ Hid (Cs w.heap.size wz [.int .i64 x.fq, .int .i64 x.iv, .int .i64 x.ct, .bool x.un, .int .i64 x.ua, .bool x.ut, s6, s7, s8, s9, s10, s11, s12, s13, s14, .int .i64 x.wk, .int .i64 st, .slice (some ⟨sb, so, none⟩) sn sc]) ∧ Hid (Below w.heap.size w wz))
    case first =>
      clear l0 HD2
      go_wp2_with fail
      refine (Clk.csplit_any a _ (by have := TB.out; omega) (by have := TB.out; omega)).mono ?_
      rintro e w3 ⟨rfl, n, rfl⟩
      rw [HAZ.out.1]
      go_wp2
      go_meet
      exact ⟨rfl, Lib.hid (RB.out.drewN n), Lib.hid (bdrew B.out n)⟩
    case rest =>
    obtain ⟨w2, rfl⟩ : ∃ x : World, x = wc := ⟨_, rfl⟩
    clear B RB l0
    obtain ⟨rfl, RB, B⟩ := hcut
    go_upto_region 7 with fail
    go_cut [10] (fun v wz => v = .int .i64 Z ∧ Hid (Cs w.heap.size wz [.int .i64 x.fq, .int .i64 x.iv, .int .i64 x.ct, .bool x.un, .int .i64 x.ua, .bool x.ut, s6, s7, s8, s9, s10, s11, s12, s13, s14, .int .i64 x.wk, .int .i64 st, .slice (some ⟨sb, so, none⟩) sn sc]) ∧ Hid (Below w.heap.size w wz))
    case first =>
      clear HD2
      go_wp2_with fail
      refine (Clk.csplit_any b _ (by have := TB.out; omega) (by have := TB.out; omega)).mono ?_
      rintro e w3 ⟨rfl, n, rfl⟩
      rw [HAZ.out.2]
      go_wp2
      go_meet
      exact ⟨rfl, Lib.hid (RB.out.drewN n), Lib.hid (bdrew B.out n)⟩
    case rest =>
    obtain ⟨w3, rfl⟩ : ∃ x : World, x = wc := ⟨_, rfl⟩
    clear B RB HAZ
    obtain ⟨rfl, RB, B⟩ := hcut
    have HZ := Lib.hid (show w.heap.size + 1 ≤ w3.heap.size from RB.out.1)
    go_wp2_with fail
    go_loopw [7, 8] (fun l iv wr => ∃ (d : Int) (l2 : Value) (C : List Int), l2 = l ∧ iv = .int .i64 d ∧ A0 ≤ d ∧ d ≤ 5000000 ∧ Hid (C = daL x st s0 A0 (if d ≤ Z then d else Z + 1)) ∧ Hid (RowI (w.heap.size + 1) wr l2 C) ∧ Hid (Cs w.heap.size wr [.int .i64 x.fq, .int .i64 x.iv, .int .i64 x.ct, .bool x.un, .int .i64 x.ua, .bool x.ut, s6, s7, s8, s9, s10, s11, s12, s13, s14, .int .i64 x.wk, .int .i64 st, .slice (some ⟨sb, so, none⟩) sn sc]) ∧ Hid (Below w.heap.size w wr) ∧ Hid (w.heap.size + 1 ≤ wr.heap.size)) (fun _ iv _ => (Z + 1 - intOf iv).toNat)
    case atStart => exact ⟨A0, .slice none 0 0, [], rfl, rfl, Int.le_refl _, by have := RNG.out; omega, Lib.hid (by
        by_cases h : A0 ≤ Z
        · rw [if_pos h, da_nil (Int.le_refl _)]
        · rw [if_neg h, da_nil (by omega)]), Lib.hid (RowI.nil _ _), RB, B, HZ⟩
    case round =>
      clear RB B HZ
      obtain ⟨d, l2, C, rfl, rfl, hd1, hd2, HC, HR, RB, B, HZ⟩ := hrel
      obtain ⟨wo, rfl⟩ : ∃ wo : World, wo = wr := ⟨_, rfl⟩
      by_cases hlt : d ≤ Z
      · have HC2 : Hid (C = daL x st s0 A0 d) := Lib.hid (by rw [HC.out, if_pos hlt])
        have dr : -719162 ≤ d ∧ d < 2932897 := by have := RNG.out; omega
        have bh := behind_bd dr
        have DR := Lib.hid dr
        obtain ⟨Y, hY⟩ : ∃ z, dY d = z := ⟨_, rfl⟩
        obtain ⟨M, hM⟩ : ∃ z, dM d = z := ⟨_, rfl⟩
        obtain ⟨E, hE⟩ : ∃ z, dD d = z := ⟨_, rfl⟩
        rw [hY, hM, hE] at bh
        obtain ⟨ml, hml⟩ : ∃ z, Cal.mlen Y M = z := ⟨_, rfl⟩
        rw [hml] at bh
        have P1 := Lib.hid (And.intro hY (And.intro hM hE))
        have HML := Lib.hid hml
        obtain ⟨bh1, bh2, bh3, bh4, bh5, bh6⟩ := bh
        clear HC hY hM hE hml dr
        have DT := Lib.hid (fun W h => Civ.date_any d W h)
        go_upto_region 9 with fail
        go_cut [12] (fun p wz => ∃ gd, p = .pointer (some ⟨gd, 0, none⟩) ∧ Hid (Cs gd wz [.int .i64 Y, .int .i64 M, .int .i64 E]) ∧ Hid (RowI (w.heap.size + 1) wz l2 C) ∧ Hid (Cs w.heap.size wz [.int .i64 x.fq, .int .i64 x.iv, .int .i64 x.ct, .bool x.un, .int .i64 x.ua, .bool x.ut, s6, s7, s8, s9, s10, s11, s12, s13, s14, .int .i64 x.wk, .int .i64 st, .slice (some ⟨sb, so, none⟩) sn sc]) ∧ Hid (Below w.heap.size w wz) ∧ Hid (w.heap.size + 1 ≤ wz.heap.size))
        case first =>
          clear HC2 HD2 RNG HML
          go_wp2_with fail
          refine (DT.out _ (HA.out.stays B.out)).mono ?_
          rintro e w4 ⟨rfl, k⟩
          rw [P1.out.1, P1.out.2.1, P1.out.2.2]
          have HR := Lib.hid (HR.out.below k)
          have RB := Lib.hid (RB.out.below k)
          have B := Lib.hid (bstep B.out k)
          have HZ := Lib.hid (Nat.le_trans HZ.out k.size)
          clear k
          go_wp2
          go_meet
          exact ⟨_, rfl, Lib.hid (Cs.new w4 [.int .i64 Y, .int .i64 M, .int .i64 E] _), Lib.hid (HR.out.below ((Below.refl _ _).alloc (Nat.le_refl _) _)), Lib.hid (RB.out.alloc _), Lib.hid (B.out.alloc B.out.size _), Lib.hid (by have := HZ.out; simp; omega)⟩
        case rest =>
        obtain ⟨w4, rfl⟩ : ∃ x : World, x = wc := ⟨_, rfl⟩
        clear HR RB B HZ DT
        obtain ⟨gd, rfl, DC, HR, RB, B, HZ⟩ := hcut
        have q0 := (DC.out.2 0 _ rfl).1
        have q1 := (DC.out.2 1 _ rfl).1
        have q2 := (DC.out.2 2 _ rfl).1
        have kq0 := cell_regrown q0
        have kq1 := cell_regrown q1
        have kq2 := cell_regrown q2
        have d1 := Lib.hid (fun dd os => Calls.regrown_of (len_w Y M ml (Sort.grow (redrawn w4 dd) os) HML))
        have r1 : IntKind.i64.wrap (d + ml) = d + ml := IntWalk.i64_in _ (by have := DR.out; omega)
        have r2 : IntKind.i64.wrap (d + ml - E) = d + ml - E := IntWalk.i64_in _ (by have := DR.out; omega)
        have r3 : IntKind.i64.wrap (d + ml - E + 1) = d + ml - E + 1 := IntWalk.i64_in _ (by have := DR.out; omega)
        go_upto_region 10 with fail
        go_cut [14] (fun v wz => v = .int .i64 (d + ml - E + 1) ∧ Hid (Cs gd wz [.int .i64 Y, .int .i64 M, .int .i64 E]) ∧ Hid (RowI (w.heap.size + 1) wz l2 C) ∧ Hid (Cs w.heap.size wz [.int .i64 x.fq, .int .i64 x.iv, .int .i64 x.ct, .bool x.un, .int .i64 x.ua, .bool x.ut, s6, s7, s8, s9, s10, s11, s12, s13, s14, .int .i64 x.wk, .int .i64 st, .slice (some ⟨sb, so, none⟩) sn sc]) ∧ Hid (Below w.heap.size w wz) ∧ Hid (w.heap.size + 1 ≤ wz.heap.size))
        case first =>
          clear q0 q1 q2 HC2 HD2 RNG HML DR P1
          refine wp_region_quiet_below (by kernel_rfl) (by kernel_rfl) ?_
          repeat (quiet_step (with_reducible exact d1.out _ _))
          refine wpQuiet_nil ?_
          intro w' hw'
          obtain ⟨⟨dq, osq⟩, rfl⟩ := hw'
          have k := below_regrown w4 dq osq
          have DC := Lib.hid (DC.out.below k)
          have HR := Lib.hid (HR.out.below k)
          have RB := Lib.hid (RB.out.below k)
          have B := Lib.hid (bstep B.out k)
          have HZ := Lib.hid (Nat.le_trans HZ.out k.size)
          clear k
          go_wp2
          go_meet
          exact ⟨rfl, DC, HR, RB, B, HZ⟩
        case rest =>
        obtain ⟨w5, rfl⟩ : ∃ x : World, x = wc := ⟨_, rfl⟩
        clear HR RB B HZ DC q0 q1 q2 kq0 kq1 kq2 d1 r1 r2 r3
        obtain ⟨rfl, DC, HR, RB, B, HZ⟩ := hcut
        obtain ⟨d2, hd2'⟩ : ∃ z, d + ml - E + 1 = z := ⟨_, rfl⟩
        rw [hd2'] at bh1 bh2 ⊢
        have HDD := Lib.hid hd2'
        obtain ⟨c, hc⟩ : ∃ c, (decide (x.mo = []) || x.mo.contains M) = c := ⟨_, rfl⟩
        have HCC := Lib.hid hc
        clear hd2' hc
        go_upto_region 11 with fail
        go_cut [76] (fun v wz => v = .bool c ∧ Hid (RowI (w.heap.size + 1) wz l2 C) ∧ Hid (Cs w.heap.size wz [.int .i64 x.fq, .int .i64 x.iv, .int .i64 x.ct, .bool x.un, .int .i64 x.ua, .bool x.ut, s6, s7, s8, s9, s10, s11, s12, s13, s14, .int .i64 x.wk, .int .i64 st, .slice (some ⟨sb, so, none⟩) sn sc]) ∧ Hid (Below w.heap.size w wz) ∧ Hid (w.heap.size + 1 ≤ wz.heap.size))
        case first =>
          have l13 := (RB.out.2 13 _ rfl).1
          have q1 := (DC.out.2 1 _ rfl).1
          have LV := Lib.hid (L.out.below B.out)
          obtain ⟨a13, c13, rfl⟩ := LV.out.h13.slice
          clear HC2 HD2 RNG HML DR P1
          by_cases h0 : x.mo = []
          · have z0 : x.mo.length = 0 := by rw [h0]; rfl
            obtain rfl : c = true := by rw [← HCC.out, decide_eq_true h0, Bool.true_or]
            rw [z0] at l13
            clear h0 z0 HCC
            go_wp2
            go_meet
            exact ⟨rfl, HR, RB, B, HZ⟩
          · have z := len_pos h0
            have z2 : ((x.mo.length : Int) == 0) = false := beq_eq_false_iff_ne.2 (by omega)
            have z3 : ¬ x.mo.length = 0 := by omega
            have HC3 : Hid (x.mo.contains M = c) := Lib.hid (by rw [← HCC.out, decide_eq_false h0, Bool.false_or])
            clear h0 HCC
            go_wp2_with fail
            refine (Fil.cont_to _ x.mo M _ LV.out.h13 S.out.mo).mono ?_
            rintro e w6 ⟨rfl, rfl⟩
            rw [HC3.out]
            go_wp2
            go_meet
            exact ⟨rfl, HR, RB, B, HZ⟩
        case rest =>
        obtain ⟨w6, rfl⟩ : ∃ x : World, x = wc := ⟨_, rfl⟩
        clear HR RB B HZ DC
        obtain ⟨rfl, HR, RB, B, HZ⟩ := hcut
        have d2le : d2 ≤ 5000000 := by have := RNG.out; omega
        have d2ge : A0 ≤ d2 := by omega
        obtain ⟨E2, hE2⟩ : ∃ z, (if d2 ≤ Z then d2 else Z + 1) = z := ⟨_, rfl⟩
        have e2b : d ≤ E2 ∧ E2 ≤ d2 ∧ E2 ≤ Z + 1 := by rw [← hE2]; split <;> omega
        have HE2 := Lib.hid hE2
        have HSP : Hid (daL x st s0 A0 E2 = C ++ daL x st s0 d E2) := Lib.hid (by rw [HC2.out]; exact da_split hd1 e2b.1)
        cases c with
        | false =>
          have hm : ¬ x.mo = [] ∧ x.mo.contains M = false := by
            have q := HCC.out
            rw [Bool.or_eq_false_iff] at q
            exact ⟨of_decide_eq_false q.1, q.2⟩
          have HCN : Hid (C = daL x st s0 A0 (if d2 ≤ Z then d2 else Z + 1)) := Lib.hid (by
            rw [HE2.out, HSP.out, da_skip HSEC.out DR.out (by rw [P1.out.1, P1.out.2.1, P1.out.2.2, HML.out, HDD.out]; omega) hm.1 (by rw [P1.out.2.1]; exact hm.2), List.append_nil])
          clear hm HCC HC2 HSP e2b hE2 DR P1 HML
          go_wp2
          go_roundw
          case rel => exact ⟨d2, l2, C, rfl, rfl, d2ge, d2le, HCN, HR, RB, B, HZ⟩
          case measure => simp [intOf]; omega
        | true =>
          have HCN : Hid (C ++ daL x st s0 d E2 = daL x st s0 A0 (if d2 ≤ Z then d2 else Z + 1)) := Lib.hid (by rw [HE2.out, HSP.out])
          have hmin : min d2 (Z + 1) = E2 := by rw [← hE2]; split <;> omega
          have HMIN := Lib.hid hmin
          have clen : C.length ≤ 1000000 := by
            have h1 := da_len x st s0 A0 d
            rw [← HC2.out] at h1
            have := RNG.out; omega
          have DG : Hid (∀ W, Hid (Below w.heap.size w W) → RowI (w.heap.size + 1) W l2 C → w.heap.size + 1 ≤ W.heap.size → Calls Tryz.prog 53 #[.agg #[.int .i64 x.fq, .int .i64 x.iv, .int .i64 x.ct, .bool x.un, .int .i64 x.ua, .bool x.ut, s6, s7, s8, s9, s10, s11, s12, s13, s14, .int .i64 x.wk, .int .i64 st, .slice (some ⟨sb, so, none⟩) sn sc], l2, .int .i64 d, .int .i64 E2] W fun e w' => ∃ lv', e = .returned lv' ∧ RowI (w.heap.size + 1) w' lv' (C ++ daL x st s0 d E2) ∧ Below (w.heap.size + 1) W w') := Lib.hid (fun W hW hR hz => days_to x s6 s7 s8 s9 s10 s11 s12 s13 s14 st s0 d E2 sb so sn sc (w.heap.size + 1) l2 C w W HA HU L S HST (Nat.le_succ _) hW hR hz clen ((hW.out.cell (p := ⟨sb, so, none⟩) hsb).trans HS0.out) (by omega) hsn HSEC.out (by have := DR.out; omega) (by omega))
          clear HCC HC2 HSP e2b hE2 DR P1 HML hmin HE2
          go_upto_region 12 with fail
          go_cut [7] (fun l wz => Hid (RowI (w.heap.size + 1) wz l (C ++ daL x st s0 d E2)) ∧ Hid (Cs w.heap.size wz [.int .i64 x.fq, .int .i64 x.iv, .int .i64 x.ct, .bool x.un, .int .i64 x.ua, .bool x.ut, s6, s7, s8, s9, s10, s11, s12, s13, s14, .int .i64 x.wk, .int .i64 st, .slice (some ⟨sb, so, none⟩) sn sc]) ∧ Hid (Below w.heap.size w wz) ∧ Hid (w.heap.size + 1 ≤ wz.heap.size))
          case first =>
            have w1' : IntKind.i64.wrap (Z + 1) = Z + 1 := IntWalk.i64_in _ (by have := RNG.out; omega)
            clear HCN HD2 RNG HDD
            by_cases g : d2 ≤ Z + 1
            · have e : E2 = d2 := by rw [← HMIN.out]; omega
              rw [e] at DG
              have HE3 := Lib.hid e
              have g2 : min d2 (Z + 1) = d2 := by omega
              clear HMIN e clen
              go_wp2_with (refine ldS RB.out.range rfl Tryz.underlying60 rfl (by kernel_rfl) (by rfl) (by rfl) ?_; intro K hK; go_simp)
              refine (DG.out _ B HR.out HZ.out).mono ?_
              rintro e w7 ⟨l3, rfl, R7, k7⟩
              have HR := Lib.hid (show RowI (w.heap.size + 1) w7 l3 (C ++ daL x st s0 d E2) by rw [HE3.out]; exact R7)
              have RB := Lib.hid (cs_low RB.out k7 (Nat.lt_succ_self _))
              have B := Lib.hid (B.out.trans (k7.mono (Nat.le_succ _)))
              have HZ := Lib.hid (Nat.le_trans HZ.out k7.size)
              clear R7 k7 DG
              go_wp2
              go_meet
              exact ⟨HR, RB, B, HZ⟩
            · have e : E2 = Z + 1 := by rw [← HMIN.out]; omega
              rw [e] at DG
              have HE3 := Lib.hid e
              have g2 : min d2 (Z + 1) = Z + 1 := by omega
              clear HMIN e clen
              go_wp2_with (refine ldS RB.out.range rfl Tryz.underlying60 rfl (by kernel_rfl) (by rfl) (by rfl) ?_; intro K hK; go_simp)
              refine (DG.out _ B HR.out HZ.out).mono ?_
              rintro e w7 ⟨l3, rfl, R7, k7⟩
              have HR := Lib.hid (show RowI (w.heap.size + 1) w7 l3 (C ++ daL x st s0 d E2) by rw [HE3.out]; exact R7)
              have RB := Lib.hid (cs_low RB.out k7 (Nat.lt_succ_self _))
              have B := Lib.hid (B.out.trans (k7.mono (Nat.le_succ _)))
              have HZ := Lib.hid (Nat.le_trans HZ.out k7.size)
              clear R7 k7 DG
              go_wp2
              go_meet
              exact ⟨HR, RB, B, HZ⟩
          case rest =>
          obtain ⟨w7, rfl⟩ : ∃ x : World, x = wc := ⟨_, rfl⟩
          clear HR RB B HZ
          obtain ⟨HR, RB, B, HZ⟩ := hcut
          clear DG HMIN clen HDD
          go_wp2
          go_roundw
          case rel => exact ⟨d2, _, _, rfl, rfl, d2ge, d2le, HCN, HR, RB, B, HZ⟩
          case measure => simp [intOf]; omega
      · have HC2 : Hid (C = D) := Lib.hid (by rw [HC.out, if_neg hlt, HD2.out])
        clear HC HD2
        go_wp2
        go_ret
        exact ⟨_, rfl, by rw [← HC2.out]; exact own_less2 HR.out (Nat.le_succ _), B.out⟩
end Rru
end Go.Proofs.YtpbbnkgfheafpaaGreatDoor
