/-
  Several texts in one (FilU, FilR, FilAB).
-/
import Derived.Test.YtpbdlgmkkbccmaaDoorBdFn
import Derived.Test.YtpbdlgmkkbccmaaDoorBdFd
import Derived.Test.YtpbdlgmkkbccmaaDoorBdFf
/-
  Plain words: the reference's spans are the program's.
-/
namespace Go.Proofs.YtpbdlgmkkbccmaaDoor
open Go.RowKit
namespace Fil
open Rcv (CV)
open Rck (ckE ckB)
open Civ (numV numE dY dM dD dnE)
open Wk (fw)
/-- The periods that the reference counts. -/
def rsI (x : CV) (p : Int) : Bool := if x.fq = 6 then decide (12 ≤ p ∧ p ≤ 119999) else if x.fq = 7 then decide (1 ≤ p ∧ p ≤ 9999) else true
theorem mfO_in {p : Int} (h : mfO p = true) : 0 ≤ p ∧ p < 120012 := by
  have q := of_decide_eq_true h
  rw [numE] at q
  split at q
  · rename_i v
    have v := of_decide_eq_true v
    omega
  · omega
theorem yfO_in {y : Int} (h : yfO y = true) : 0 ≤ y ∧ y ≤ 10000 := by
  have q := of_decide_eq_true h
  rw [numE] at q
  split at q
  · rename_i v
    have v := of_decide_eq_true v
    omega
  · omega
theorem mf_at' {p : Int} (h : 0 ≤ p ∧ p < 120012) : mfV p = Cal.ny (p / 12) + Cal.cum (p / 12) (p % 12 + 1) := by
  have e := mf_at (Y := p / 12) (M := p % 12 + 1) (by omega) (by omega)
  rwa [show 12 * (p / 12) + (p % 12 + 1) - 1 = p by omega] at e
theorem ref_span {x : CV} {p : Int} (hc : ckB x = true) (hp : farB p = false) : spQ x p = (rsI x p && (moO (spA x p) && moO (spZ x p - 1))) := by
  have hf := ck_fq hc
  have hk := ck_wk hc
  have c1 : Cal.ny 1 = -719162 := by decide +kernel
  have c2 : Cal.ny 10000 = 2932897 := by decide +kernel
  rw [spQ, hp]
  have key : spO x p = true → moO (spA x p) = true → rsI x p = true := fun h1 h2 => by
    have b := mo_bd h2
    rw [rsI]
    by_cases f6 : x.fq = 6
    · rw [if_pos f6]
      rw [(v6 f6 0 p).2.2.2, Bool.and_eq_true] at h1
      have o1 := mfO_in h1.1
      rw [(v6 f6 0 p).2.1, mf_at' o1] at b
      have m := Cal.cum_bd (y := p / 12) (m := p % 12 + 1) (by omega) (by omega)
      have l := Cal.mlen_28 (y := p / 12) (m := p % 12 + 1) (by omega) (by omega)
      have lp := Cal.lp_01 (p / 12)
      refine decide_eq_true ⟨?_, ?_⟩
      · by_cases g : p / 12 ≤ 0
        · have e : p / 12 = 0 := by omega
          rw [e] at b m lp l
          have c0 : Cal.ny 0 = -719528 := by decide +kernel
          omega
        · omega
      · by_cases g : 10000 ≤ p / 12
        · have n := Cal.ny_mono (a := 10000) (b := p / 12) g
          omega
        · omega
    · rw [if_neg f6]
      by_cases f7 : x.fq = 7
      · rw [if_pos f7]
        by_cases hn : x.wn = []
        · rw [(v7 f7 hn 0 p).2.2.2, Bool.and_eq_true] at h1
          have o1 := yfO_in h1.1
          have o2 := yfO_in h1.2
          rw [(v7 f7 hn 0 p).2.1, yf_at o1] at b
          refine decide_eq_true ⟨?_, by omega⟩
          by_cases g : p = 0
          · rw [g] at b
            have c0 : Cal.ny 0 = -719528 := by decide +kernel
            omega
          · omega
        · rw [(v8 f7 hn 0 p).2.2.2, Bool.and_eq_true] at h1
          have o1 := wfO_in h1.1
          have o2 := wfO_in h1.2
          rw [(v8 f7 hn 0 p).2.1, (wf_at (k := x.wk) o1).2] at b
          have i := fw_in p x.wk
          refine decide_eq_true ⟨?_, by omega⟩
          by_cases g : p = 0
          · rw [g] at b i
            have c0 : Cal.ny 0 = -719528 := by decide +kernel
            omega
          · omega
      · rw [if_neg f7]
  have back : rsI x p = true → spO x p = true := fun h => by
    rw [rsI] at h
    by_cases f6 : x.fq = 6
    · rw [if_pos f6] at h
      have h := of_decide_eq_true h
      rw [(v6 f6 0 p).2.2.2, mfO_at (by omega), mfO_at (by omega)]
      rfl
    · rw [if_neg f6] at h
      by_cases f7 : x.fq = 7
      · rw [if_pos f7] at h
        have h := of_decide_eq_true h
        by_cases hn : x.wn = []
        · rw [(v7 f7 hn 0 p).2.2.2, yfO_at (by omega), yfO_at (by omega)]
          rfl
        · rw [(v8 f7 hn 0 p).2.2.2, (wf_at (k := x.wk) (y := p) (by omega)).1, (wf_at (k := x.wk) (y := p + 1) (by omega)).1]
          rfl
      · rw [spO, if_pos (by omega)]
  cases h1 : spO x p with
  | true =>
    cases h2 : moO (spA x p) with
    | true => rw [key h1 h2]; rfl
    | false => simp
  | false =>
    cases h3 : rsI x p with
    | true => rw [back h3] at h1; cases h1
    | false => rfl
end Fil
end Go.Proofs.YtpbdlgmkkbccmaaDoor
/-
  The reference's Period (solsticeref21), of right rules and times that count.
-/
namespace Go.Proofs.YtpbdlgmkkbccmaaDoor
open Go.RowKit
namespace Fil
open Rcv (CV LisV IntV DayV)
open Rck (ckE ckB Small)
open Civ (numV numE dY dM dD dnE ydV Ahead)
open Wk (noY noN noE)
open Cel
set_option maxHeartbeats 12800000 in
set_option maxRecDepth 100000 in
theorem rper_to (x : CV) (s6 s7 s8 s9 s10 s11 s12 s13 s14 : Value) (t p : Int) (w : World) (hl : IntV w s12 x.wn) (hc : ckB x = true) (ht : moO t = true) (hp : Hid (perQ x t = p)) :
    Calls Tryd.prog 18 #[.agg #[.int .i64 x.fq, .int .i64 x.iv, .int .i64 x.ct, .bool x.un, .int .i64 x.ua, .bool x.ut, s6, s7, s8, s9, s10, s11, s12, s13, s14, .int .i64 x.wk], .int .i64 t] w fun e w' => e = .returned (.int .i64 p) ∧ Below w.heap.size w w' := by
  obtain ⟨a12, c12, rfl⟩ := hl.slice
  clear hl
  have KF := ck_fq hc
  have KW := ck_wk hc
  have bd := mo_bd ht
  have dd := dD_bd ht
  obtain ⟨d, hd⟩ : ∃ d, t / 86400 = d := ⟨_, rfl⟩
  rw [hd] at bd dd
  have tb : -1000000000000 ≤ t ∧ t ≤ 1000000000000 := by omega
  have yr : 1 ≤ Cal.yr d ∧ Cal.yr d ≤ 9999 := by
    have e : -719528 ≤ d ∧ d ≤ 2933262 := by omega
    have q := bd.2.2.2
    rw [dY, if_pos e] at q
    exact q
  obtain ⟨Y, hY⟩ : ∃ z, dY d = z := ⟨_, rfl⟩
  obtain ⟨M, hM⟩ : ∃ z, dM d = z := ⟨_, rfl⟩
  obtain ⟨D, hD⟩ : ∃ z, dD d = z := ⟨_, rfl⟩
  obtain ⟨fq, hfq⟩ : ∃ f, x.fq = f := ⟨_, rfl⟩
  obtain ⟨wk, hwk⟩ : ∃ f, x.wk = f := ⟨_, rfl⟩
  have HP : Hid (p = if fq = 1 then t else if fq = 2 then t / 60 else if fq = 3 then t / 3600 else if fq = 4 then d else if fq = 5 then (d + 4 - wk) / 7 else if fq = 6 then 12 * Y + M - 1 else if x.wn = [] then Y else noY d wk) := Lib.hid (by rw [← hp.out, perQ, hfq, hwk, hd, hY, hM])
  have HD := Lib.hid hd
  have P1 := Lib.hid (And.intro hY (And.intro hM hD))
  have YB := Lib.hid yr
  have TB := Lib.hid tb
  rw [hY] at bd
  rw [hM] at dd
  have y1 := bd.2.2.2
  have db1 := bd.1
  have db2 := bd.2.1
  have m1 := dd.1
  have m2 := dd.2.1
  rw [hwk] at KW
  obtain ⟨kw1, kw2⟩ := KW
  obtain ⟨y1, y2⟩ := y1
  rw [hfq] at KF
  have HF := Lib.hid hfq
  have HW := Lib.hid hwk
  rw [hfq, hwk]
  clear hp hd hY hM hD yr tb bd dd hfq hwk hc ht
  go_enter Tryd.func18, Tryd.ntmps18
  go_upto_region 0 with fail
  go_cut [2] (fun q wz => q = .pointer (some ⟨w.heap.size, 0, none⟩) ∧ Hid (Cs w.heap.size wz [.int .i64 fq, .int .i64 x.iv, .int .i64 x.ct, .bool x.un, .int .i64 x.ua, .bool x.ut, s6, s7, s8, s9, s10, s11, .slice a12 x.wn.length c12, s13, s14, .int .i64 wk]) ∧ Hid (Below w.heap.size w wz))
  case first =>
    go_wp2
    go_meet
    exact ⟨rfl, Lib.hid (Cs.new w _ _), Lib.hid ((Below.refl _ _).alloc (Nat.le_refl _) _)⟩
  case rest =>
  obtain ⟨w1, rfl⟩ : ∃ x : World, x = wc := ⟨_, rfl⟩
  obtain ⟨rfl, RB, B⟩ := hcut
  go_upto_region 1 with fail
  go_cut [5] (fun a wz => a = .int .i64 d ∧ Hid (Cs w.heap.size wz [.int .i64 fq, .int .i64 x.iv, .int .i64 x.ct, .bool x.un, .int .i64 x.ua, .bool x.ut, s6, s7, s8, s9, s10, s11, .slice a12 x.wn.length c12, s13, s14, .int .i64 wk]) ∧ Hid (Below w.heap.size w wz))
  case first =>
    go_wp2_with fail
    refine (Civ.rdiv_any t 86400 _ (by decide) (by decide) (by have := TB.out; omega) (by have := TB.out; omega)).mono ?_
    rintro e w3 ⟨rfl, n, rfl⟩
    rw [HD.out]
    go_wp2
    go_meet
    exact ⟨rfl, Lib.hid (RB.out.drewN n), Lib.hid (bdrew B.out n)⟩
  case rest =>
  obtain ⟨w3, rfl⟩ : ∃ x : World, x = wc := ⟨_, rfl⟩
  clear RB B
  obtain ⟨rfl, RB, B⟩ := hcut
  go_upto_region 2 with fail
  go_cut [7] (fun a wz => ∃ g, a = .pointer (some ⟨g, 0, none⟩) ∧ Hid (Cs g wz [.int .i64 Y, .int .i64 M, .int .i64 D]) ∧ Hid (Cs w.heap.size wz [.int .i64 fq, .int .i64 x.iv, .int .i64 x.ct, .bool x.un, .int .i64 x.ua, .bool x.ut, s6, s7, s8, s9, s10, s11, .slice a12 x.wn.length c12, s13, s14, .int .i64 wk]) ∧ Hid (Below w.heap.size w wz))
  case first =>
    go_wp2_with fail
    refine (Civ.rdate_any d _ (by omega) (by omega)).mono ?_
    rintro e w4 ⟨rfl, k⟩
    rw [P1.out.1, P1.out.2.1, P1.out.2.2]
    have RB := Lib.hid (RB.out.below k)
    have B := Lib.hid (bstep B.out k)
    clear k
    go_wp2
    go_meet
    exact ⟨_, rfl, Lib.hid (Cs.new w4 [.int .i64 Y, .int .i64 M, .int .i64 D] _), Lib.hid (RB.out.alloc _), Lib.hid (B.out.alloc B.out.size _)⟩
  case rest =>
  obtain ⟨w5, rfl⟩ : ∃ x : World, x = wc := ⟨_, rfl⟩
  clear RB B
  obtain ⟨g, rfl, C, RB, B⟩ := hcut
  have l0 := (RB.out.2 0 _ rfl).1
  have l12 := (RB.out.2 12 _ rfl).1
  have l15 := (RB.out.2 15 _ rfl).1
  have c0 := (C.out.2 0 _ rfl).1
  have c1 := (C.out.2 1 _ rfl).1
  have hq : fq = 1 ∨ fq = 2 ∨ fq = 3 ∨ fq = 4 ∨ fq = 5 ∨ fq = 6 ∨ fq = 7 := by omega
  clear KF C RB HF HW
  rcases hq with rfl | rfl | rfl | rfl | rfl | rfl | rfl
  · go_wp2
    go_ret
    exact ⟨ret_i1 (by rw [HP.out]; rfl), B.out⟩
  · go_wp2_with fail
    refine (Civ.rdiv_any t 60 _ (by decide) (by decide) (by have := TB.out; omega) (by have := TB.out; omega)).mono ?_
    rintro e w6 ⟨rfl, n, rfl⟩
    go_wp2
    go_ret
    exact ⟨ret_i1 (by rw [HP.out]; rfl), bdrew B.out n⟩
  · go_wp2_with fail
    refine (Civ.rdiv_any t 3600 _ (by decide) (by decide) (by have := TB.out; omega) (by have := TB.out; omega)).mono ?_
    rintro e w6 ⟨rfl, n, rfl⟩
    go_wp2
    go_ret
    exact ⟨ret_i1 (by rw [HP.out]; rfl), bdrew B.out n⟩
  · go_wp2
    go_ret
    exact ⟨ret_i1 (by rw [HP.out]; rfl), B.out⟩
  · go_wp2_with fail
    refine (Civ.rdiv_any (d + 4 - wk) 7 _ (by decide) (by decide) (by omega) (by omega)).mono ?_
    rintro e w6 ⟨rfl, n, rfl⟩
    go_wp2
    go_ret
    exact ⟨ret_i1 (by rw [HP.out]; rfl), bdrew B.out n⟩
  · go_wp2
    go_ret
    exact ⟨ret_i1 (by rw [HP.out]; rfl), B.out⟩
  · by_cases hn : x.wn = []
    · have z0 : x.wn.length = 0 := by rw [hn]; rfl
      rw [z0] at l12
      have HP : Hid (p = Y) := Lib.hid (by rw [HP.out, if_pos hn]; rfl)
      clear hn z0
      go_wp2
      go_ret
      exact ⟨ret_i1 HP.out.symm, B.out⟩
    · have z := len_pos' hn
      have zn := Int.ofNat_lt.1 z
      have zd := decide_eq_true zn
      have HP : Hid (p = noY d wk) := Lib.hid (by rw [HP.out, if_neg hn]; rfl)
      clear hn
      go_wp2_with fail
      refine (Wk.rno_any d wk _ ⟨by omega, by omega⟩ YB.out kw1 kw2).mono ?_
      rintro e w6 ⟨rfl, k⟩
      go_wp2
      go_ret
      exact ⟨ret_i1 HP.out.symm, bstep B.out k⟩
end Fil
end Go.Proofs.YtpbdlgmkkbccmaaDoor
/-
  The reference's Lets (solsticeref21), of what its Day says.
-/
namespace Go.Proofs.YtpbdlgmkkbccmaaDoor
open Go.RowKit
namespace Fil
open Rcv (CV LisV IntV DayV)
open Rck (Small)
open Cel
set_option maxHeartbeats 12800000 in
set_option maxRecDepth 100000 in
theorem rlets_to (x : CV) (s6 s7 s8 s9 s10 s11 s12 s13 s14 : Value) (A T : Int) (dv b1 b2 b3 : Bool) (w : World) (hl : LisV w x s6 s7 s8 s9 s10 s11 s12 s13 s14) (hs : Small x) (i1 : -9223372036854775808 ≤ A) (i2 : A ≤ 9223372036854775807) (j1 : -9223372036854775808 ≤ T) (j2 : T ≤ 9223372036854775807)
    (hD : ∀ W, Below w.heap.size w W → Calls Tryd.prog 43 #[.agg #[.int .i64 x.fq, .int .i64 x.iv, .int .i64 x.ct, .bool x.un, .int .i64 x.ua, .bool x.ut, s6, s7, s8, s9, s10, s11, s12, s13, s14, .int .i64 x.wk], .int .i64 A, .int .i64 (T / 86400)] W fun e W' => e = .returned (.bool dv) ∧ Below W.heap.size W W')
    (h1 : Hid (onB x.hr (decide (3 < x.fq)) (A % 86400 / 3600) (T % 86400 / 3600) = b1)) (h2 : Hid (onB x.mi (decide (2 < x.fq)) (A % 86400 / 60 % 60) (T % 86400 / 60 % 60) = b2)) (h3 : Hid (onB x.sc (decide (1 < x.fq)) (A % 86400 % 60) (T % 86400 % 60) = b3)) :
    Calls Tryd.prog 17 #[.agg #[.int .i64 x.fq, .int .i64 x.iv, .int .i64 x.ct, .bool x.un, .int .i64 x.ua, .bool x.ut, s6, s7, s8, s9, s10, s11, s12, s13, s14, .int .i64 x.wk], .int .i64 A, .int .i64 T] w fun e w' => e = .returned (.bool (dv && (b1 && (b2 && b3)))) ∧ Below w.heap.size w w' := by
  have L := Lib.hid hl
  have S := Lib.hid hs
  have DC := Lib.hid hD
  have TI := Lib.hid (And.intro (And.intro i1 i2) (And.intro j1 j2))
  obtain ⟨d, hd⟩ : ∃ d, T / 86400 = d := ⟨_, rfl⟩
  obtain ⟨y, hy⟩ : ∃ d, T % 86400 = d := ⟨_, rfl⟩
  obtain ⟨s, hs'⟩ : ∃ d, A % 86400 = d := ⟨_, rfl⟩
  have yb : 0 ≤ y ∧ y < 86400 := by omega
  have sb : 0 ≤ s ∧ s < 86400 := by omega
  rw [hd] at DC
  rw [hy, hs'] at h1 h2 h3
  have HY := Lib.hid (And.intro hd hy)
  have HS := Lib.hid hs'
  obtain ⟨yb1, yb2⟩ := yb
  obtain ⟨sb1, sb2⟩ := sb
  clear hl hs hD i1 i2 j1 j2 hd hy hs'
  go_enter Tryd.func17, Tryd.ntmps17
  go_upto_region 0 with fail
  go_cut [3] (fun q wz => q = .pointer (some ⟨w.heap.size, 0, none⟩) ∧ Hid (Cs w.heap.size wz [.int .i64 x.fq, .int .i64 x.iv, .int .i64 x.ct, .bool x.un, .int .i64 x.ua, .bool x.ut, s6, s7, s8, s9, s10, s11, s12, s13, s14, .int .i64 x.wk]) ∧ Hid (Below w.heap.size w wz))
  case first =>
    go_wp2
    go_meet
    exact ⟨rfl, Lib.hid (Cs.new w _ _), Lib.hid ((Below.refl _ _).alloc (Nat.le_refl _) _)⟩
  case rest =>
  obtain ⟨w1, rfl⟩ : ∃ x : World, x = wc := ⟨_, rfl⟩
  obtain ⟨rfl, RB, B⟩ := hcut
  go_upto_region 1 with fail
  go_cut [7, 8] (fun a b wz => a = .int .i64 d ∧ b = .int .i64 y ∧ Hid (Cs w.heap.size wz [.int .i64 x.fq, .int .i64 x.iv, .int .i64 x.ct, .bool x.un, .int .i64 x.ua, .bool x.ut, s6, s7, s8, s9, s10, s11, s12, s13, s14, .int .i64 x.wk]) ∧ Hid (Below w.heap.size w wz))
  case first =>
    go_wp2_with fail
    refine (Civ.rdiv_any T 86400 _ (by decide) (by decide) TI.out.2.1 TI.out.2.2).mono ?_
    rintro e w3 ⟨rfl, n, rfl⟩
    rw [HY.out.1, HY.out.2]
    go_wp2
    go_meet
    exact ⟨rfl, rfl, Lib.hid (RB.out.drewN n), Lib.hid (bdrew B.out n)⟩
  case rest =>
  obtain ⟨w2, rfl⟩ : ∃ x : World, x = wc := ⟨_, rfl⟩
  clear RB B
  obtain ⟨rfl, rfl, RB, B⟩ := hcut
  go_upto_region 2 with fail
  go_cut [10] (fun b wz => b = .int .i64 s ∧ Hid (Cs w.heap.size wz [.int .i64 x.fq, .int .i64 x.iv, .int .i64 x.ct, .bool x.un, .int .i64 x.ua, .bool x.ut, s6, s7, s8, s9, s10, s11, s12, s13, s14, .int .i64 x.wk]) ∧ Hid (Below w.heap.size w wz))
  case first =>
    go_wp2_with fail
    refine (Civ.rdiv_any A 86400 _ (by decide) (by decide) TI.out.1.1 TI.out.1.2).mono ?_
    rintro e w3 ⟨rfl, n, rfl⟩
    rw [HS.out]
    go_wp2
    go_meet
    exact ⟨rfl, Lib.hid (RB.out.drewN n), Lib.hid (bdrew B.out n)⟩
  case rest =>
  obtain ⟨w3, rfl⟩ : ∃ x : World, x = wc := ⟨_, rfl⟩
  clear RB B
  obtain ⟨rfl, RB, B⟩ := hcut
  have r1 : y.tdiv 3600 = y / 3600 := Int.tdiv_eq_ediv_of_nonneg yb1
  have r2 : y.tdiv 60 = y / 60 := Int.tdiv_eq_ediv_of_nonneg yb1
  have r3 : (y / 60).tmod 60 = y / 60 % 60 := Int.tmod_eq_emod_of_nonneg (by omega)
  have r4 : y.tmod 60 = y % 60 := Int.tmod_eq_emod_of_nonneg yb1
  have q1 : s.tdiv 3600 = s / 3600 := Int.tdiv_eq_ediv_of_nonneg sb1
  have q2 : s.tdiv 60 = s / 60 := Int.tdiv_eq_ediv_of_nonneg sb1
  have q3 : (s / 60).tmod 60 = s / 60 % 60 := Int.tmod_eq_emod_of_nonneg (by omega)
  have q4 : s.tmod 60 = s % 60 := Int.tmod_eq_emod_of_nonneg sb1
  go_wp2_with (refine ld16 RB.out rfl (by rfl) (by rfl) (by rfl) ?_; intro K hK; go_simp)
  refine (DC.out _ B.out).mono ?_
  rintro e w4 ⟨rfl, k⟩
  have RB := Lib.hid (RB.out.below k)
  have B := Lib.hid (bstep B.out k)
  clear k
  have l0 := (RB.out.2 0 _ rfl).1
  have l6 := (RB.out.2 6 _ rfl).1
  have l7 := (RB.out.2 7 _ rfl).1
  have l8 := (RB.out.2 8 _ rfl).1
  cases dv with
  | false =>
    go_wp2
    go_ret
    exact ⟨ret_b rfl, B.out⟩
  | true =>
  go_wp2_with fail
  refine (rfits_to s8 x.hr (y / 3600) (s / 3600) (decide (3 < x.fq)) _ (L.out.below B.out).h8 S.out.hr).mono ?_
  rintro e w5 ⟨rfl, rfl⟩
  rw [h1.out]
  cases b1 with
  | false =>
    go_wp2
    go_ret
    exact ⟨ret_b rfl, B.out⟩
  | true =>
  go_wp2_with fail
  refine (rfits_to s7 x.mi (y / 60 % 60) (s / 60 % 60) (decide (2 < x.fq)) _ (L.out.below B.out).h7 S.out.mi).mono ?_
  rintro e w5 ⟨rfl, rfl⟩
  rw [h2.out]
  cases b2 with
  | false =>
    go_wp2
    go_ret
    exact ⟨ret_b rfl, B.out⟩
  | true =>
  go_wp2_with fail
  refine (rfits_to s6 x.sc (y % 60) (s % 60) (decide (1 < x.fq)) _ (L.out.below B.out).h6 S.out.sc).mono ?_
  rintro e w5 ⟨rfl, rfl⟩
  rw [h3.out]
  go_wp2
  go_ret
  exact ⟨ret_b rfl, B.out⟩
end Fil
end Go.Proofs.YtpbdlgmkkbccmaaDoor
