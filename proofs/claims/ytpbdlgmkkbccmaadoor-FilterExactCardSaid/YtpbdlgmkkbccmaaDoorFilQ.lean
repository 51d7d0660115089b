/-
  The reference's Span (solsticeref21), of right rules.
-/
import Derived.Test.YtpbdlgmkkbccmaaDoorBdFg
import Derived.Test.YtpbdlgmkkbccmaaDoorBdFf
import Derived.Test.YtpbdlgmkkbccmaaDoorBdFi
import Derived.Test.YtpbdlgmkkbccmaaDoorVxR
namespace Go.Proofs.YtpbdlgmkkbccmaaDoor
open Go.RowKit
namespace Fil
open Rcv (CV LisV IntV DayV)
open Rck (ckE ckB Small)
open Civ (numV numE dY dM dD dnE ydV Ahead)
open Wk (noY noN noE fw)
open Cel
theorem years_b (t : Int) (o : Bool) (w : World) (t1 : -9223372036854775808 ≤ t) (t2 : t ≤ 9223372036854775807) (h : moO t = o) :
    Calls Tryd.prog 16 #[.int .i64 t] w fun e w' => ∃ Y M D : Int, e = .returned (.tuple #[.agg #[.int .i64 Y, .int .i64 M, .int .i64 D], .bool o]) ∧ Below w.heap.size w w' :=
  (Val.ryears_to t _ _ _ o w t1 t2 ⟨rfl, rfl, rfl⟩ (by
    rw [← h, moO, Val.tmE]
    by_cases c : dnE (t / 86400) = 0 ∧ 1 ≤ dY (t / 86400) ∧ dY (t / 86400) ≤ 9999
    · rw [if_pos c, decide_eq_true c]; rfl
    · rw [if_neg c, decide_eq_false c]; rfl)).mono fun _ _ ⟨he, hb⟩ => ⟨_, _, _, he, hb⟩
set_option maxHeartbeats 12800000 in
set_option maxRecDepth 100000 in
theorem rspan_to (x : CV) (s6 s7 s8 s9 s10 s11 s12 s13 s14 : Value) (p f t : Int) (q : Bool) (w : World) (hl : IntV w s12 x.wn) (hc : ckB x = true) (hf : Hid (spF x p = f)) (ht : Hid (spT x p = t)) (hq : Hid (spQ x p = q)) :
    Calls Tryd.prog 15 #[.agg #[.int .i64 x.fq, .int .i64 x.iv, .int .i64 x.ct, .bool x.un, .int .i64 x.ua, .bool x.ut, s6, s7, s8, s9, s10, s11, s12, s13, s14, .int .i64 x.wk], .int .i64 p] w fun e w' => e = .returned (.tuple #[.int .i64 f, .int .i64 t, .bool q]) ∧ Below w.heap.size w w' := by
  obtain ⟨a12, c12, rfl⟩ := hl.slice
  clear hl
  have KF := ck_fq hc
  have KW := ck_wk hc
  have HB : Hid (f = (if q = true then spA x p else 0) ∧ t = (if q = true then spZ x p - 1 else 0)) := Lib.hid ⟨by
    rw [← hf.out, spF, hq.out]
    cases q <;> simp [hc], by
    rw [← ht.out, spT, hq.out]
    cases q <;> simp [hc]⟩
  obtain ⟨fb, hfb⟩ : ∃ b, farB p = b := ⟨_, rfl⟩
  have HFB : Hid (decide (-1099511627776 ≤ p ∧ p ≤ 1099511627776) = !fb) := Lib.hid (by
    rw [← hfb, farB, ← decide_not]
    exact decide_eq_decide.2 (by omega))
  obtain ⟨fq, hfq⟩ : ∃ f, x.fq = f := ⟨_, rfl⟩
  obtain ⟨wk, hwk⟩ : ∃ f, x.wk = f := ⟨_, rfl⟩
  have FQ := Lib.hid (And.intro hfq hwk)
  have HC := Lib.hid hc
  have HFQ := Lib.hid hfb
  rw [hfq] at KF
  rw [hwk] at KW
  rw [hfq, hwk]
  obtain ⟨kw1, kw2⟩ := KW
  clear hf ht hfq hwk hfb hc
  go_enter Tryd.func15, Tryd.ntmps15
  go_upto_region 0 with fail
  go_cut [2] (fun q wz => q = .pointer (some ⟨w.heap.size, 0, none⟩) ∧ Hid (Cs w.heap.size wz [.int .i64 fq, .int .i64 x.iv, .int .i64 x.ct, .bool x.un, .int .i64 x.ua, .bool x.ut, s6, s7, s8, s9, s10, s11, .slice a12 x.wn.length c12, s13, s14, .int .i64 wk]) ∧ Hid (Below w.heap.size w wz))
  case first =>
    go_wp2
    go_meet
    exact ⟨rfl, Lib.hid (Cs.new w _ _), Lib.hid ((Below.refl _ _).alloc (Nat.le_refl _) _)⟩
  case rest =>
  obtain ⟨w1, rfl⟩ : ∃ x : World, x = wc := ⟨_, rfl⟩
  obtain ⟨rfl, RB, B⟩ := hcut
  cases fb with
  | true =>
    obtain rfl : q = false := by rw [← hq.out, spQ, HFQ.out]; rfl
    go_wp2_with fail
    refine (Rrl.rin_to p (-1099511627776) 1099511627776 _ _ HFB.out).mono ?_
    rintro e w2 ⟨rfl, rfl⟩
    go_wp2
    go_ret3
    exact ⟨ret_iib (by rw [HB.out.1]; rfl) (by rw [HB.out.2]; rfl) rfl, B.out⟩
  | false =>
  have pb := of_decide_eq_true HFB.out
  have RS : Hid (q = (rsI x p && (moO (spA x p) && moO (spZ x p - 1)))) := Lib.hid (by rw [← hq.out, ref_span HC.out HFQ.out])
  obtain ⟨A, hAA⟩ : ∃ z, spA x p = z := ⟨_, rfl⟩
  obtain ⟨Z, hZZ⟩ : ∃ z, spZ x p = z := ⟨_, rfl⟩
  obtain ⟨o1, ho1⟩ : ∃ z, moO A = z := ⟨_, rfl⟩
  obtain ⟨o2, ho2⟩ : ∃ z, moO (Z - 1) = z := ⟨_, rfl⟩
  obtain ⟨ri, hri⟩ : ∃ z, rsI x p = z := ⟨_, rfl⟩
  have bd := spA_bd (x := x) (p := p) (by rw [FQ.out.2]; exact ⟨kw1, kw2⟩) pb
  rw [hAA, hZZ] at bd HB
  rw [hri, hAA, hZZ, ho1, ho2] at RS
  have O1 := Lib.hid ho1
  have O2 := Lib.hid ho2
  have BD := Lib.hid bd
  have AZ := Lib.hid (And.intro hAA hZZ)
  have RI := Lib.hid hri
  obtain ⟨pb1, pb2⟩ := pb
  clear ho1 ho2 hAA hZZ hri hq bd
  go_upto_region 2 with fail
  go_cut [16] (fun v wz => v = .bool false ∧ Hid (Cs w.heap.size wz [.int .i64 fq, .int .i64 x.iv, .int .i64 x.ct, .bool x.un, .int .i64 x.ua, .bool x.ut, s6, s7, s8, s9, s10, s11, .slice a12 x.wn.length c12, s13, s14, .int .i64 wk]) ∧ Hid (Below w.heap.size w wz))
  case first =>
    go_wp2_with fail
    refine (Rrl.rin_to p (-1099511627776) 1099511627776 _ _ HFB.out).mono ?_
    rintro e w2 ⟨rfl, rfl⟩
    go_wp2
    go_meet
    exact ⟨rfl, RB, B⟩
  case rest =>
  obtain ⟨w3, rfl⟩ : ∃ x : World, x = wc := ⟨_, rfl⟩
  clear RB B
  obtain ⟨rfl, RB, B⟩ := hcut
  have l0 := (RB.out.2 0 _ rfl).1
  have l12 := (RB.out.2 12 _ rfl).1
  have l15 := (RB.out.2 15 _ rfl).1
  have hq7 : fq = 1 ∨ fq = 2 ∨ fq = 3 ∨ fq = 4 ∨ fq = 5 ∨ fq = 6 ∨ fq = 7 := by omega
  rcases hq7 with rfl | rfl | rfl | rfl | rfl | rfl | rfl
  · obtain rfl : ri = true := by rw [← RI.out, rsI, FQ.out.1]; rfl
    have AE : Hid (A = p ∧ Z = p + 1 ∧ -1000000000000000000 ≤ A ∧ A ≤ 1000000000000000000 ∧ -1000000000000000000 ≤ Z ∧ Z ≤ 1000000000000000000) := Lib.hid ⟨by rw [← AZ.out.1, (v1 FQ.out.1 0 p).2.1], by rw [← AZ.out.2, (v1 FQ.out.1 0 p).2.2.1], BD.out⟩
    obtain ⟨ab1, ab2, zb1, zb2⟩ := BD.out
    go_wp2_with fail
    refine (years_b _ o1 _ (by have := AE.out; omega) (by have := AE.out; omega) ((congrArg moO (by have := AE.out; omega)).trans O1.out)).mono ?_
    rintro e w8 ⟨YA, MA, DA, rfl, k⟩
    have B := Lib.hid (bstep B.out k)
    clear k
    cases o1 with
    | false =>
      obtain rfl : q = false := RS.out
      go_wp2
      go_ret3
      exact ⟨ret_iib (by rw [HB.out.1]; rfl) (by rw [HB.out.2]; rfl) rfl, B.out.alloc B.out.size _⟩
    | true =>
    go_wp2_with fail
    refine (years_b _ o2 _ (by have := AE.out; omega) (by have := AE.out; omega) ((congrArg moO (by have := AE.out; omega)).trans O2.out)).mono ?_
    rintro e w9 ⟨YZ, MZ, DZ, rfl, k⟩
    have B := Lib.hid (bstep (B.out.alloc B.out.size _) k)
    clear k
    cases o2 with
    | false =>
      obtain rfl : q = false := RS.out
      go_wp2
      go_ret3
      exact ⟨ret_iib (by rw [HB.out.1]; rfl) (by rw [HB.out.2]; rfl) rfl, B.out.alloc B.out.size _⟩
    | true =>
      obtain rfl : q = true := RS.out
      go_wp2
      go_ret3
      exact ⟨ret_iib (by rw [HB.out.1, if_pos trivial]; have := AE.out; omega) (by rw [HB.out.2, if_pos trivial]; have := AE.out; omega) rfl, B.out.alloc B.out.size _⟩
  · obtain rfl : ri = true := by rw [← RI.out, rsI, FQ.out.1]; rfl
    have AE : Hid (A = p * 60 ∧ Z = (p + 1) * 60 ∧ -1000000000000000000 ≤ A ∧ A ≤ 1000000000000000000 ∧ -1000000000000000000 ≤ Z ∧ Z ≤ 1000000000000000000) := Lib.hid ⟨by rw [← AZ.out.1, (v2 FQ.out.1 0 p).2.1], by rw [← AZ.out.2, (v2 FQ.out.1 0 p).2.2.1], BD.out⟩
    obtain ⟨ab1, ab2, zb1, zb2⟩ := BD.out
    go_wp2_with fail
    refine (years_b _ o1 _ (by have := AE.out; omega) (by have := AE.out; omega) ((congrArg moO (by have := AE.out; omega)).trans O1.out)).mono ?_
    rintro e w8 ⟨YA, MA, DA, rfl, k⟩
    have B := Lib.hid (bstep B.out k)
    clear k
    cases o1 with
    | false =>
      obtain rfl : q = false := RS.out
      go_wp2
      go_ret3
      exact ⟨ret_iib (by rw [HB.out.1]; rfl) (by rw [HB.out.2]; rfl) rfl, B.out.alloc B.out.size _⟩
    | true =>
    go_wp2_with fail
    refine (years_b _ o2 _ (by have := AE.out; omega) (by have := AE.out; omega) ((congrArg moO (by have := AE.out; omega)).trans O2.out)).mono ?_
    rintro e w9 ⟨YZ, MZ, DZ, rfl, k⟩
    have B := Lib.hid (bstep (B.out.alloc B.out.size _) k)
    clear k
    cases o2 with
    | false =>
      obtain rfl : q = false := RS.out
      go_wp2
      go_ret3
      exact ⟨ret_iib (by rw [HB.out.1]; rfl) (by rw [HB.out.2]; rfl) rfl, B.out.alloc B.out.size _⟩
    | true =>
      obtain rfl : q = true := RS.out
      go_wp2
      go_ret3
      exact ⟨ret_iib (by rw [HB.out.1, if_pos trivial]; have := AE.out; omega) (by rw [HB.out.2, if_pos trivial]; have := AE.out; omega) rfl, B.out.alloc B.out.size _⟩
  · obtain rfl : ri = true := by rw [← RI.out, rsI, FQ.out.1]; rfl
    have AE : Hid (A = p * 3600 ∧ Z = (p + 1) * 3600 ∧ -1000000000000000000 ≤ A ∧ A ≤ 1000000000000000000 ∧ -1000000000000000000 ≤ Z ∧ Z ≤ 1000000000000000000) := Lib.hid ⟨by rw [← AZ.out.1, (v3 FQ.out.1 0 p).2.1], by rw [← AZ.out.2, (v3 FQ.out.1 0 p).2.2.1], BD.out⟩
    obtain ⟨ab1, ab2, zb1, zb2⟩ := BD.out
    go_wp2_with fail
    refine (years_b _ o1 _ (by have := AE.out; omega) (by have := AE.out; omega) ((congrArg moO (by have := AE.out; omega)).trans O1.out)).mono ?_
    rintro e w8 ⟨YA, MA, DA, rfl, k⟩
    have B := Lib.hid (bstep B.out k)
    clear k
    cases o1 with
    | false =>
      obtain rfl : q = false := RS.out
      go_wp2
      go_ret3
      exact ⟨ret_iib (by rw [HB.out.1]; rfl) (by rw [HB.out.2]; rfl) rfl, B.out.alloc B.out.size _⟩
    | true =>
    go_wp2_with fail
    refine (years_b _ o2 _ (by have := AE.out; omega) (by have := AE.out; omega) ((congrArg moO (by have := AE.out; omega)).trans O2.out)).mono ?_
    rintro e w9 ⟨YZ, MZ, DZ, rfl, k⟩
    have B := Lib.hid (bstep (B.out.alloc B.out.size _) k)
    clear k
    cases o2 with
    | false =>
      obtain rfl : q = false := RS.out
      go_wp2
      go_ret3
      exact ⟨ret_iib (by rw [HB.out.1]; rfl) (by rw [HB.out.2]; rfl) rfl, B.out.alloc B.out.size _⟩
    | true =>
      obtain rfl : q = true := RS.out
      go_wp2
      go_ret3
      exact ⟨ret_iib (by rw [HB.out.1, if_pos trivial]; have := AE.out; omega) (by rw [HB.out.2, if_pos trivial]; have := AE.out; omega) rfl, B.out.alloc B.out.size _⟩
  · obtain rfl : ri = true := by rw [← RI.out, rsI, FQ.out.1]; rfl
    have AE : Hid (A = p * 86400 ∧ Z = (p + 1) * 86400 ∧ -1000000000000000000 ≤ A ∧ A ≤ 1000000000000000000 ∧ -1000000000000000000 ≤ Z ∧ Z ≤ 1000000000000000000) := Lib.hid ⟨by rw [← AZ.out.1, (v4 FQ.out.1 0 p).2.1], by rw [← AZ.out.2, (v4 FQ.out.1 0 p).2.2.1], BD.out⟩
    obtain ⟨ab1, ab2, zb1, zb2⟩ := BD.out
    go_wp2_with fail
    refine (years_b _ o1 _ (by have := AE.out; omega) (by have := AE.out; omega) ((congrArg moO (by have := AE.out; omega)).trans O1.out)).mono ?_
    rintro e w8 ⟨YA, MA, DA, rfl, k⟩
    have B := Lib.hid (bstep B.out k)
    clear k
    cases o1 with
    | false =>
      obtain rfl : q = false := RS.out
      go_wp2
      go_ret3
      exact ⟨ret_iib (by rw [HB.out.1]; rfl) (by rw [HB.out.2]; rfl) rfl, B.out.alloc B.out.size _⟩
    | true =>
    go_wp2_with fail
    refine (years_b _ o2 _ (by have := AE.out; omega) (by have := AE.out; omega) ((congrArg moO (by have := AE.out; omega)).trans O2.out)).mono ?_
    rintro e w9 ⟨YZ, MZ, DZ, rfl, k⟩
    have B := Lib.hid (bstep (B.out.alloc B.out.size _) k)
    clear k
    cases o2 with
    | false =>
      obtain rfl : q = false := RS.out
      go_wp2
      go_ret3
      exact ⟨ret_iib (by rw [HB.out.1]; rfl) (by rw [HB.out.2]; rfl) rfl, B.out.alloc B.out.size _⟩
    | true =>
      obtain rfl : q = true := RS.out
      go_wp2
      go_ret3
      exact ⟨ret_iib (by rw [HB.out.1, if_pos trivial]; have := AE.out; omega) (by rw [HB.out.2, if_pos trivial]; have := AE.out; omega) rfl, B.out.alloc B.out.size _⟩
  · obtain rfl : ri = true := by rw [← RI.out, rsI, FQ.out.1]; rfl
    have AE : Hid (A = (p * 7 - 4 + wk) * 86400 ∧ Z = (p * 7 - 4 + wk + 7) * 86400 ∧ -1000000000000000000 ≤ A ∧ A ≤ 1000000000000000000 ∧ -1000000000000000000 ≤ Z ∧ Z ≤ 1000000000000000000) := Lib.hid ⟨by rw [← AZ.out.1, (v5 FQ.out.1 0 p).2.1, FQ.out.2], by rw [← AZ.out.2, (v5 FQ.out.1 0 p).2.2.1, FQ.out.2], BD.out⟩
    obtain ⟨ab1, ab2, zb1, zb2⟩ := BD.out
    go_wp2_with fail
    refine (years_b _ o1 _ (by have := AE.out; omega) (by have := AE.out; omega) ((congrArg moO (by have := AE.out; omega)).trans O1.out)).mono ?_
    rintro e w8 ⟨YA, MA, DA, rfl, k⟩
    have B := Lib.hid (bstep B.out k)
    clear k
    cases o1 with
    | false =>
      obtain rfl : q = false := RS.out
      go_wp2
      go_ret3
      exact ⟨ret_iib (by rw [HB.out.1]; rfl) (by rw [HB.out.2]; rfl) rfl, B.out.alloc B.out.size _⟩
    | true =>
    go_wp2_with fail
    refine (years_b _ o2 _ (by have := AE.out; omega) (by have := AE.out; omega) ((congrArg moO (by have := AE.out; omega)).trans O2.out)).mono ?_
    rintro e w9 ⟨YZ, MZ, DZ, rfl, k⟩
    have B := Lib.hid (bstep (B.out.alloc B.out.size _) k)
    clear k
    cases o2 with
    | false =>
      obtain rfl : q = false := RS.out
      go_wp2
      go_ret3
      exact ⟨ret_iib (by rw [HB.out.1]; rfl) (by rw [HB.out.2]; rfl) rfl, B.out.alloc B.out.size _⟩
    | true =>
      obtain rfl : q = true := RS.out
      go_wp2
      go_ret3
      exact ⟨ret_iib (by rw [HB.out.1, if_pos trivial]; have := AE.out; omega) (by rw [HB.out.2, if_pos trivial]; have := AE.out; omega) rfl, B.out.alloc B.out.size _⟩
  · have R6 : decide (12 ≤ p ∧ p ≤ 119999) = ri := by rw [← RI.out, rsI, if_pos FQ.out.1]
    have HR6 := Lib.hid R6
    clear R6 RB l12 l15
    go_wp2_with fail
    refine (Rrl.rin_to p 12 119999 ri _ HR6.out).mono ?_
    rintro e w4 ⟨rfl, rfl⟩
    cases ri with
    | false =>
      obtain rfl : q = false := RS.out
      go_wp2
      go_ret3
      exact ⟨ret_iib (by rw [HB.out.1]; rfl) (by rw [HB.out.2]; rfl) rfl, B.out⟩
    | true =>
    have pr := of_decide_eq_true HR6.out
    obtain ⟨Y, hY⟩ : ∃ y, p / 12 = y := ⟨_, rfl⟩
    obtain ⟨m, hm⟩ : ∃ y, p % 12 = y := ⟨_, rfl⟩
    have yb : 1 ≤ Y ∧ Y ≤ 9999 := by omega
    have mb : 0 ≤ m ∧ m ≤ 11 := by omega
    have pe : 12 * Y + (m + 1) - 1 = p := by omega
    obtain ⟨N, hN⟩ : ∃ n, Cal.num Y (m + 1) 1 = n := ⟨_, rfl⟩
    obtain ⟨l, hl⟩ : ∃ n, Cal.mlen Y (m + 1) = n := ⟨_, rfl⟩
    have nn : N = Cal.ny Y + Cal.cum Y (m + 1) := by rw [← hN, Cal.num]; omega
    have AE : Hid (A = N * 86400 ∧ Z = (N + l) * 86400 ∧ -1000000000000000000 ≤ A ∧ A ≤ 1000000000000000000 ∧ -1000000000000000000 ≤ Z ∧ Z ≤ 1000000000000000000) := Lib.hid ⟨by
      rw [← AZ.out.1, (v6 FQ.out.1 0 p).2.1, ← pe, mf_at (by omega) (by omega), nn], by
      rw [← AZ.out.2, (v6 FQ.out.1 0 p).2.2.1, ← pe, mf_next (by omega) (by omega), nn, hl], BD.out⟩
    have t12 : p.tdiv 12 = Y := by rw [Int.tdiv_eq_ediv_of_nonneg (by omega), hY]
    have m12 : p.tmod 12 = m := by rw [Int.tmod_eq_emod_of_nonneg (by omega), hm]
    have HN := Lib.hid hN
    have HLl := Lib.hid hl
    have NB := Lib.hid (Civ.num_bd (Y := Y) (M := m + 1) (D := 1) (by omega) (by omega) (by omega) (by omega) (by decide) (by have := Cal.mlen_28 (y := Y) (m := m + 1) (by omega) (by omega); omega))
    have nb : -719528 ≤ N ∧ N ≤ 2933262 := by have := NB.out; rw [hN] at this; omega
    have lb : 0 ≤ l ∧ l ≤ 31 := by rw [← hl]; exact Cal.mlen_bd _ _
    obtain ⟨nb1, nb2⟩ := nb
    obtain ⟨lb1, lb2⟩ := lb
    obtain ⟨mb1, mb2⟩ := mb
    clear hN hl hY hm pe nn pr NB
    go_wp2_with fail
    refine (Civ.rnum_any Y (m + 1) 1 _ (by omega) (by omega) (by omega) (by omega) (by decide) (by decide)).mono ?_
    rintro e w5 ⟨rfl, k⟩
    rw [HN.out]
    have B := Lib.hid (bstep B.out k)
    clear k
    go_wp2_with fail
    refine (Civ.rlen_any Y (m + 1) _ (by omega) (by omega)).mono ?_
    rintro e w6 ⟨rfl, n, rfl⟩
    rw [HLl.out]
    have B := Lib.hid (bdrew B.out n)
    clear t12 m12
    go_wp2_with fail
    refine (years_b _ o1 _ (by have := AE.out; omega) (by have := AE.out; omega) ((congrArg moO (by have := AE.out; omega)).trans O1.out)).mono ?_
    rintro e w8 ⟨YA, MA, DA, rfl, k⟩
    have B := Lib.hid (bstep B.out k)
    clear k
    cases o1 with
    | false =>
      obtain rfl : q = false := RS.out
      go_wp2
      go_ret3
      exact ⟨ret_iib (by rw [HB.out.1]; rfl) (by rw [HB.out.2]; rfl) rfl, B.out.alloc B.out.size _⟩
    | true =>
    go_wp2_with fail
    refine (years_b _ o2 _ (by have := AE.out; omega) (by have := AE.out; omega) ((congrArg moO (by have := AE.out; omega)).trans O2.out)).mono ?_
    rintro e w9 ⟨YZ, MZ, DZ, rfl, k⟩
    have B := Lib.hid (bstep (B.out.alloc B.out.size _) k)
    clear k
    cases o2 with
    | false =>
      obtain rfl : q = false := RS.out
      go_wp2
      go_ret3
      exact ⟨ret_iib (by rw [HB.out.1]; rfl) (by rw [HB.out.2]; rfl) rfl, B.out.alloc B.out.size _⟩
    | true =>
      obtain rfl : q = true := RS.out
      go_wp2
      go_ret3
      exact ⟨ret_iib (by rw [HB.out.1, if_pos trivial]; have := AE.out; omega) (by rw [HB.out.2, if_pos trivial]; have := AE.out; omega) rfl, B.out.alloc B.out.size _⟩
  · have R7 : decide (1 ≤ p ∧ p ≤ 9999) = ri := by rw [← RI.out, rsI, if_neg (by rw [FQ.out.1]; decide), if_pos FQ.out.1]
    have HR7 := Lib.hid R7
    clear R7
    go_wp2_with fail
    refine (Rrl.rin_to p 1 9999 ri _ HR7.out).mono ?_
    rintro e w4 ⟨rfl, rfl⟩
    cases ri with
    | false =>
      obtain rfl : q = false := RS.out
      go_wp2
      go_ret3
      exact ⟨ret_iib (by rw [HB.out.1]; rfl) (by rw [HB.out.2]; rfl) rfl, B.out⟩
    | true =>
    have pr := of_decide_eq_true HR7.out
    obtain ⟨pr1, pr2⟩ := pr
    obtain ⟨N1, hN1⟩ : ∃ n, Cal.num p 1 1 = n := ⟨_, rfl⟩
    obtain ⟨N2, hN2⟩ : ∃ n, Cal.num (p + 1) 1 1 = n := ⟨_, rfl⟩
    have n1 : N1 = Cal.ny p := by rw [← hN1, Cal.num, Cal.cum_1]; omega
    have n2 : N2 = Cal.ny (p + 1) := by rw [← hN2, Cal.num, Cal.cum_1]; omega
    have nb1 := Cal.ny_bd (y := p) (by omega) (by omega)
    have nb2 := Cal.ny_bd (y := p + 1) (by omega) (by omega)
    rw [← n1] at nb1
    rw [← n2] at nb2
    have H1 := Lib.hid hN1
    have H2 := Lib.hid hN2
    have HN := Lib.hid (And.intro n1 n2)
    obtain ⟨x1, x2⟩ := nb1
    obtain ⟨x3, x4⟩ := nb2
    clear hN1 hN2 n1 n2 l12 l15
    go_wp2_with fail
    refine (Civ.rnum_any p 1 1 _ (by omega) (by omega) (by decide) (by decide) (by decide) (by decide)).mono ?_
    rintro e w5 ⟨rfl, k⟩
    rw [H1.out]
    have RB := Lib.hid (RB.out.below k)
    have B := Lib.hid (bstep B.out k)
    clear k
    go_wp2_with fail
    refine (Civ.rnum_any (p + 1) 1 1 _ (by omega) (by omega) (by decide) (by decide) (by decide) (by decide)).mono ?_
    rintro e w6 ⟨rfl, k⟩
    rw [H2.out]
    have RB := Lib.hid (RB.out.below k)
    have B := Lib.hid (bstep B.out k)
    clear k l0
    have l12 := (RB.out.2 12 _ rfl).1
    have l15 := (RB.out.2 15 _ rfl).1
    by_cases hn : x.wn = []
    · have AE : Hid (A = N1 * 86400 ∧ Z = N2 * 86400 ∧ -1000000000000000000 ≤ A ∧ A ≤ 1000000000000000000 ∧ -1000000000000000000 ≤ Z ∧ Z ≤ 1000000000000000000) := Lib.hid ⟨by
        rw [← AZ.out.1, (v7 FQ.out.1 hn 0 p).2.1, yf_at (by omega), HN.out.1], by
        rw [← AZ.out.2, (v7 FQ.out.1 hn 0 p).2.2.1, yf_at (by omega), HN.out.2], BD.out⟩
      have z0 : x.wn.length = 0 := by rw [hn]; rfl
      rw [z0] at l12
      clear hn z0 RB
      go_wp2_with fail
      refine (years_b _ o1 _ (by have := AE.out; omega) (by have := AE.out; omega) ((congrArg moO (by have := AE.out; omega)).trans O1.out)).mono ?_
      rintro e w8 ⟨YA, MA, DA, rfl, k⟩
      have B := Lib.hid (bstep B.out k)
      clear k
      cases o1 with
      | false =>
        obtain rfl : q = false := RS.out
        go_wp2
        go_ret3
        exact ⟨ret_iib (by rw [HB.out.1]; rfl) (by rw [HB.out.2]; rfl) rfl, B.out.alloc B.out.size _⟩
      | true =>
      go_wp2_with fail
      refine (years_b _ o2 _ (by have := AE.out; omega) (by have := AE.out; omega) ((congrArg moO (by have := AE.out; omega)).trans O2.out)).mono ?_
      rintro e w9 ⟨YZ, MZ, DZ, rfl, k⟩
      have B := Lib.hid (bstep (B.out.alloc B.out.size _) k)
      clear k
      cases o2 with
      | false =>
        obtain rfl : q = false := RS.out
        go_wp2
        go_ret3
        exact ⟨ret_iib (by rw [HB.out.1]; rfl) (by rw [HB.out.2]; rfl) rfl, B.out.alloc B.out.size _⟩
      | true =>
        obtain rfl : q = true := RS.out
        go_wp2
        go_ret3
        exact ⟨ret_iib (by rw [HB.out.1, if_pos trivial]; have := AE.out; omega) (by rw [HB.out.2, if_pos trivial]; have := AE.out; omega) rfl, B.out.alloc B.out.size _⟩
    · have AE0 := And.intro (v8 FQ.out.1 hn 0 p).2.1 (v8 FQ.out.1 hn 0 p).2.2.1
      obtain ⟨F1, hF1⟩ : ∃ f, fw p wk = f := ⟨_, rfl⟩
      obtain ⟨F2, hF2⟩ : ∃ f, fw (p + 1) wk = f := ⟨_, rfl⟩
      rw [FQ.out.2, (wf_at (k := wk) (y := p) (by omega)).2, (wf_at (k := wk) (y := p + 1) (by omega)).2, hF1, hF2, AZ.out.1, AZ.out.2] at AE0
      have AE : Hid (A = F1 * 86400 ∧ Z = F2 * 86400 ∧ -1000000000000000000 ≤ A ∧ A ≤ 1000000000000000000 ∧ -1000000000000000000 ≤ Z ∧ Z ≤ 1000000000000000000) := Lib.hid ⟨AE0.1, AE0.2, BD.out⟩
      have g1 := Wk.fw_bd (y := p) (k := wk) (by omega) (by omega)
      have g2 := Wk.fw_bd (y := p + 1) (k := wk) (by omega) (by omega)
      rw [hF1] at g1
      rw [hF2] at g2
      obtain ⟨g11, g12⟩ := g1
      obtain ⟨g21, g22⟩ := g2
      have HF1 := Lib.hid hF1
      have HF2 := Lib.hid hF2
      have z := len_pos' hn
      have zn := Int.ofNat_lt.1 z
      have zd := decide_eq_true zn
      clear hn hF1 hF2 AE0
      go_wp2_with fail
      refine (Wk.rfw_any p wk _ (by omega) (by omega) kw1 kw2).mono ?_
      rintro e w7 ⟨rfl, k⟩
      rw [HF1.out]
      have RB := Lib.hid (RB.out.below k)
      have B := Lib.hid (bstep B.out k)
      clear k l12 l15
      have l15 := (RB.out.2 15 _ rfl).1
      go_wp2_with fail
      refine (Wk.rfw_any (p + 1) wk _ (by omega) (by omega) kw1 kw2).mono ?_
      rintro e w8 ⟨rfl, k⟩
      rw [HF2.out]
      have B := Lib.hid (bstep B.out k)
      clear k l15 RB
      go_wp2_with fail
      refine (years_b _ o1 _ (by have := AE.out; omega) (by have := AE.out; omega) ((congrArg moO (by have := AE.out; omega)).trans O1.out)).mono ?_
      rintro e w8 ⟨YA, MA, DA, rfl, k⟩
      have B := Lib.hid (bstep B.out k)
      clear k
      cases o1 with
      | false =>
        obtain rfl : q = false := RS.out
        go_wp2
        go_ret3
        exact ⟨ret_iib (by rw [HB.out.1]; rfl) (by rw [HB.out.2]; rfl) rfl, B.out.alloc B.out.size _⟩
      | true =>
      go_wp2_with fail
      refine (years_b _ o2 _ (by have := AE.out; omega) (by have := AE.out; omega) ((congrArg moO (by have := AE.out; omega)).trans O2.out)).mono ?_
      rintro e w9 ⟨YZ, MZ, DZ, rfl, k⟩
      have B := Lib.hid (bstep (B.out.alloc B.out.size _) k)
      clear k
      cases o2 with
      | false =>
        obtain rfl : q = false := RS.out
        go_wp2
        go_ret3
        exact ⟨ret_iib (by rw [HB.out.1]; rfl) (by rw [HB.out.2]; rfl) rfl, B.out.alloc B.out.size _⟩
      | true =>
        obtain rfl : q = true := RS.out
        go_wp2
        go_ret3
        exact ⟨ret_iib (by rw [HB.out.1, if_pos trivial]; have := AE.out; omega) (by rw [HB.out.2, if_pos trivial]; have := AE.out; omega) rfl, B.out.alloc B.out.size _⟩
end Fil
end Go.Proofs.YtpbdlgmkkbccmaaDoor
