/-
  Package filter: Lets of whatever rule and times.
-/
import Derived.Test.YtpcmfgfhdnfmcaaDoorFilI
namespace Go.Proofs.YtpcmfgfhdnfmcaaDoor
open Go.RowKit
namespace Fil
open Rcv (CV LisV IntV DayV)
open Rck (ckE ckB Small)
open Civ (numV numE dY dM dD dnE ydV Ahead)
open Wk (noY noN noE wkV wkE nthV nthB)
open Cel
/-- What momentOf tells of a time that counts. -/
structure MoF (t a0 a1 a2 a3 a4 a5 a6 a7 : Int) : Prop where
  f0 : a0 = t / 86400
  f1 : a1 = dY (t / 86400)
  f2 : a2 = dM (t / 86400)
  f3 : a3 = dD (t / 86400)
  f4 : a4 = Cal.wday (t / 86400)
  f5 : a5 = t % 86400 % 60
  f6 : a6 = t % 86400 / 60 % 60
  f7 : a7 = t % 86400 / 3600
theorem mo_any (t : Int) (o : Bool) (w : World) (hA : Ahead w) (h1 : -9223372036854775808 ≤ t) (h2 : t ≤ 9223372036854775807) (ho : Hid (moO t = o)) :
    Calls Tryd.prog 34 #[.int .i64 t] w fun e w' => ∃ a0 a1 a2 a3 a4 a5 a6 a7 : Int, e = .returned (.tuple #[.agg #[.int .i64 a0, .int .i64 a1, .int .i64 a2, .int .i64 a3, .int .i64 a4, .int .i64 a5, .int .i64 a6, .int .i64 a7], .bool o]) ∧ Hid (o = true → MoF t a0 a1 a2 a3 a4 a5 a6 a7) ∧ Below w.heap.size w w' := by
  cases o with
  | true => exact (mo_yes t w hA h1 h2 ho.out).mono fun e w' ⟨he, hb⟩ => ⟨_, _, _, _, _, _, _, _, he, Lib.hid (fun _ => ⟨rfl, rfl, rfl, rfl, rfl, rfl, rfl, rfl⟩), hb⟩
  | false => exact (mo_no t w hA h1 h2 ho.out).mono fun e w' ⟨he, hb⟩ => ⟨_, _, _, _, _, _, _, _, he, Lib.hid (fun h => by cases h), hb⟩
/-- The contract of isNth, as far as a rule asks for it. -/
def NthC (x : CV) (s6 s7 s8 s9 s10 s11 s12 s13 s14 : Value) (w : World) : Prop := ∀ q ∈ x.dy, q.1 ≠ 0 → ∀ n0 n1 n2 n3 n4 n5 n6 n7 : Int, dY n0 = n1 → dM n0 = n2 → 1 ≤ n1 ∧ n1 ≤ 9999 → ∀ W, Below w.heap.size w W → Calls Tryd.prog 72 #[.agg #[.int .i64 x.fq, .int .i64 x.iv, .int .i64 x.ct, .bool x.un, .int .i64 x.ua, .bool x.ut, s6, s7, s8, s9, s10, s11, s12, s13, s14, .int .i64 x.wk], .agg #[.int .i64 q.1, .int .i64 q.2], .agg #[.int .i64 n0, .int .i64 n1, .int .i64 n2, .int .i64 n3, .int .i64 n4, .int .i64 n5, .int .i64 n6, .int .i64 n7]] W fun e W' => e = .returned (.bool (nthIs x n0 q)) ∧ Below W.heap.size W W'
theorem NthC.none {x : CV} {s6 s7 s8 s9 s10 s11 s12 s13 s14 : Value} {w : World} (h : ∀ q ∈ x.dy, q.1 = 0) : NthC x s6 s7 s8 s9 s10 s11 s12 s13 s14 w := fun q hq h0 => absurd (h q hq) h0
theorem ck_wk {x : CV} (h : ckB x = true) : 0 ≤ x.wk ∧ x.wk ≤ 6 := by
  unfold ckB at h
  simp only [Bool.and_eq_true, decide_eq_true_eq] at h
  omega
theorem dD_bd {t : Int} (h : moO t = true) : 1 ≤ dM (t / 86400) ∧ dM (t / 86400) ≤ 12 ∧ 1 ≤ dD (t / 86400) ∧ dD (t / 86400) ≤ 31 := by
  have b := mo_bd h
  have e : -719528 ≤ t / 86400 ∧ t / 86400 ≤ 2933262 := by omega
  obtain ⟨a1, a2, _, _⟩ := Cal.yr_spec e.1 e.2
  have s := Cal.ny_succ (Cal.yr (t / 86400))
  obtain ⟨m1, m2, m3, m4⟩ := Cal.mon_spec (y := Cal.yr (t / 86400)) (r := t / 86400 - Cal.ny (Cal.yr (t / 86400))) (by omega) (by omega)
  have l := Cal.mlen_bd (Cal.yr (t / 86400)) (Cal.mon (Cal.yr (t / 86400)) (t / 86400 - Cal.ny (Cal.yr (t / 86400))))
  rw [dM, dD, if_pos e, if_pos e]
  omega
set_option maxHeartbeats 12800000 in
set_option maxRecDepth 100000 in
theorem lets_to (x : CV) (s6 s7 s8 s9 s10 s11 s12 s13 s14 : Value) (s t : Int) (b : Bool) (w : World) (hA : Ahead w) (hu1 : -9223372036854775808 ≤ x.ua) (hu2 : x.ua ≤ 9223372036854775807) (hl : LisV w x s6 s7 s8 s9 s10 s11 s12 s13 s14) (hs : Small x) (hNC : NthC x s6 s7 s8 s9 s10 s11 s12 s13 s14 w) (i1 : -9223372036854775808 ≤ s) (i2 : s ≤ 9223372036854775807) (j1 : -9223372036854775808 ≤ t) (j2 : t ≤ 9223372036854775807) (hb : Hid (letP x s t = b)) :
    Calls Tryd.prog 12 #[.agg #[.int .i64 x.fq, .int .i64 x.iv, .int .i64 x.ct, .bool x.un, .int .i64 x.ua, .bool x.ut, s6, s7, s8, s9, s10, s11, s12, s13, s14, .int .i64 x.wk], .int .i64 s, .int .i64 t] w fun e w' => e = .returned (.bool b) ∧ Below w.heap.size w w' := by
  have HA := Lib.hid hA
  have L := Lib.hid hl
  have S := Lib.hid hs
  have NC := Lib.hid hNC
  have HU := Lib.hid (And.intro hu1 hu2)
  have TI := Lib.hid (And.intro (And.intro i1 i2) (And.intro j1 j2))
  obtain ⟨kb, hkb⟩ : ∃ c, ckB x = c := ⟨_, rfl⟩
  obtain ⟨ke, hke⟩ : ∃ c, ckE x = c := ⟨_, rfl⟩
  obtain ⟨o1, ho1⟩ : ∃ c, moO s = c := ⟨_, rfl⟩
  obtain ⟨o2, ho2⟩ : ∃ c, moO t = c := ⟨_, rfl⟩
  have HKE := Lib.hid hke
  have HKB := Lib.hid hkb
  have HE : Hid (ke = if kb = true then 0 else 21) := Lib.hid (by rw [← hke, ckE, hkb])
  have HO1 := Lib.hid ho1
  have HO2 := Lib.hid ho2
  have HB : Hid (b = (kb && (o1 && (o2 && letQ x s t)))) := Lib.hid (by rw [← hb.out, letP, hkb, ho1, ho2])
  clear hA hl hs hNC hu1 hu2 i1 i2 j1 j2 hkb hke ho1 ho2 hb
  go_enter Tryd.func12, Tryd.ntmps12
  go_upto_region 0 with fail
  go_cut [3] (fun p wz => p = .pointer (some ⟨w.heap.size, 0, none⟩) ∧ Hid (Cs w.heap.size wz [.int .i64 x.fq, .int .i64 x.iv, .int .i64 x.ct, .bool x.un, .int .i64 x.ua, .bool x.ut, s6, s7, s8, s9, s10, s11, s12, s13, s14, .int .i64 x.wk]) ∧ Hid (Below w.heap.size w wz))
  case first =>
    go_wp2
    go_meet
    exact ⟨rfl, Lib.hid (Cs.new w _ _), Lib.hid ((Below.refl _ _).alloc (Nat.le_refl _) _)⟩
  case rest =>
  obtain ⟨w1, rfl⟩ : ∃ x : World, x = wc := ⟨_, rfl⟩
  obtain ⟨rfl, RB, B⟩ := hcut
  cases kb with
  | false =>
    obtain rfl : ke = 21 := by rw [HE.out]; rfl
    go_wp2_with (refine ld16 RB.out rfl (by rfl) (by rfl) (by rfl) ?_; intro K hK; go_simp)
    refine (Rck.ck_to _ _ _ _ _ _ _ _ _ x _ _ (HA.out.stays B.out) HU.out.1 HU.out.2 (Lib.hid (L.out.below B.out)) S HKE).mono ?_
    rintro e w2 ⟨rfl, k⟩
    go_wp2
    go_ret
    exact ⟨ret_b (by rw [HB.out]; rfl), bstep B.out k⟩
  | true =>
  obtain rfl : ke = 0 := by rw [HE.out]; rfl
  go_upto_region 1 with fail
  go_cut [13] (fun v wz => v = .bool false ∧ Hid (Cs w.heap.size wz [.int .i64 x.fq, .int .i64 x.iv, .int .i64 x.ct, .bool x.un, .int .i64 x.ua, .bool x.ut, s6, s7, s8, s9, s10, s11, s12, s13, s14, .int .i64 x.wk]) ∧ Hid (Below w.heap.size w wz))
  case first =>
    go_wp2_with (refine ld16 RB.out rfl (by rfl) (by rfl) (by rfl) ?_; intro K hK; go_simp)
    refine (Rck.ck_to _ _ _ _ _ _ _ _ _ x _ _ (HA.out.stays B.out) HU.out.1 HU.out.2 (Lib.hid (L.out.below B.out)) S HKE).mono ?_
    rintro e w2 ⟨rfl, k⟩
    have RB := Lib.hid (RB.out.below k)
    have B := Lib.hid (bstep B.out k)
    clear k
    go_wp2
    go_meet
    exact ⟨rfl, RB, B⟩
  case rest =>
  obtain ⟨w2, rfl⟩ : ∃ x : World, x = wc := ⟨_, rfl⟩
  clear RB B
  obtain ⟨rfl, RB, B⟩ := hcut
  go_upto_region 3 with fail
  go_cut [7, 8] (fun p v wz => ∃ (g : Nat) (a0 a1 a2 a3 a4 a5 a6 a7 : Int), p = .pointer (some ⟨g, 0, none⟩) ∧ v = .bool o1 ∧ w.heap.size < g ∧ Hid (o1 = true → MoF s a0 a1 a2 a3 a4 a5 a6 a7) ∧ Hid (Cs g wz [.int .i64 a0, .int .i64 a1, .int .i64 a2, .int .i64 a3, .int .i64 a4, .int .i64 a5, .int .i64 a6, .int .i64 a7]) ∧ Hid (Cs w.heap.size wz [.int .i64 x.fq, .int .i64 x.iv, .int .i64 x.ct, .bool x.un, .int .i64 x.ua, .bool x.ut, s6, s7, s8, s9, s10, s11, s12, s13, s14, .int .i64 x.wk]) ∧ Hid (Below w.heap.size w wz))
  case first =>
    go_wp2_with fail
    refine (mo_any s o1 _ (HA.out.stays B.out) TI.out.1.1 TI.out.1.2 HO1).mono ?_
    rintro e w3 ⟨a0, a1, a2, a3, a4, a5, a6, a7, rfl, MF, k⟩
    have RB := Lib.hid (RB.out.below k)
    have B := Lib.hid (bstep B.out k)
    have lt := RB.out.1
    clear k
    go_wp2
    go_meet
    exact ⟨_, a0, a1, a2, a3, a4, a5, a6, a7, rfl, rfl, lt, MF, Lib.hid (Cs.new w3 [.int .i64 a0, .int .i64 a1, .int .i64 a2, .int .i64 a3, .int .i64 a4, .int .i64 a5, .int .i64 a6, .int .i64 a7] _), Lib.hid (RB.out.alloc _), Lib.hid (B.out.alloc B.out.size _)⟩
  case rest =>
  obtain ⟨w2, rfl⟩ : ∃ x : World, x = wc := ⟨_, rfl⟩
  clear RB B
  obtain ⟨g, a0, a1, a2, a3, a4, a5, a6, a7, rfl, rfl, hg, MF, SB, RB, B⟩ := hcut
  go_upto_region 4 with fail
  go_cut [9, 10] (fun p v wz => ∃ (g2 : Nat) (b0 b1 b2 b3 b4 b5 b6 b7 : Int), p = .pointer (some ⟨g2, 0, none⟩) ∧ v = .bool o2 ∧ g < g2 ∧ Hid (o2 = true → MoF t b0 b1 b2 b3 b4 b5 b6 b7) ∧ Hid (Cs g2 wz [.int .i64 b0, .int .i64 b1, .int .i64 b2, .int .i64 b3, .int .i64 b4, .int .i64 b5, .int .i64 b6, .int .i64 b7]) ∧ Hid (Cs g wz [.int .i64 a0, .int .i64 a1, .int .i64 a2, .int .i64 a3, .int .i64 a4, .int .i64 a5, .int .i64 a6, .int .i64 a7]) ∧ Hid (Cs w.heap.size wz [.int .i64 x.fq, .int .i64 x.iv, .int .i64 x.ct, .bool x.un, .int .i64 x.ua, .bool x.ut, s6, s7, s8, s9, s10, s11, s12, s13, s14, .int .i64 x.wk]) ∧ Hid (Below w.heap.size w wz))
  case first =>
    go_wp2_with fail
    refine (mo_any t o2 _ (HA.out.stays B.out) TI.out.2.1 TI.out.2.2 HO2).mono ?_
    rintro e w3 ⟨b0, b1, b2, b3, b4, b5, b6, b7, rfl, MG, k⟩
    have RB := Lib.hid (RB.out.below k)
    have SB := Lib.hid (SB.out.below k)
    have B := Lib.hid (bstep B.out k)
    have lt := SB.out.1
    clear k
    go_wp2
    go_meet
    exact ⟨_, b0, b1, b2, b3, b4, b5, b6, b7, rfl, rfl, lt, MG, Lib.hid (Cs.new w3 [.int .i64 b0, .int .i64 b1, .int .i64 b2, .int .i64 b3, .int .i64 b4, .int .i64 b5, .int .i64 b6, .int .i64 b7] _), Lib.hid (SB.out.alloc _), Lib.hid (RB.out.alloc _), Lib.hid (B.out.alloc B.out.size _)⟩
  case rest =>
  obtain ⟨w2, rfl⟩ : ∃ x : World, x = wc := ⟨_, rfl⟩
  clear RB B SB
  obtain ⟨g2, b0, b1, b2, b3, b4, b5, b6, b7, rfl, rfl, hg2, MG, TB, SB, RB, B⟩ := hcut
  cases o1 with
  | false =>
    go_wp2
    go_ret
    exact ⟨ret_b (by rw [HB.out]; rfl), B.out⟩
  | true =>
  cases o2 with
  | false =>
    go_wp2
    go_ret
    exact ⟨ret_b (by rw [HB.out]; rfl), B.out⟩
  | true =>
  have A := Lib.hid (MF.out rfl)
  have G := Lib.hid (MG.out rfl)
  have BD := Lib.hid (mo_bd HO2.out)
  have DD := Lib.hid (dD_bd HO2.out)
  have KK : Hid (0 ≤ x.wk ∧ x.wk ≤ 6) := Lib.hid (ck_wk HKB.out)
  obtain ⟨c1, q1⟩ : ∃ c, lcB x s t = c := ⟨_, rfl⟩
  obtain ⟨c2, q2⟩ : ∃ c, lnB x (t / 86400) = c := ⟨_, rfl⟩
  obtain ⟨c3, q3⟩ : ∃ c, ldB x (t / 86400) = c := ⟨_, rfl⟩
  obtain ⟨c4, q4⟩ : ∃ c, llB x (s / 86400) (t / 86400) = c := ⟨_, rfl⟩
  have HB : Hid (b = (c1 && (c2 && (c3 && c4)))) := Lib.hid (by rw [HB.out, letQ, q1, q2, q3, q4]; rfl)
  have Q1 : Hid ((onB x.sc (decide (1 < x.fq)) a5 b5 && (onB x.mi (decide (2 < x.fq)) a6 b6 && onB x.hr (decide (3 < x.fq)) a7 b7)) = c1) := Lib.hid (by rw [← q1, lcB, A.out.f5, A.out.f6, A.out.f7, G.out.f5, G.out.f6, G.out.f7])
  have Q2 : Hid (lnB x b0 = c2) := Lib.hid (by rw [G.out.f0]; exact q2)
  have Q3 : Hid (ldB x b0 = c3) := Lib.hid (by rw [G.out.f0]; exact q3)
  have Q4 : Hid (llV x a2 a3 a4 b2 b3 b4 = c4) := Lib.hid (by rw [← q4, llV, llB, A.out.f2, A.out.f3, A.out.f4, G.out.f2, G.out.f3, G.out.f4])
  clear q1 q2 q3 q4 MF MG
  go_wp2_with (first | (refine ld16 RB.out rfl (by rfl) (by rfl) (by rfl) ?_; intro K hK; go_simp) | (refine ld8 SB.out rfl (by rfl) (by rfl) (by rfl) ?_; intro K hK; go_simp) | (refine ld8 TB.out rfl (by rfl) (by rfl) (by rfl) ?_; intro K hK; go_simp))
  refine (lc_to x _ _ _ _ _ _ _ _ _ a0 a1 a2 a3 a4 a5 a6 a7 b0 b1 b2 b3 b4 b5 b6 b7 _ (L.out.below B.out) S.out).mono ?_
  rintro e w3 ⟨rfl, k⟩
  have RB := Lib.hid (RB.out.below k)
  have SB := Lib.hid (SB.out.below k)
  have TB := Lib.hid (TB.out.below k)
  have B := Lib.hid (bstep B.out k)
  clear k
  rw [Q1.out]
  cases c1 with
  | false =>
    go_wp2
    go_ret
    exact ⟨ret_b (by rw [HB.out]; rfl), B.out⟩
  | true =>
  go_wp2_with (first | (refine ld16 RB.out rfl (by rfl) (by rfl) (by rfl) ?_; intro K hK; go_simp) | (refine ld8 TB.out rfl (by rfl) (by rfl) (by rfl) ?_; intro K hK; go_simp))
  refine (ln_to x _ _ _ _ _ _ _ _ _ b0 b1 b2 b3 b4 b5 b6 b7 c2 _ (HA.out.stays B.out) (L.out.below B.out) S.out KK.out (by rw [G.out.f0]; exact ⟨BD.out.1, BD.out.2.1⟩) (Lib.hid (by rw [G.out.f0, G.out.f1])) (Lib.hid (by rw [G.out.f0, G.out.f2])) (Lib.hid (by rw [G.out.f0, G.out.f3])) (by rw [G.out.f3]; have := DD.out; omega) Q2).mono ?_
  rintro e w4 ⟨rfl, k⟩
  have RB := Lib.hid (RB.out.below k)
  have SB := Lib.hid (SB.out.below k)
  have TB := Lib.hid (TB.out.below k)
  have B := Lib.hid (bstep B.out k)
  clear k
  cases c2 with
  | false =>
    go_wp2
    go_ret
    exact ⟨ret_b (by rw [HB.out]; rfl), B.out⟩
  | true =>
  go_wp2_with (first | (refine ld16 RB.out rfl (by rfl) (by rfl) (by rfl) ?_; intro K hK; go_simp) | (refine ld8 TB.out rfl (by rfl) (by rfl) (by rfl) ?_; intro K hK; go_simp))
  refine (ld_to x _ _ _ _ _ _ _ _ _ b0 b1 b2 b3 b4 b5 b6 b7 c3 _ (L.out.below B.out) S.out.dy (by rw [G.out.f0, G.out.f4]) Q3 (fun q hq h0 W hW => NC.out q hq h0 b0 b1 b2 b3 b4 b5 b6 b7 (by rw [G.out.f0, G.out.f1]) (by rw [G.out.f0, G.out.f2]) (by rw [G.out.f1]; exact BD.out.2.2.2) W (bstep B.out hW))).mono ?_
  rintro e w5 ⟨rfl, k⟩
  have RB := Lib.hid (RB.out.below k)
  have SB := Lib.hid (SB.out.below k)
  have TB := Lib.hid (TB.out.below k)
  have B := Lib.hid (bstep B.out k)
  clear k
  cases c3 with
  | false =>
    go_wp2
    go_ret
    exact ⟨ret_b (by rw [HB.out]; rfl), B.out⟩
  | true =>
  go_wp2_with (first | (refine ld16 RB.out rfl (by rfl) (by rfl) (by rfl) ?_; intro K hK; go_simp) | (refine ld8 SB.out rfl (by rfl) (by rfl) (by rfl) ?_; intro K hK; go_simp) | (refine ld8 TB.out rfl (by rfl) (by rfl) (by rfl) ?_; intro K hK; go_simp))
  refine (ll_to x _ _ _ _ _ _ _ _ _ a0 a1 a2 a3 a4 a5 a6 a7 b0 b1 b2 b3 b4 b5 b6 b7 c4 _ (L.out.below B.out) Q4).mono ?_
  rintro e w6 ⟨rfl, k⟩
  go_wp2
  go_ret
  exact ⟨ret_b (by rw [HB.out]; rfl), bstep B.out k⟩
end Fil
end Go.Proofs.YtpcmfgfhdnfmcaaDoor
