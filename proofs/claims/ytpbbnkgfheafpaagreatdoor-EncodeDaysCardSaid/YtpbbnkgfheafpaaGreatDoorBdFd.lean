/-
  Several texts in one (FilZ, FilJ, FilK, FilW, FilT).
-/
import Derived.Test.YtpbbnkgfheafpaaGreatDoorBdFa
import Derived.Test.YtpbbnkgfheafpaaGreatDoorBdFc
import Derived.Test.YtpbbnkgfheafpaaGreatDoorBdS
/-
  The reference's has and fits (solsticeref21): a number in a list that came in.
-/
namespace Go.Proofs.YtpbbnkgfheafpaaGreatDoor
open Go.RowKit
namespace Fil
open Rcv (IntV)
theorem con_next {L : List Int} {n : Int} {k : Nat} (hk : k < L.length) (h : (L.take k).contains n = false) (h1 : ¬ L[k] = n) : (L.take (k + 1)).contains n = false := by
  rw [← Bool.not_eq_true, List.contains_iff_mem] at h ⊢
  rw [List.take_succ_eq_append_getElem hk]
  intro q
  rcases List.mem_append.1 q with q | q
  · exact h q
  · exact h1 (List.mem_singleton.1 q).symm
theorem con_hit {L : List Int} {n : Int} {k : Nat} (hk : k < L.length) (h1 : L[k] = n) : L.contains n = true := by
  rw [List.contains_iff_mem, ← h1]
  exact List.getElem_mem hk
end Fil
end Go.Proofs.YtpbbnkgfheafpaaGreatDoor
/-
  Package filter: Lets of whatever rule and times.
-/
namespace Go.Proofs.YtpbbnkgfheafpaaGreatDoor
open Go.RowKit
namespace Fil
open Rcv (CV LisV IntV DayV)
open Rck (ckE ckB Small)
open Civ (numV numE dY dM dD dnE ydV Ahead)
open Wk (noY noN noE wkV wkE nthV nthB)
open Cel
/-- What momentOf tells of a time that counts. -/
structure MoF (t a0 a1 a2 a3 a4 a5 a6 a7 : Int) : Prop where
  f0 : a0 = t / 86400
  f1 : a1 = dY (t / 86400)
  f2 : a2 = dM (t / 86400)
  f3 : a3 = dD (t / 86400)
  f4 : a4 = Cal.wday (t / 86400)
  f5 : a5 = t % 86400 % 60
  f6 : a6 = t % 86400 / 60 % 60
  f7 : a7 = t % 86400 / 3600
theorem mo_any (t : Int) (o : Bool) (w : World) (hA : Ahead w) (h1 : -9223372036854775808 ≤ t) (h2 : t ≤ 9223372036854775807) (ho : Hid (moO t = o)) :
    Calls Tryz.prog 46 #[.int .i64 t] w fun e w' => ∃ a0 a1 a2 a3 a4 a5 a6 a7 : Int, e = .returned (.tuple #[.agg #[.int .i64 a0, .int .i64 a1, .int .i64 a2, .int .i64 a3, .int .i64 a4, .int .i64 a5, .int .i64 a6, .int .i64 a7], .bool o]) ∧ Hid (o = true → MoF t a0 a1 a2 a3 a4 a5 a6 a7) ∧ Below w.heap.size w w' := by
  cases o with
  | true => exact (mo_yes t w hA h1 h2 ho.out).mono fun e w' ⟨he, hb⟩ => ⟨_, _, _, _, _, _, _, _, he, Lib.hid (fun _ => ⟨rfl, rfl, rfl, rfl, rfl, rfl, rfl, rfl⟩), hb⟩
  | false => exact (mo_no t w hA h1 h2 ho.out).mono fun e w' ⟨he, hb⟩ => ⟨_, _, _, _, _, _, _, _, he, Lib.hid (fun h => by cases h), hb⟩
/-- The contract of isNth, as far as a rule asks for it. -/
def NthC (x : CV) (s6 s7 s8 s9 s10 s11 s12 s13 s14 : Value) (w : World) : Prop := ∀ q ∈ x.dy, q.1 ≠ 0 → ∀ n0 n1 n2 n3 n4 n5 n6 n7 : Int, dY n0 = n1 → dM n0 = n2 → 1 ≤ n1 ∧ n1 ≤ 9999 → ∀ W, Below w.heap.size w W → Calls Tryz.prog 83 #[.agg #[.int .i64 x.fq, .int .i64 x.iv, .int .i64 x.ct, .bool x.un, .int .i64 x.ua, .bool x.ut, s6, s7, s8, s9, s10, s11, s12, s13, s14, .int .i64 x.wk], .agg #[.int .i64 q.1, .int .i64 q.2], .agg #[.int .i64 n0, .int .i64 n1, .int .i64 n2, .int .i64 n3, .int .i64 n4, .int .i64 n5, .int .i64 n6, .int .i64 n7]] W fun e W' => e = .returned (.bool (nthIs x n0 q)) ∧ Below W.heap.size W W'
theorem NthC.none {x : CV} {s6 s7 s8 s9 s10 s11 s12 s13 s14 : Value} {w : World} (h : ∀ q ∈ x.dy, q.1 = 0) : NthC x s6 s7 s8 s9 s10 s11 s12 s13 s14 w := fun q hq h0 => absurd (h q hq) h0
theorem ck_wk {x : CV} (h : ckB x = true) : 0 ≤ x.wk ∧ x.wk ≤ 6 := by
  unfold ckB at h
  simp only [Bool.and_eq_true, decide_eq_true_eq] at h
  omega
theorem dD_bd {t : Int} (h : moO t = true) : 1 ≤ dM (t / 86400) ∧ dM (t / 86400) ≤ 12 ∧ 1 ≤ dD (t / 86400) ∧ dD (t / 86400) ≤ 31 := by
  have b := mo_bd h
  have e : -719528 ≤ t / 86400 ∧ t / 86400 ≤ 2933262 := by omega
  obtain ⟨a1, a2, _, _⟩ := Cal.yr_spec e.1 e.2
  have s := Cal.ny_succ (Cal.yr (t / 86400))
  obtain ⟨m1, m2, m3, m4⟩ := Cal.mon_spec (y := Cal.yr (t / 86400)) (r := t / 86400 - Cal.ny (Cal.yr (t / 86400))) (by omega) (by omega)
  have l := Cal.mlen_bd (Cal.yr (t / 86400)) (Cal.mon (Cal.yr (t / 86400)) (t / 86400 - Cal.ny (Cal.yr (t / 86400))))
  rw [dM, dD, if_pos e, if_pos e]
  omega
set_option maxHeartbeats 12800000 in
set_option maxRecDepth 100000 in
theorem lets_to (x : CV) (s6 s7 s8 s9 s10 s11 s12 s13 s14 : Value) (s t : Int) (b : Bool) (w : World) (hA : Ahead w) (hu1 : -9223372036854775808 ≤ x.ua) (hu2 : x.ua ≤ 9223372036854775807) (hl : LisV w x s6 s7 s8 s9 s10 s11 s12 s13 s14) (hs : Small x) (hNC : NthC x s6 s7 s8 s9 s10 s11 s12 s13 s14 w) (i1 : -9223372036854775808 ≤ s) (i2 : s ≤ 9223372036854775807) (j1 : -9223372036854775808 ≤ t) (j2 : t ≤ 9223372036854775807) (hb : Hid (letP x s t = b)) :
    Calls Tryz.prog 51 #[.agg #[.int .i64 x.fq, .int .i64 x.iv, .int .i64 x.ct, .bool x.un, .int .i64 x.ua, .bool x.ut, s6, s7, s8, s9, s10, s11, s12, s13, s14, .int .i64 x.wk], .int .i64 s, .int .i64 t] w fun e w' => e = .returned (.bool b) ∧ Below w.heap.size w w' := by
  have HA := Lib.hid hA
  have L := Lib.hid hl
  have S := Lib.hid hs
  have NC := Lib.hid hNC
  have HU := Lib.hid (And.intro hu1 hu2)
  have TI := Lib.hid (And.intro (And.intro i1 i2) (And.intro j1 j2))
  obtain ⟨kb, hkb⟩ : ∃ c, ckB x = c := ⟨_, rfl⟩
  obtain ⟨ke, hke⟩ : ∃ c, ckE x = c := ⟨_, rfl⟩
  obtain ⟨o1, ho1⟩ : ∃ c, moO s = c := ⟨_, rfl⟩
  obtain ⟨o2, ho2⟩ : ∃ c, moO t = c := ⟨_, rfl⟩
  have HKE := Lib.hid hke
  have HKB := Lib.hid hkb
  have HE : Hid (ke = if kb = true then 0 else 21) := Lib.hid (by rw [← hke, ckE, hkb])
  have HO1 := Lib.hid ho1
  have HO2 := Lib.hid ho2
  have HB : Hid (b = (kb && (o1 && (o2 && letQ x s t)))) := Lib.hid (by rw [← hb.out, letP, hkb, ho1, ho2])
  clear hA hl hs hNC hu1 hu2 i1 i2 j1 j2 hkb hke ho1 ho2 hb
  go_enter Tryz.func51, Tryz.ntmps51
  go_upto_region 0 with fail
  go_cut [3] (fun p wz => p = .pointer (some ⟨w.heap.size, 0, none⟩) ∧ Hid (Cs w.heap.size wz [.int .i64 x.fq, .int .i64 x.iv, .int .i64 x.ct, .bool x.un, .int .i64 x.ua, .bool x.ut, s6, s7, s8, s9, s10, s11, s12, s13, s14, .int .i64 x.wk]) ∧ Hid (Below w.heap.size w wz))
  case first =>
    go_wp2
    go_meet
    exact ⟨rfl, Lib.hid (Cs.new w _ _), Lib.hid ((Below.refl _ _).alloc (Nat.le_refl _) _)⟩
  case rest =>
  obtain ⟨w1, rfl⟩ : ∃ x : World, x = wc := ⟨_, rfl⟩
  obtain ⟨rfl, RB, B⟩ := hcut
  cases kb with
  | false =>
    obtain rfl : ke = 21 := by rw [HE.out]; rfl
    go_wp2_with (refine ld16 RB.out rfl (by rfl) (by rfl) (by rfl) ?_; intro K hK; go_simp)
    refine (Rck.ck_to _ _ _ _ _ _ _ _ _ x _ _ (HA.out.stays B.out) HU.out.1 HU.out.2 (Lib.hid (L.out.below B.out)) S HKE).mono ?_
    rintro e w2 ⟨rfl, k⟩
    go_wp2
    go_ret
    exact ⟨ret_b (by rw [HB.out]; rfl), bstep B.out k⟩
  | true =>
  obtain rfl : ke = 0 := by rw [HE.out]; rfl
  go_upto_region 1 with fail
  go_cut [13] (fun v wz => v = .bool false ∧ Hid (Cs w.heap.size wz [.int .i64 x.fq, .int .i64 x.iv, .int .i64 x.ct, .bool x.un, .int .i64 x.ua, .bool x.ut, s6, s7, s8, s9, s10, s11, s12, s13, s14, .int .i64 x.wk]) ∧ Hid (Below w.heap.size w wz))
  case first =>
    go_wp2_with (refine ld16 RB.out rfl (by rfl) (by rfl) (by rfl) ?_; intro K hK; go_simp)
    refine (Rck.ck_to _ _ _ _ _ _ _ _ _ x _ _ (HA.out.stays B.out) HU.out.1 HU.out.2 (Lib.hid (L.out.below B.out)) S HKE).mono ?_
    rintro e w2 ⟨rfl, k⟩
    have RB := Lib.hid (RB.out.below k)
    have B := Lib.hid (bstep B.out k)
    clear k
    go_wp2
    go_meet
    exact ⟨rfl, RB, B⟩
  case rest =>
  obtain ⟨w2, rfl⟩ : ∃ x : World, x = wc := ⟨_, rfl⟩
  clear RB B
  obtain ⟨rfl, RB, B⟩ := hcut
  go_upto_region 3 with fail
  go_cut [7, 8] (fun p v wz => ∃ (g : Nat) (a0 a1 a2 a3 a4 a5 a6 a7 : Int), p = .pointer (some ⟨g, 0, none⟩) ∧ v = .bool o1 ∧ w.heap.size < g ∧ Hid (o1 = true → MoF s a0 a1 a2 a3 a4 a5 a6 a7) ∧ Hid (Cs g wz [.int .i64 a0, .int .i64 a1, .int .i64 a2, .int .i64 a3, .int .i64 a4, .int .i64 a5, .int .i64 a6, .int .i64 a7]) ∧ Hid (Cs w.heap.size wz [.int .i64 x.fq, .int .i64 x.iv, .int .i64 x.ct, .bool x.un, .int .i64 x.ua, .bool x.ut, s6, s7, s8, s9, s10, s11, s12, s13, s14, .int .i64 x.wk]) ∧ Hid (Below w.heap.size w wz))
  case first =>
    go_wp2_with fail
    refine (mo_any s o1 _ (HA.out.stays B.out) TI.out.1.1 TI.out.1.2 HO1).mono ?_
    rintro e w3 ⟨a0, a1, a2, a3, a4, a5, a6, a7, rfl, MF, k⟩
    have RB := Lib.hid (RB.out.below k)
    have B := Lib.hid (bstep B.out k)
    have lt := RB.out.1
    clear k
    go_wp2
    go_meet
    exact ⟨_, a0, a1, a2, a3, a4, a5, a6, a7, rfl, rfl, lt, MF, Lib.hid (Cs.new w3 [.int .i64 a0, .int .i64 a1, .int .i64 a2, .int .i64 a3, .int .i64 a4, .int .i64 a5, .int .i64 a6, .int .i64 a7] _), Lib.hid (RB.out.alloc _), Lib.hid (B.out.alloc B.out.size _)⟩
  case rest =>
  obtain ⟨w2, rfl⟩ : ∃ x : World, x = wc := ⟨_, rfl⟩
  clear RB B
  obtain ⟨g, a0, a1, a2, a3, a4, a5, a6, a7, rfl, rfl, hg, MF, SB, RB, B⟩ := hcut
  go_upto_region 4 with fail
  go_cut [9, 10] (fun p v wz => ∃ (g2 : Nat) (b0 b1 b2 b3 b4 b5 b6 b7 : Int), p = .pointer (some ⟨g2, 0, none⟩) ∧ v = .bool o2 ∧ g < g2 ∧ Hid (o2 = true → MoF t b0 b1 b2 b3 b4 b5 b6 b7) ∧ Hid (Cs g2 wz [.int .i64 b0, .int .i64 b1, .int .i64 b2, .int .i64 b3, .int .i64 b4, .int .i64 b5, .int .i64 b6, .int .i64 b7]) ∧ Hid (Cs g wz [.int .i64 a0, .int .i64 a1, .int .i64 a2, .int .i64 a3, .int .i64 a4, .int .i64 a5, .int .i64 a6, .int .i64 a7]) ∧ Hid (Cs w.heap.size wz [.int .i64 x.fq, .int .i64 x.iv, .int .i64 x.ct, .bool x.un, .int .i64 x.ua, .bool x.ut, s6, s7, s8, s9, s10, s11, s12, s13, s14, .int .i64 x.wk]) ∧ Hid (Below w.heap.size w wz))
  case first =>
    go_wp2_with fail
    refine (mo_any t o2 _ (HA.out.stays B.out) TI.out.2.1 TI.out.2.2 HO2).mono ?_
    rintro e w3 ⟨b0, b1, b2, b3, b4, b5, b6, b7, rfl, MG, k⟩
    have RB := Lib.hid (RB.out.below k)
    have SB := Lib.hid (SB.out.below k)
    have B := Lib.hid (bstep B.out k)
    have lt := SB.out.1
    clear k
    go_wp2
    go_meet
    exact ⟨_, b0, b1, b2, b3, b4, b5, b6, b7, rfl, rfl, lt, MG, Lib.hid (Cs.new w3 [.int .i64 b0, .int .i64 b1, .int .i64 b2, .int .i64 b3, .int .i64 b4, .int .i64 b5, .int .i64 b6, .int .i64 b7] _), Lib.hid (SB.out.alloc _), Lib.hid (RB.out.alloc _), Lib.hid (B.out.alloc B.out.size _)⟩
  case rest =>
  obtain ⟨w2, rfl⟩ : ∃ x : World, x = wc := ⟨_, rfl⟩
  clear RB B SB
  obtain ⟨g2, b0, b1, b2, b3, b4, b5, b6, b7, rfl, rfl, hg2, MG, TB, SB, RB, B⟩ := hcut
  cases o1 with
  | false =>
    go_wp2
    go_ret
    exact ⟨ret_b (by rw [HB.out]; rfl), B.out⟩
  | true =>
  cases o2 with
  | false =>
    go_wp2
    go_ret
    exact ⟨ret_b (by rw [HB.out]; rfl), B.out⟩
  | true =>
  have A := Lib.hid (MF.out rfl)
  have G := Lib.hid (MG.out rfl)
  have BD := Lib.hid (mo_bd HO2.out)
  have DD := Lib.hid (dD_bd HO2.out)
  have KK : Hid (0 ≤ x.wk ∧ x.wk ≤ 6) := Lib.hid (ck_wk HKB.out)
  obtain ⟨c1, q1⟩ : ∃ c, lcB x s t = c := ⟨_, rfl⟩
  obtain ⟨c2, q2⟩ : ∃ c, lnB x (t / 86400) = c := ⟨_, rfl⟩
  obtain ⟨c3, q3⟩ : ∃ c, ldB x (t / 86400) = c := ⟨_, rfl⟩
  obtain ⟨c4, q4⟩ : ∃ c, llB x (s / 86400) (t / 86400) = c := ⟨_, rfl⟩
  have HB : Hid (b = (c1 && (c2 && (c3 && c4)))) := Lib.hid (by rw [HB.out, letQ, q1, q2, q3, q4]; rfl)
  have Q1 : Hid ((onB x.sc (decide (1 < x.fq)) a5 b5 && (onB x.mi (decide (2 < x.fq)) a6 b6 && onB x.hr (decide (3 < x.fq)) a7 b7)) = c1) := Lib.hid (by rw [← q1, lcB, A.out.f5, A.out.f6, A.out.f7, G.out.f5, G.out.f6, G.out.f7])
  have Q2 : Hid (lnB x b0 = c2) := Lib.hid (by rw [G.out.f0]; exact q2)
  have Q3 : Hid (ldB x b0 = c3) := Lib.hid (by rw [G.out.f0]; exact q3)
  have Q4 : Hid (llV x a2 a3 a4 b2 b3 b4 = c4) := Lib.hid (by rw [← q4, llV, llB, A.out.f2, A.out.f3, A.out.f4, G.out.f2, G.out.f3, G.out.f4])
  clear q1 q2 q3 q4 MF MG
  go_wp2_with (first | (refine ld16 RB.out rfl (by rfl) (by rfl) (by rfl) ?_; intro K hK; go_simp) | (refine ld8 SB.out rfl (by rfl) (by rfl) (by rfl) ?_; intro K hK; go_simp) | (refine ld8 TB.out rfl (by rfl) (by rfl) (by rfl) ?_; intro K hK; go_simp))
  refine (lc_to x _ _ _ _ _ _ _ _ _ a0 a1 a2 a3 a4 a5 a6 a7 b0 b1 b2 b3 b4 b5 b6 b7 _ (L.out.below B.out) S.out).mono ?_
  rintro e w3 ⟨rfl, k⟩
  have RB := Lib.hid (RB.out.below k)
  have SB := Lib.hid (SB.out.below k)
  have TB := Lib.hid (TB.out.below k)
  have B := Lib.hid (bstep B.out k)
  clear k
  rw [Q1.out]
  cases c1 with
  | false =>
    go_wp2
    go_ret
    exact ⟨ret_b (by rw [HB.out]; rfl), B.out⟩
  | true =>
  go_wp2_with (first | (refine ld16 RB.out rfl (by rfl) (by rfl) (by rfl) ?_; intro K hK; go_simp) | (refine ld8 TB.out rfl (by rfl) (by rfl) (by rfl) ?_; intro K hK; go_simp))
  refine (ln_to x _ _ _ _ _ _ _ _ _ b0 b1 b2 b3 b4 b5 b6 b7 c2 _ (HA.out.stays B.out) (L.out.below B.out) S.out KK.out (by rw [G.out.f0]; exact ⟨BD.out.1, BD.out.2.1⟩) (Lib.hid (by rw [G.out.f0, G.out.f1])) (Lib.hid (by rw [G.out.f0, G.out.f2])) (Lib.hid (by rw [G.out.f0, G.out.f3])) (by rw [G.out.f3]; have := DD.out; omega) Q2).mono ?_
  rintro e w4 ⟨rfl, k⟩
  have RB := Lib.hid (RB.out.below k)
  have SB := Lib.hid (SB.out.below k)
  have TB := Lib.hid (TB.out.below k)
  have B := Lib.hid (bstep B.out k)
  clear k
  cases c2 with
  | false =>
    go_wp2
    go_ret
    exact ⟨ret_b (by rw [HB.out]; rfl), B.out⟩
  | true =>
  go_wp2_with (first | (refine ld16 RB.out rfl (by rfl) (by rfl) (by rfl) ?_; intro K hK; go_simp) | (refine ld8 TB.out rfl (by rfl) (by rfl) (by rfl) ?_; intro K hK; go_simp))
  refine (ld_to x _ _ _ _ _ _ _ _ _ b0 b1 b2 b3 b4 b5 b6 b7 c3 _ (L.out.below B.out) S.out.dy (by rw [G.out.f0, G.out.f4]) Q3 (fun q hq h0 W hW => NC.out q hq h0 b0 b1 b2 b3 b4 b5 b6 b7 (by rw [G.out.f0, G.out.f1]) (by rw [G.out.f0, G.out.f2]) (by rw [G.out.f1]; exact BD.out.2.2.2) W (bstep B.out hW))).mono ?_
  rintro e w5 ⟨rfl, k⟩
  have RB := Lib.hid (RB.out.below k)
  have SB := Lib.hid (SB.out.below k)
  have TB := Lib.hid (TB.out.below k)
  have B := Lib.hid (bstep B.out k)
  clear k
  cases c3 with
  | false =>
    go_wp2
    go_ret
    exact ⟨ret_b (by rw [HB.out]; rfl), B.out⟩
  | true =>
  go_wp2_with (first | (refine ld16 RB.out rfl (by rfl) (by rfl) (by rfl) ?_; intro K hK; go_simp) | (refine ld8 SB.out rfl (by rfl) (by rfl) (by rfl) ?_; intro K hK; go_simp) | (refine ld8 TB.out rfl (by rfl) (by rfl) (by rfl) ?_; intro K hK; go_simp))
  refine (ll_to x _ _ _ _ _ _ _ _ _ a0 a1 a2 a3 a4 a5 a6 a7 b0 b1 b2 b3 b4 b5 b6 b7 c4 _ (L.out.below B.out) Q4).mono ?_
  rintro e w6 ⟨rfl, k⟩
  go_wp2
  go_ret
  exact ⟨ret_b (by rw [HB.out]; rfl), bstep B.out k⟩
end Fil
end Go.Proofs.YtpbbnkgfheafpaaGreatDoor
/-
  Package filter: Period and Span of whatever rule.
-/
namespace Go.Proofs.YtpbbnkgfheafpaaGreatDoor
open Go.RowKit
namespace Fil
open Rcv (CV LisV IntV DayV)
open Rck (ckE ckB Small)
open Civ (numV numE dY dM dD dnE ydV Ahead)
open Wk (noY noN noE wkV wkE nthV nthB)
open Cel
theorem ck_fq {x : CV} (h : ckB x = true) : 1 ≤ x.fq ∧ x.fq ≤ 7 := by
  unfold ckB at h
  simp only [Bool.and_eq_true, decide_eq_true_eq] at h
  omega
theorem ret_2 {a a' b b' : Int} (h : a = a') (k : b = b') : Ending.returned (.tuple #[.int .i64 a, .int .i64 b]) = .returned (.tuple #[.int .i64 a', .int .i64 b']) := by rw [h, k]
theorem ret_3 {a a' b b' c c' : Int} (h : a = a') (k : b = b') (l : c = c') : Ending.returned (.tuple #[.int .i64 a, .int .i64 b, .int .i64 c]) = .returned (.tuple #[.int .i64 a', .int .i64 b', .int .i64 c']) := by rw [h, k, l]
set_option maxHeartbeats 12800000 in
set_option maxRecDepth 100000 in
theorem per_to (x : CV) (s6 s7 s8 s9 s10 s11 s12 s13 s14 : Value) (t p c : Int) (w : World) (hA : Ahead w) (hu1 : -9223372036854775808 ≤ x.ua) (hu2 : x.ua ≤ 9223372036854775807) (hl : LisV w x s6 s7 s8 s9 s10 s11 s12 s13 s14) (hs : Small x) (j1 : -9223372036854775808 ≤ t) (j2 : t ≤ 9223372036854775807) (hp : Hid (perV x t = p)) (hc : Hid (perE x t = c)) :
    Calls Tryz.prog 23 #[.agg #[.int .i64 x.fq, .int .i64 x.iv, .int .i64 x.ct, .bool x.un, .int .i64 x.ua, .bool x.ut, s6, s7, s8, s9, s10, s11, s12, s13, s14, .int .i64 x.wk], .int .i64 t] w fun e w' => e = .returned (.tuple #[.int .i64 p, .int .i64 c]) ∧ Below w.heap.size w w' := by
  obtain ⟨a12, c12, rfl⟩ := hl.h12.slice
  have HA := Lib.hid hA
  have L := Lib.hid hl
  have S := Lib.hid hs
  have HU := Lib.hid (And.intro hu1 hu2)
  obtain ⟨kb, hkb⟩ : ∃ c, ckB x = c := ⟨_, rfl⟩
  obtain ⟨ke, hke⟩ : ∃ c, ckE x = c := ⟨_, rfl⟩
  have HKE := Lib.hid hke
  have HKB := Lib.hid hkb
  have HE : Hid (ke = if kb = true then 0 else 21) := Lib.hid (by rw [← hke, ckE, hkb])
  obtain ⟨o, ho⟩ : ∃ c, moO t = c := ⟨_, rfl⟩
  have HO := Lib.hid ho
  have TI := Lib.hid (And.intro j1 j2)
  have HB : Hid (p = (if kb = true ∧ o = true then perQ x t else 0) ∧ c = (if kb = true then (if o = true then 0 else 23) else 21)) := Lib.hid ⟨by rw [← hp.out, perV, hkb, ho], by rw [← hc.out, perE, hkb, ho]⟩
  clear hA hl hs hu1 hu2 hkb hke ho hp hc j1 j2
  go_enter Tryz.func23, Tryz.ntmps23
  go_upto_region 0 with fail
  go_cut [2] (fun p wz => p = .pointer (some ⟨w.heap.size, 0, none⟩) ∧ Hid (Cs w.heap.size wz [.int .i64 x.fq, .int .i64 x.iv, .int .i64 x.ct, .bool x.un, .int .i64 x.ua, .bool x.ut, s6, s7, s8, s9, s10, s11, .slice a12 x.wn.length c12, s13, s14, .int .i64 x.wk]) ∧ Hid (Below w.heap.size w wz))
  case first =>
    go_wp2
    go_meet
    exact ⟨rfl, Lib.hid (Cs.new w _ _), Lib.hid ((Below.refl _ _).alloc (Nat.le_refl _) _)⟩
  case rest =>
  obtain ⟨w1, rfl⟩ : ∃ x : World, x = wc := ⟨_, rfl⟩
  obtain ⟨rfl, RB, B⟩ := hcut
  cases kb with
  | false =>
    obtain rfl : ke = 21 := by rw [HE.out]; rfl
    go_wp2_with (refine ld16 RB.out rfl (by rfl) (by rfl) (by rfl) ?_; intro K hK; go_simp)
    refine (Rck.ck_to _ _ _ _ _ _ _ _ _ x _ _ (HA.out.stays B.out) HU.out.1 HU.out.2 (Lib.hid (L.out.below B.out)) S HKE).mono ?_
    rintro e w2 ⟨rfl, k⟩
    go_wp2
    go_ret2
    exact ⟨ret_2 (by rw [HB.out.1]; rfl) (by rw [HB.out.2]; rfl), bstep B.out k⟩
  | true =>
  obtain rfl : ke = 0 := by rw [HE.out]; rfl
  go_upto_region 1 with fail
  go_cut [6] (fun v wz => v = .int .i64 0 ∧ Hid (Cs w.heap.size wz [.int .i64 x.fq, .int .i64 x.iv, .int .i64 x.ct, .bool x.un, .int .i64 x.ua, .bool x.ut, s6, s7, s8, s9, s10, s11, .slice a12 x.wn.length c12, s13, s14, .int .i64 x.wk]) ∧ Hid (Below w.heap.size w wz))
  case first =>
    go_wp2_with (refine ld16 RB.out rfl (by rfl) (by rfl) (by rfl) ?_; intro K hK; go_simp)
    refine (Rck.ck_to _ _ _ _ _ _ _ _ _ x _ _ (HA.out.stays B.out) HU.out.1 HU.out.2 (Lib.hid (L.out.below B.out)) S HKE).mono ?_
    rintro e w2 ⟨rfl, k⟩
    have RB := Lib.hid (RB.out.below k)
    have B := Lib.hid (bstep B.out k)
    clear k
    go_wp2
    go_meet
    exact ⟨rfl, RB, B⟩
  case rest =>
  obtain ⟨w2, rfl⟩ : ∃ x : World, x = wc := ⟨_, rfl⟩
  clear RB B
  obtain ⟨rfl, RB, B⟩ := hcut
  have KF := ck_fq HKB.out
  have KW := ck_wk HKB.out
  go_upto_region 4 with fail
  go_cut [7, 8] (fun q v wz => ∃ (g : Nat) (a0 a1 a2 a3 a4 a5 a6 a7 : Int), q = .pointer (some ⟨g, 0, none⟩) ∧ v = .bool o ∧ w.heap.size < g ∧ Hid (o = true → MoF t a0 a1 a2 a3 a4 a5 a6 a7) ∧ Hid (Cs g wz [.int .i64 a0, .int .i64 a1, .int .i64 a2, .int .i64 a3, .int .i64 a4, .int .i64 a5, .int .i64 a6, .int .i64 a7]) ∧ Hid (Cs w.heap.size wz [.int .i64 x.fq, .int .i64 x.iv, .int .i64 x.ct, .bool x.un, .int .i64 x.ua, .bool x.ut, s6, s7, s8, s9, s10, s11, .slice a12 x.wn.length c12, s13, s14, .int .i64 x.wk]) ∧ Hid (Below w.heap.size w wz))
  case first =>
    go_wp2_with fail
    refine (mo_any t o _ (HA.out.stays B.out) TI.out.1 TI.out.2 HO).mono ?_
    rintro e w3 ⟨a0, a1, a2, a3, a4, a5, a6, a7, rfl, MF, k⟩
    have RB := Lib.hid (RB.out.below k)
    have B := Lib.hid (bstep B.out k)
    have lt := RB.out.1
    clear k
    go_wp2
    go_meet
    exact ⟨_, a0, a1, a2, a3, a4, a5, a6, a7, rfl, rfl, lt, MF, Lib.hid (Cs.new w3 [.int .i64 a0, .int .i64 a1, .int .i64 a2, .int .i64 a3, .int .i64 a4, .int .i64 a5, .int .i64 a6, .int .i64 a7] _), Lib.hid (RB.out.alloc _), Lib.hid (B.out.alloc B.out.size _)⟩
  case rest =>
  obtain ⟨w2, rfl⟩ : ∃ x : World, x = wc := ⟨_, rfl⟩
  clear RB B
  obtain ⟨g, a0, a1, a2, a3, a4, a5, a6, a7, rfl, rfl, hg, MF, MB, RB, B⟩ := hcut
  cases o with
  | false =>
    go_wp2
    go_ret2
    exact ⟨ret_2 (by rw [HB.out.1]; rfl) (by rw [HB.out.2]; rfl), B.out⟩
  | true =>
  have A := Lib.hid (MF.out rfl)
  have bd := mo_bd HO.out
  have dd := dD_bd HO.out
  obtain ⟨fq, hfq⟩ : ∃ f, x.fq = f := ⟨_, rfl⟩
  obtain ⟨wk, hwk⟩ : ∃ f, x.wk = f := ⟨_, rfl⟩
  have HP : Hid (p = perQ x t) := Lib.hid (by rw [HB.out.1]; rfl)
  have HC : Hid (c = 0) := Lib.hid (by rw [HB.out.2]; rfl)
  have HP : Hid (p = if fq = 1 then t else if fq = 2 then t / 60 else if fq = 3 then t / 3600 else if fq = 4 then a0 else if fq = 5 then (a0 + 4 - wk) / 7 else if fq = 6 then 12 * a1 + a2 - 1 else if x.wn = [] then a1 else noY a0 wk) := Lib.hid (by rw [HP.out, perQ, hfq, hwk, A.out.f0, A.out.f1, A.out.f2])
  have e0 := A.out.f0
  have e1 := A.out.f1
  have e2 := A.out.f2
  have tb : -1000000000000 ≤ t ∧ t ≤ 1000000000000 := by omega
  have ab : -719162 ≤ a0 ∧ a0 < 2932897 := by rw [e0]; exact ⟨bd.1, bd.2.1⟩
  have a1b : 1 ≤ a1 ∧ a1 ≤ 9999 := by rw [e1]; exact bd.2.2.2
  have a2b : 1 ≤ a2 ∧ a2 ≤ 12 := by rw [e2]; exact ⟨dd.1, dd.2.1⟩
  have l0 := (RB.out.2 0 _ rfl).1
  have l12 := (RB.out.2 12 _ rfl).1
  have l15 := (RB.out.2 15 _ rfl).1
  have m0 := (MB.out.2 0 _ rfl).1
  have m1 := (MB.out.2 1 _ rfl).1
  have m2 := (MB.out.2 2 _ rfl).1
  rw [hfq] at l0 KF
  rw [hwk] at l15 KW
  obtain ⟨ab1, ab2⟩ := ab
  obtain ⟨a1b1, a1b2⟩ := a1b
  obtain ⟨a2b1, a2b2⟩ := a2b
  obtain ⟨kw1, kw2⟩ := KW
  have hq : fq = 1 ∨ fq = 2 ∨ fq = 3 ∨ fq = 4 ∨ fq = 5 ∨ fq = 6 ∨ fq = 7 := by omega
  have TB := Lib.hid tb
  clear KF e0 e1 e2 bd dd tb HB MF MB RB hfq hwk
  rcases hq with rfl | rfl | rfl | rfl | rfl | rfl | rfl
  · go_wp2
    go_ret2
    exact ⟨ret_2 (by rw [HP.out]; rfl) HC.out.symm, B.out⟩
  · go_wp2_with fail
    refine (quo_to t 60 _ (by have := TB.out; omega) (by decide)).mono ?_
    rintro e w3 ⟨rfl, rfl⟩
    go_wp2
    go_ret2
    exact ⟨ret_2 (by rw [HP.out]; rfl) HC.out.symm, B.out⟩
  · go_wp2_with fail
    refine (quo_to t 3600 _ (by have := TB.out; omega) (by decide)).mono ?_
    rintro e w3 ⟨rfl, rfl⟩
    go_wp2
    go_ret2
    exact ⟨ret_2 (by rw [HP.out]; rfl) HC.out.symm, B.out⟩
  · go_wp2
    go_ret2
    exact ⟨ret_2 (by rw [HP.out]; rfl) HC.out.symm, B.out⟩
  · go_wp2_with fail
    refine (quo_to (a0 + 4 - wk) 7 _ (by omega) (by decide)).mono ?_
    rintro e w3 ⟨rfl, rfl⟩
    go_wp2
    go_ret2
    exact ⟨ret_2 (by rw [HP.out]; rfl) HC.out.symm, B.out⟩
  · go_wp2
    go_ret2
    exact ⟨ret_2 (by rw [HP.out]; rfl) HC.out.symm, B.out⟩
  · by_cases hn : x.wn = []
    · have z0 : x.wn.length = 0 := by rw [hn]; rfl
      rw [z0] at l12
      have HP : Hid (p = a1) := Lib.hid (by rw [HP.out, if_pos hn]; rfl)
      clear hn z0
      go_wp2
      go_ret2
      exact ⟨ret_2 HP.out.symm HC.out.symm, B.out⟩
    · have z := len_pos' hn
      have z2 : ((x.wn.length : Int) == 0) = false := beq_eq_false_iff_ne.2 (by omega)
      have ok := wk_ok (n := a0) (k := wk) ⟨kw1, kw2⟩ ⟨ab1, ab2⟩
      have hE : noE a0 wk = 0 := by rw [noE, if_pos ⟨kw1, kw2⟩, if_pos ok]
      have HN := Lib.hid hE
      have HP : Hid (p = noY a0 wk) := Lib.hid (by rw [HP.out, if_neg hn]; rfl)
      clear ok hE hn
      go_wp2_with fail
      refine (Wk.no_any a0 wk _ (HA.out.stays B.out)).mono ?_
      rintro e w3 ⟨rfl, k⟩
      rw [HN.out]
      go_wp2
      go_ret2
      exact ⟨ret_2 HP.out.symm HC.out.symm, bstep B.out k⟩

theorem spA_bd {x : CV} {p : Int} (hk : 0 ≤ x.wk ∧ x.wk ≤ 6) (hp : -1099511627776 ≤ p ∧ p ≤ 1099511627776) : -1000000000000000000 ≤ spA x p ∧ spA x p ≤ 1000000000000000000 ∧ -1000000000000000000 ≤ spZ x p ∧ spZ x p ≤ 1000000000000000000 := by
  have a1 := pl_bd (p / 12) (p - 12 * (p / 12) + 1) 1
  have a2 := pl_bd ((p + 1) / 12) (p + 1 - 12 * ((p + 1) / 12) + 1) 1
  have a3 := pl_bd p 1 1
  have a4 := pl_bd (p + 1) 1 1
  have a5 := wf_bd p x.wk
  have a6 := wf_bd (p + 1) x.wk
  have u : spA x p = spA x p := rfl
  unfold spA spZ
  unfold mfV yfV
  refine ⟨?_, ?_, ?_, ?_⟩ <;> (repeat' split) <;> omega
set_option maxHeartbeats 12800000 in
set_option maxRecDepth 100000 in
theorem span_to (x : CV) (s6 s7 s8 s9 s10 s11 s12 s13 s14 : Value) (p f t c : Int) (w : World) (hA : Ahead w) (hu1 : -9223372036854775808 ≤ x.ua) (hu2 : x.ua ≤ 9223372036854775807) (hl : LisV w x s6 s7 s8 s9 s10 s11 s12 s13 s14) (hs : Small x) (hf : Hid (spF x p = f)) (ht : Hid (spT x p = t)) (hc : Hid (spE x p = c)) :
    Calls Tryz.prog 29 #[.agg #[.int .i64 x.fq, .int .i64 x.iv, .int .i64 x.ct, .bool x.un, .int .i64 x.ua, .bool x.ut, s6, s7, s8, s9, s10, s11, s12, s13, s14, .int .i64 x.wk], .int .i64 p] w fun e w' => e = .returned (.tuple #[.int .i64 f, .int .i64 t, .int .i64 c]) ∧ Below w.heap.size w w' := by
  obtain ⟨a12, c12, rfl⟩ := hl.h12.slice
  have HA := Lib.hid hA
  have L := Lib.hid hl
  have S := Lib.hid hs
  have HU := Lib.hid (And.intro hu1 hu2)
  obtain ⟨kb, hkb⟩ : ∃ c, ckB x = c := ⟨_, rfl⟩
  obtain ⟨ke, hke⟩ : ∃ c, ckE x = c := ⟨_, rfl⟩
  have HKE := Lib.hid hke
  have HKB := Lib.hid hkb
  have HE : Hid (ke = if kb = true then 0 else 21) := Lib.hid (by rw [← hke, ckE, hkb])
  obtain ⟨o, ho⟩ : ∃ c, spO x p = c := ⟨_, rfl⟩
  obtain ⟨A, hAA⟩ : ∃ c, spA x p = c := ⟨_, rfl⟩
  obtain ⟨Z, hZ⟩ : ∃ c, spZ x p = c := ⟨_, rfl⟩
  obtain ⟨q, hq⟩ : ∃ c, spQ x p = c := ⟨_, rfl⟩
  obtain ⟨o1, ho1⟩ : ∃ c, moO A = c := ⟨_, rfl⟩
  obtain ⟨o2, ho2⟩ : ∃ c, moO (Z - 1) = c := ⟨_, rfl⟩
  have HO := Lib.hid (And.intro hAA (And.intro hZ ho))
  have HO1 := Lib.hid ho1
  have HO2 := Lib.hid ho2
  have HQ : Hid (q = (!farB p && (o && (o1 && o2)))) := Lib.hid (by rw [← hq, spQ, ho, hAA, hZ, ho1, ho2])
  have HB : Hid (f = (if kb = true ∧ q = true then A else 0) ∧ t = (if kb = true ∧ q = true then Z - 1 else 0) ∧ c = (if kb = true then (if q = true then 0 else 23) else 21)) := Lib.hid ⟨by rw [← hf.out, spF, hkb, hq, hAA], by rw [← ht.out, spT, hkb, hq, hZ], by rw [← hc.out, spE, hkb, hq]⟩
  clear hA hl hs hu1 hu2 hkb hke ho hf ht hc hq ho1 ho2
  go_enter Tryz.func29, Tryz.ntmps29
  go_upto_region 0 with fail
  go_cut [2] (fun p wz => p = .pointer (some ⟨w.heap.size, 0, none⟩) ∧ Hid (Cs w.heap.size wz [.int .i64 x.fq, .int .i64 x.iv, .int .i64 x.ct, .bool x.un, .int .i64 x.ua, .bool x.ut, s6, s7, s8, s9, s10, s11, .slice a12 x.wn.length c12, s13, s14, .int .i64 x.wk]) ∧ Hid (Below w.heap.size w wz))
  case first =>
    go_wp2
    go_meet
    exact ⟨rfl, Lib.hid (Cs.new w _ _), Lib.hid ((Below.refl _ _).alloc (Nat.le_refl _) _)⟩
  case rest =>
  obtain ⟨w1, rfl⟩ : ∃ x : World, x = wc := ⟨_, rfl⟩
  obtain ⟨rfl, RB, B⟩ := hcut
  cases kb with
  | false =>
    obtain rfl : ke = 21 := by rw [HE.out]; rfl
    go_wp2_with (refine ld16 RB.out rfl (by rfl) (by rfl) (by rfl) ?_; intro K hK; go_simp)
    refine (Rck.ck_to _ _ _ _ _ _ _ _ _ x _ _ (HA.out.stays B.out) HU.out.1 HU.out.2 (Lib.hid (L.out.below B.out)) S HKE).mono ?_
    rintro e w2 ⟨rfl, k⟩
    go_wp2
    go_ret3
    exact ⟨ret_3 (by rw [HB.out.1]; rfl) (by rw [HB.out.2.1]; rfl) (by rw [HB.out.2.2]; rfl), bstep B.out k⟩
  | true =>
  obtain rfl : ke = 0 := by rw [HE.out]; rfl
  go_upto_region 1 with fail
  go_cut [7] (fun v wz => v = .int .i64 0 ∧ Hid (Cs w.heap.size wz [.int .i64 x.fq, .int .i64 x.iv, .int .i64 x.ct, .bool x.un, .int .i64 x.ua, .bool x.ut, s6, s7, s8, s9, s10, s11, .slice a12 x.wn.length c12, s13, s14, .int .i64 x.wk]) ∧ Hid (Below w.heap.size w wz))
  case first =>
    go_wp2_with (refine ld16 RB.out rfl (by rfl) (by rfl) (by rfl) ?_; intro K hK; go_simp)
    refine (Rck.ck_to _ _ _ _ _ _ _ _ _ x _ _ (HA.out.stays B.out) HU.out.1 HU.out.2 (Lib.hid (L.out.below B.out)) S HKE).mono ?_
    rintro e w2 ⟨rfl, k⟩
    have RB := Lib.hid (RB.out.below k)
    have B := Lib.hid (bstep B.out k)
    clear k
    go_wp2
    go_meet
    exact ⟨rfl, RB, B⟩
  case rest =>
  obtain ⟨w2, rfl⟩ : ∃ x : World, x = wc := ⟨_, rfl⟩
  clear RB B
  obtain ⟨rfl, RB, B⟩ := hcut
  have KF := ck_fq HKB.out
  have KW := ck_wk HKB.out
  by_cases g1 : p < -1099511627776
  · have hq : q = false := by rw [HQ.out, farB, decide_eq_true (Or.inl g1)]; rfl
    subst hq
    clear hAA hZ
    go_wp2
    go_ret3
    exact ⟨ret_3 (by rw [HB.out.1]; rfl) (by rw [HB.out.2.1]; rfl) (by rw [HB.out.2.2]; rfl), B.out⟩
  by_cases g2 : 1099511627776 < p
  · have hq : q = false := by rw [HQ.out, farB, decide_eq_true (Or.inr g2)]; rfl
    subst hq
    clear hAA hZ
    go_wp2
    go_ret3
    exact ⟨ret_3 (by rw [HB.out.1]; rfl) (by rw [HB.out.2.1]; rfl) (by rw [HB.out.2.2]; rfl), B.out⟩
  have pb : -1099511627776 ≤ p ∧ p ≤ 1099511627776 := by omega
  have bd := spA_bd KW pb
  rw [hAA, hZ] at bd
  have HQ : Hid (q = (o && (o1 && o2))) := Lib.hid (by rw [HQ.out, farB, decide_eq_false (by omega)]; rfl)
  have BD := Lib.hid bd
  obtain ⟨bd1, bd2, bd3, bd4⟩ := bd
  have PB := Lib.hid pb
  have KFW := Lib.hid (And.intro KF KW)
  clear hAA hZ pb KF KW
  go_upto_region 6 with fail
  go_cut [4, 8, 9] (fun a b v wz => a = .int .i64 A ∧ b = .int .i64 Z ∧ v = .bool o ∧ Hid (Below w.heap.size w wz))
  case first =>
    go_wp2_with (refine ld16 RB.out rfl (by rfl) (by rfl) (by rfl) ?_; intro K hK; go_simp)
    refine (sp_to x _ _ _ _ _ _ _ _ _ p _ (HA.out.stays B.out) KFW.out.1 KFW.out.2 PB.out (L.out.below B.out).h12).mono ?_
    rintro e w3 ⟨rfl, k⟩
    rw [HO.out.1, HO.out.2.1, HO.out.2.2]
    go_wp2
    go_meet
    exact ⟨rfl, rfl, rfl, Lib.hid (bstep B.out k)⟩
  case rest =>
  obtain ⟨w2, rfl⟩ : ∃ x : World, x = wc := ⟨_, rfl⟩
  clear RB B
  obtain ⟨rfl, rfl, rfl, B⟩ := hcut
  cases o with
  | false =>
    have hq : q = false := HQ.out
    subst hq
    go_wp2
    go_ret3
    exact ⟨ret_3 (by rw [HB.out.1]; rfl) (by rw [HB.out.2.1]; rfl) (by rw [HB.out.2.2]; rfl), B.out⟩
  | true =>
  go_upto_region 9 with fail
  go_cut [9] (fun v wz => v = .bool o1 ∧ Hid (Below w.heap.size w wz))
  case first =>
    go_wp2_with fail
    refine (mo_any A o1 _ (HA.out.stays B.out) (by have := BD.out; omega) (by have := BD.out; omega) HO1).mono ?_
    rintro e w3 ⟨a0, a1, a2, a3, a4, a5, a6, a7, rfl, MF, k⟩
    go_wp2
    go_meet
    exact ⟨rfl, Lib.hid (bstep B.out k)⟩
  case rest =>
  obtain ⟨w2, rfl⟩ : ∃ x : World, x = wc := ⟨_, rfl⟩
  clear B
  obtain ⟨rfl, B⟩ := hcut
  go_upto_region 10 with fail
  go_cut [11] (fun v wz => v = .bool o2 ∧ Hid (Below w.heap.size w wz))
  case first =>
    go_wp2_with fail
    refine (mo_any (Z - 1) o2 _ (HA.out.stays B.out) (by have := BD.out; omega) (by have := BD.out; omega) HO2).mono ?_
    rintro e w3 ⟨a0, a1, a2, a3, a4, a5, a6, a7, rfl, MF, k⟩
    have B := Lib.hid (bstep B.out k)
    clear k
    go_wp2
    go_meet
    exact ⟨rfl, Lib.hid (B.out.alloc B.out.size _)⟩
  case rest =>
  obtain ⟨w2, rfl⟩ : ∃ x : World, x = wc := ⟨_, rfl⟩
  clear B
  obtain ⟨rfl, B⟩ := hcut
  cases o1 with
  | false =>
    have hq : q = false := HQ.out
    subst hq
    go_wp2
    go_ret3
    exact ⟨ret_3 (by rw [HB.out.1]; rfl) (by rw [HB.out.2.1]; rfl) (by rw [HB.out.2.2]; rfl), B.out⟩
  | true =>
  cases o2 with
  | false =>
    have hq : q = false := HQ.out
    subst hq
    go_wp2
    go_ret3
    exact ⟨ret_3 (by rw [HB.out.1]; rfl) (by rw [HB.out.2.1]; rfl) (by rw [HB.out.2.2]; rfl), B.out⟩
  | true =>
    have hq : q = true := HQ.out
    subst hq
    go_wp2
    go_ret3
    exact ⟨ret_3 (by rw [HB.out.1]; rfl) (by rw [HB.out.2.1]; rfl) (by rw [HB.out.2.2]; rfl), B.out⟩
end Fil
end Go.Proofs.YtpbbnkgfheafpaaGreatDoor
/-
  Package solsticelaw22: the waking rule (Fridays): its period, its span, three times.
-/
namespace Go.Proofs.YtpbbnkgfheafpaaGreatDoor
open Go.RowKit
namespace Fil
open Rcv (CV LisV IntV DayV)
open Rck (ckE ckB Small)
open Civ (Ahead)
open Cel
def wkR : CV := ⟨5, 1, 0, false, 0, false, [], [], [], [(0, 5)], [], [], [], [], [], 1⟩
theorem wkR_small : Small wkR := ⟨by decide, by decide, by decide, by decide, by decide, by decide, by decide, by decide, by decide⟩
def nilS : Value := .slice none 0 0
theorem wkR_lis {w : World} {g : Nat} (h : Cs g w [.int .i64 0, .int .i64 5]) : LisV w wkR (.slice none 0 0) (.slice none 0 0) (.slice none 0 0) (.slice (some ⟨g, 0, none⟩) 1 1) (.slice none 0 0) (.slice none 0 0) (.slice none 0 0) (.slice none 0 0) (.slice none 0 0) :=
  ⟨IntV.none w, IntV.none w, IntV.none w, Rcv.day_one h, IntV.none w, IntV.none w, IntV.none w, IntV.none w, IntV.none w⟩
theorem wkR_per : perV wkR 0 = 0 ∧ perE wkR 0 = 0 := by decide +kernel
theorem wkR_span : spF wkR 0 = -259200 ∧ spT wkR 0 = 345599 ∧ spE wkR 0 = 0 := by decide +kernel
theorem wkR_lets : letP wkR 0 86400 = true ∧ letP wkR 0 0 = false ∧ letP wkR 0 86401 = false := by decide +kernel
theorem wkR_nth {w : World} {s6 s7 s8 s9 s10 s11 s12 s13 s14 : Value} : NthC wkR s6 s7 s8 s9 s10 s11 s12 s13 s14 w := NthC.none (fun q hq => by
  have : q = (0, 5) := by simpa [wkR] using hq
  rw [this])
end Fil
end Go.Proofs.YtpbbnkgfheafpaaGreatDoor
/-
  solsticelaw20.Some: a time of the years 1 to 9999.
-/
namespace Go.Proofs.YtpbbnkgfheafpaaGreatDoor
open Go.RowKit
namespace Fil
open Civ (Ahead)
open Cel
def vsm (t : Int) : Int := -62135596800 + IntKind.u64.wrap t % 315537897600
theorem vsm_bd (t : Int) : -62135596800 ≤ vsm t ∧ vsm t < 253402300800 := by unfold vsm; omega
theorem n_first : Cal.num 1 1 1 = -719162 := by decide +kernel
theorem n_last : Cal.num 10000 1 1 = 2932897 := by decide +kernel
theorem vsm_mo (t : Int) : moO (vsm t) = true := by
  have := vsm_bd t
  exact mo_of (by omega) (by omega)
theorem ret_i1 {a a' : Int} (h : a = a') : Ending.returned (.int .i64 a) = .returned (.int .i64 a') := by rw [h]
end Fil
end Go.Proofs.YtpbbnkgfheafpaaGreatDoor
