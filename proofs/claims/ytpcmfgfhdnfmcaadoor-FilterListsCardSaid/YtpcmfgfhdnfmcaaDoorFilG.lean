/-
  Package filter: letsNumbers.
-/
import Derived.Test.YtpcmfgfhdnfmcaaDoorFilF
namespace Go.Proofs.YtpcmfgfhdnfmcaaDoor
open Go.RowKit
namespace Fil
open Rcv (CV LisV IntV DayV)
open Rck (ckE ckB Small)
open Civ (numV numE dY dM dD dnE ydV Ahead)
open Wk (noY noN noE wkV wkE nthV nthB)
open Cel
theorem quiet_r {P : Program} {f : FuncId} {args : Array Value} {w : World} {n : Nat} {v : Value}
    (h : Calls P f args (w.drewN n) fun e w' => e = .returned v ∧ w' = w.drewN n) : Calls P f args (w.drewN n) fun e w' => e = .returned v ∧ ∃ m, w' = w.drewN m :=
  h.mono fun _ _ ⟨he, hm⟩ => ⟨he, n, hm⟩
theorem ew_b (v : Value) (L : List Int) (n m : Int) (b : Bool) (w : World) (hv : IntV w v L) (hL : L.length ≤ 1000000) (hn : -1000000 ≤ n ∧ n ≤ 1000000) (hm : -1000000 ≤ m ∧ m ≤ 1000000) (hb : Hid (ewB L n m = b)) :
    Calls Tryd.prog 68 #[v, .int .i64 n, .int .i64 m] w fun e w' => e = .returned (.bool b) ∧ w' = w := by
  rw [← hb.out]
  exact ew_to v L n m w hv hL hn hm
theorem len_v (y m l : Int) (w : World) (h : Hid (Cal.mlen y m = l)) : Calls Tryd.prog 69 #[.int .i64 y, .int .i64 m] w fun e w' => e = .returned (.int .i64 l) ∧ w' = w := by
  rw [← h.out]
  exact Civ.len_same y m w
theorem yl_v (y l : Int) (w : World) (h : Hid (ylen y = l)) : Calls Tryd.prog 70 #[.int .i64 y] w fun e w' => e = .returned (.int .i64 l) ∧ w' = w := by
  rw [← h.out]
  exact (yl_to y w).mono fun _ _ ⟨he, hm⟩ => ⟨he, hm.symm⟩
set_option maxHeartbeats 6400000 in
set_option maxRecDepth 100000 in
theorem ln_to (x : CV) (s6 s7 s8 s9 s10 s11 s12 s13 s14 : Value) (n0 n1 n2 n3 n4 n5 n6 n7 : Int) (b : Bool) (w : World) (hA : Ahead w) (hl : LisV w x s6 s7 s8 s9 s10 s11 s12 s13 s14) (hs : Small x) (hk : 0 ≤ x.wk ∧ x.wk ≤ 6) (hn : -719162 ≤ n0 ∧ n0 < 2932897) (h1 : Hid (dY n0 = n1)) (h2 : Hid (dM n0 = n2)) (h3 : Hid (dD n0 = n3)) (hd : -1000000 ≤ n3 ∧ n3 ≤ 1000000) (hb : Hid (lnB x n0 = b)) :
    Calls Tryd.prog 37 #[.agg #[.int .i64 x.fq, .int .i64 x.iv, .int .i64 x.ct, .bool x.un, .int .i64 x.ua, .bool x.ut, s6, s7, s8, s9, s10, s11, s12, s13, s14, .int .i64 x.wk], .agg #[.int .i64 n0, .int .i64 n1, .int .i64 n2, .int .i64 n3, .int .i64 n4, .int .i64 n5, .int .i64 n6, .int .i64 n7]] w fun e w' => e = .returned (.bool b) ∧ Below w.heap.size w w' := by
  obtain ⟨a10, c10, rfl⟩ := hl.h10.slice
  obtain ⟨a11, c11, rfl⟩ := hl.h11.slice
  obtain ⟨a12, c12, rfl⟩ := hl.h12.slice
  obtain ⟨a13, c13, rfl⟩ := hl.h13.slice
  have hs := Lib.hid hs
  have HA := Lib.hid hA
  have L := Lib.hid hl
  have K := Lib.hid hk
  obtain ⟨Ln, hLn⟩ : ∃ l, Cal.mlen n1 n2 = l := ⟨_, rfl⟩
  obtain ⟨Yl, hYl⟩ : ∃ l, ylen n1 = l := ⟨_, rfl⟩
  obtain ⟨Yd, hYd⟩ : ∃ l, ydV n0 = l := ⟨_, rfl⟩
  obtain ⟨b1, q1⟩ : ∃ b, x.mo.contains n2 = b := ⟨_, rfl⟩
  obtain ⟨b2, q2⟩ : ∃ b, ewB x.md n3 Ln = b := ⟨_, rfl⟩
  obtain ⟨b3, q3⟩ : ∃ b, ewB x.yd Yd Yl = b := ⟨_, rfl⟩
  obtain ⟨b4, q4⟩ : ∃ b, lwB x n0 = b := ⟨_, rfl⟩
  have ln := Cal.mlen_bd n1 n2
  rw [hLn] at ln
  have lb : -1000000 ≤ Ln ∧ Ln ≤ 1000000 := by omega
  have yb : -1000000 ≤ Yl ∧ Yl ≤ 1000000 := by rw [← hYl, ylen]; split <;> omega
  have db : -1000000 ≤ Yd ∧ Yd ≤ 1000000 := by
    rw [← hYd, ydV]
    split
    · rename_i h
      obtain ⟨a, b, _, _⟩ := Cal.yr_spec h.1 h.2
      have := Cal.ny_succ (Cal.yr n0)
      have := Cal.lp_01 (Cal.yr n0)
      omega
    · omega
  have HE : Hid (dnE n0 = 0) := Lib.hid (by rw [dnE, if_pos (by omega)])
  have HLn := Lib.hid hLn
  have HYl := Lib.hid hYl
  have HYd := Lib.hid hYd
  have Q1 := Lib.hid q1
  have Q2 := Lib.hid q2
  have Q3 := Lib.hid q3
  have Q4 := Lib.hid q4
  obtain ⟨c1, p1⟩ : ∃ c, (decide (x.mo = []) || b1) = c := ⟨_, rfl⟩
  obtain ⟨c2, p2⟩ : ∃ c, (decide (x.md = []) || b2) = c := ⟨_, rfl⟩
  obtain ⟨c3, p3⟩ : ∃ c, (decide (x.yd = []) || b3) = c := ⟨_, rfl⟩
  obtain ⟨c4, p4⟩ : ∃ c, (decide (x.wn = []) || b4) = c := ⟨_, rfl⟩
  have HB : Hid (b = (c1 && (c2 && (c3 && c4)))) := Lib.hid (by
    rw [← hb.out, ← p1, ← p2, ← p3, ← p4, ← q1, ← q2, ← q3, ← q4, ← hLn, ← hYl, ← hYd, ← h1.out, ← h2.out, ← h3.out]
    rfl)
  have P1 := Lib.hid p1
  have P2 := Lib.hid p2
  have P3 := Lib.hid p3
  have P4 := Lib.hid p4
  clear hA hl hb q1 q2 q3 q4 p1 p2 p3 p4 hLn hYl hYd ln h1 h2 h3 hk
  go_enter Tryd.func37, Tryd.ntmps37
  go_upto_region 0 with fail
  go_cut [2, 3] (fun p q wz => p = .pointer (some ⟨w.heap.size, 0, none⟩) ∧ q = .pointer (some ⟨w.heap.size + 1, 0, none⟩) ∧ Hid (Cs (w.heap.size) wz [.int .i64 x.fq, .int .i64 x.iv, .int .i64 x.ct, .bool x.un, .int .i64 x.ua, .bool x.ut, s6, s7, s8, s9, .slice a10 x.md.length c10, .slice a11 x.yd.length c11, .slice a12 x.wn.length c12, .slice a13 x.mo.length c13, s14, .int .i64 x.wk]) ∧ Hid (Cs (w.heap.size + 1) wz [.int .i64 n0, .int .i64 n1, .int .i64 n2, .int .i64 n3, .int .i64 n4, .int .i64 n5, .int .i64 n6, .int .i64 n7]) ∧ Hid (Below w.heap.size w wz))
  case first =>
    go_wp2
    go_meet
    exact ⟨rfl, rfl, Lib.hid ((Cs.new w _ _).alloc _), Lib.hid (cs_at (by simp) _ _), Lib.hid (((Below.refl _ _).alloc (Nat.le_refl _) _).alloc (by simp) _)⟩
  case rest =>
  obtain ⟨w1, rfl⟩ : ∃ x : World, x = wc := ⟨_, rfl⟩
  obtain ⟨rfl, rfl, RB, MB, B⟩ := hcut
  go_upto_region 1 with fail
  go_cut [19] (fun v wz => v = .bool (!c1) ∧ Hid (Cs w.heap.size wz [.int .i64 x.fq, .int .i64 x.iv, .int .i64 x.ct, .bool x.un, .int .i64 x.ua, .bool x.ut, s6, s7, s8, s9, .slice a10 x.md.length c10, .slice a11 x.yd.length c11, .slice a12 x.wn.length c12, .slice a13 x.mo.length c13, s14, .int .i64 x.wk]) ∧ Hid (Cs (w.heap.size + 1) wz [.int .i64 n0, .int .i64 n1, .int .i64 n2, .int .i64 n3, .int .i64 n4, .int .i64 n5, .int .i64 n6, .int .i64 n7]) ∧ Hid (Below w.heap.size w wz))
  case first =>
    have l13 := (RB.out.2 13 _ rfl).1
    have k2 := (MB.out.2 2 _ rfl).1
    by_cases he : x.mo = []
    · have z0 : x.mo.length = 0 := by rw [he]; rfl
      obtain rfl : c1 = true := by rw [← P1.out, he]; rfl
      rw [z0] at l13
      go_wp2
      go_meet
      exact ⟨rfl, RB, MB, B⟩
    · have z0 : 0 < (x.mo.length : Int) := by
        have := mt List.length_eq_zero_iff.1 he
        omega
      obtain rfl : c1 = b1 := by rw [← P1.out, decide_eq_false he, Bool.false_or]
      go_wp2_with fail
      refine (cont_to _ x.mo n2 _ ((L.out.below B.out).h13) hs.out.mo).mono ?_
      rintro e w2 ⟨rfl, rfl⟩
      rw [Q1.out]
      go_wp2
      go_meet
      exact ⟨rfl, RB, MB, B⟩
  case rest =>
  obtain ⟨w2, rfl⟩ : ∃ x : World, x = wc := ⟨_, rfl⟩
  clear RB MB B
  obtain ⟨rfl, RB, MB, B⟩ := hcut
  cases c1 with
  | false =>
    go_wp2
    go_ret
    exact ⟨ret_b (by rw [HB.out]; rfl), B.out⟩
  | true =>
  go_upto_region 3 with fail
  go_cut [39] (fun v wz => v = .bool (!c2) ∧ Hid (Cs w.heap.size wz [.int .i64 x.fq, .int .i64 x.iv, .int .i64 x.ct, .bool x.un, .int .i64 x.ua, .bool x.ut, s6, s7, s8, s9, .slice a10 x.md.length c10, .slice a11 x.yd.length c11, .slice a12 x.wn.length c12, .slice a13 x.mo.length c13, s14, .int .i64 x.wk]) ∧ Hid (Cs (w.heap.size + 1) wz [.int .i64 n0, .int .i64 n1, .int .i64 n2, .int .i64 n3, .int .i64 n4, .int .i64 n5, .int .i64 n6, .int .i64 n7]) ∧ Hid (Below w.heap.size w wz))
  case first =>
    have l10 := (RB.out.2 10 _ rfl).1
    have k1 := (MB.out.2 1 _ rfl).1
    have k2 := (MB.out.2 2 _ rfl).1
    have k3 := (MB.out.2 3 _ rfl).1
    by_cases he : x.md = []
    · have z0 : x.md.length = 0 := by rw [he]; rfl
      have g0 : decide (0 < x.md.length) = false := by rw [z0]; rfl
      obtain rfl : c2 = true := by rw [← P2.out, he]; rfl
      go_quiet (fail)
      go_wp2
      go_meet
      exact ⟨rfl, Lib.hid (RB.out.drewN _), Lib.hid (MB.out.drewN _), Lib.hid (bdrew B.out _)⟩
    · have z0 : 0 < (x.md.length : Int) := by
        have := mt List.length_eq_zero_iff.1 he
        omega
      have g0 : decide (0 < x.md.length) = true := decide_eq_true (by omega)
      obtain rfl : c2 = b2 := by rw [← P2.out, decide_eq_false he, Bool.false_or]
      have V := Lib.hid (L.out.below B.out).h10
      go_quiet (first | (go_at_call 69; exact quiet_r (len_v n1 n2 Ln _ HLn)) | (go_at_call 68; exact quiet_r (ew_b _ x.md n3 Ln _ _ (V.out.drew _) hs.out.md hd lb Q2)))
      go_wp2
      go_meet
      exact ⟨rfl, Lib.hid (RB.out.drewN _), Lib.hid (MB.out.drewN _), Lib.hid (bdrew B.out _)⟩
  case rest =>
  obtain ⟨w2, rfl⟩ : ∃ x : World, x = wc := ⟨_, rfl⟩
  clear RB MB B
  obtain ⟨rfl, RB, MB, B⟩ := hcut
  cases c2 with
  | false =>
    go_wp2
    go_ret
    exact ⟨ret_b (by rw [HB.out]; rfl), B.out⟩
  | true =>
  by_cases he : x.yd = []
  · obtain rfl : c3 = true := by rw [← P3.out, he]; rfl
    have l11 := (RB.out.2 11 _ rfl).1
    have y0 : x.yd.length = 0 := by rw [he]; rfl
    rw [y0] at l11
    go_upto_region 5 with fail
    go_cut [43] (fun v wz => v = .bool false ∧ Hid (Cs w.heap.size wz [.int .i64 x.fq, .int .i64 x.iv, .int .i64 x.ct, .bool x.un, .int .i64 x.ua, .bool x.ut, s6, s7, s8, s9, .slice a10 x.md.length c10, .slice a11 x.yd.length c11, .slice a12 x.wn.length c12, .slice a13 x.mo.length c13, s14, .int .i64 x.wk]) ∧ Hid (Cs (w.heap.size + 1) wz [.int .i64 n0, .int .i64 n1, .int .i64 n2, .int .i64 n3, .int .i64 n4, .int .i64 n5, .int .i64 n6, .int .i64 n7]) ∧ Hid (Below w.heap.size w wz))
    case first =>
      go_wp2
      go_meet
      exact ⟨rfl, RB, MB, B⟩
    case rest =>
    clear l11 y0 he
    obtain ⟨w2, rfl⟩ : ∃ x : World, x = wc := ⟨_, rfl⟩
    clear RB MB B
    obtain ⟨rfl, RB, MB, B⟩ := hcut
    have l12 := (RB.out.2 12 _ rfl).1
    by_cases he4 : x.wn = []
    · have z0 : x.wn.length = 0 := by rw [he4]; rfl
      obtain rfl : c4 = true := by rw [← P4.out, he4]; rfl
      rw [z0] at l12
      go_wp2
      go_ret
      exact ⟨ret_b (by rw [HB.out]; rfl), B.out⟩
    · have z1 : ¬ x.wn.length = 0 := fun h => he4 (List.length_eq_zero_iff.1 h)
      have z2 : ((x.wn.length : Int) == 0) = false := beq_eq_false_iff_ne.2 (by omega)
      obtain rfl : c4 = b4 := by rw [← P4.out, decide_eq_false he4, Bool.false_or]
      have l0 := (RB.out.2 0 _ rfl).1
      have l1 := (RB.out.2 1 _ rfl).1
      have l2 := (RB.out.2 2 _ rfl).1
      have l3 := (RB.out.2 3 _ rfl).1
      have l4 := (RB.out.2 4 _ rfl).1
      have l5 := (RB.out.2 5 _ rfl).1
      have l6 := (RB.out.2 6 _ rfl).1
      have l7 := (RB.out.2 7 _ rfl).1
      have l8 := (RB.out.2 8 _ rfl).1
      have l9 := (RB.out.2 9 _ rfl).1
      have l10 := (RB.out.2 10 _ rfl).1
      have l11 := (RB.out.2 11 _ rfl).1
      have l13 := (RB.out.2 13 _ rfl).1
      have l14 := (RB.out.2 14 _ rfl).1
      have l15 := (RB.out.2 15 _ rfl).1
      have m0 := (MB.out.2 0 _ rfl).1
      have m1 := (MB.out.2 1 _ rfl).1
      have m2 := (MB.out.2 2 _ rfl).1
      have m3 := (MB.out.2 3 _ rfl).1
      have m4 := (MB.out.2 4 _ rfl).1
      have m5 := (MB.out.2 5 _ rfl).1
      have m6 := (MB.out.2 6 _ rfl).1
      have m7 := (MB.out.2 7 _ rfl).1
      go_wp2_with fail
      refine (lw_to x _ _ _ _ _ _ _ _ _ n0 n1 n2 n3 n4 n5 n6 n7 c4 _ (HA.out.stays B.out) (L.out.below B.out) hs.out K.out hn Q4).mono ?_
      rintro e w4 ⟨rfl, k⟩
      go_wp2
      go_ret
      exact ⟨ret_b (by rw [HB.out]; rfl), bstep B.out k⟩
  · obtain rfl : c3 = b3 := by rw [← P3.out, decide_eq_false he, Bool.false_or]
    have y0 : 0 < (x.yd.length : Int) := by
      have := mt List.length_eq_zero_iff.1 he
      omega
    have l11 := (RB.out.2 11 _ rfl).1
    go_upto_region 6 with fail
    go_cut [5, 6] (fun v u wz => v = .int .i64 Yd ∧ u = .int .i64 0 ∧ Hid (Cs w.heap.size wz [.int .i64 x.fq, .int .i64 x.iv, .int .i64 x.ct, .bool x.un, .int .i64 x.ua, .bool x.ut, s6, s7, s8, s9, .slice a10 x.md.length c10, .slice a11 x.yd.length c11, .slice a12 x.wn.length c12, .slice a13 x.mo.length c13, s14, .int .i64 x.wk]) ∧ Hid (Cs (w.heap.size + 1) wz [.int .i64 n0, .int .i64 n1, .int .i64 n2, .int .i64 n3, .int .i64 n4, .int .i64 n5, .int .i64 n6, .int .i64 n7]) ∧ Hid (Below w.heap.size w wz))
    case first =>
      have k0 := (MB.out.2 0 _ rfl).1
      go_wp2_with fail
      refine (Civ.yearDay_any n0 _).mono ?_
      rintro e w3 ⟨rfl, rfl⟩
      rw [HYd.out, HE.out]
      go_wp2
      go_meet
      exact ⟨rfl, rfl, RB, MB, B⟩
    case rest =>
    obtain ⟨w2, rfl⟩ : ∃ x : World, x = wc := ⟨_, rfl⟩
    clear RB MB B
    obtain ⟨rfl, rfl, RB, MB, B⟩ := hcut
    go_upto_region 7 with fail
    go_cut [62] (fun v wz => v = .bool (!c3) ∧ Hid (Cs w.heap.size wz [.int .i64 x.fq, .int .i64 x.iv, .int .i64 x.ct, .bool x.un, .int .i64 x.ua, .bool x.ut, s6, s7, s8, s9, .slice a10 x.md.length c10, .slice a11 x.yd.length c11, .slice a12 x.wn.length c12, .slice a13 x.mo.length c13, s14, .int .i64 x.wk]) ∧ Hid (Cs (w.heap.size + 1) wz [.int .i64 n0, .int .i64 n1, .int .i64 n2, .int .i64 n3, .int .i64 n4, .int .i64 n5, .int .i64 n6, .int .i64 n7]) ∧ Hid (Below w.heap.size w wz))
    case first =>
      have l11 := (RB.out.2 11 _ rfl).1
      have k1 := (MB.out.2 1 _ rfl).1
      have V := Lib.hid (L.out.below B.out).h11
      go_quiet (first | (go_at_call 70; exact quiet_r (yl_v n1 Yl _ HYl)) | (go_at_call 68; exact quiet_r (ew_b _ x.yd Yd Yl _ _ (V.out.drew _) hs.out.yd db yb Q3)))
      go_wp2
      go_meet
      exact ⟨rfl, Lib.hid (RB.out.drewN _), Lib.hid (MB.out.drewN _), Lib.hid (bdrew B.out _)⟩
    case rest =>
    obtain ⟨w2, rfl⟩ : ∃ x : World, x = wc := ⟨_, rfl⟩
    clear RB MB B
    obtain ⟨rfl, RB, MB, B⟩ := hcut
    cases c3 with
    | false =>
      go_wp2
      go_ret
      exact ⟨ret_b (by rw [HB.out]; rfl), B.out⟩
    | true =>
    have l12 := (RB.out.2 12 _ rfl).1
    by_cases he4 : x.wn = []
    · have z0 : x.wn.length = 0 := by rw [he4]; rfl
      obtain rfl : c4 = true := by rw [← P4.out, he4]; rfl
      rw [z0] at l12
      go_wp2
      go_ret
      exact ⟨ret_b (by rw [HB.out]; rfl), B.out⟩
    · have z1 : ¬ x.wn.length = 0 := fun h => he4 (List.length_eq_zero_iff.1 h)
      have z2 : ((x.wn.length : Int) == 0) = false := beq_eq_false_iff_ne.2 (by omega)
      obtain rfl : c4 = b4 := by rw [← P4.out, decide_eq_false he4, Bool.false_or]
      have l0 := (RB.out.2 0 _ rfl).1
      have l1 := (RB.out.2 1 _ rfl).1
      have l2 := (RB.out.2 2 _ rfl).1
      have l3 := (RB.out.2 3 _ rfl).1
      have l4 := (RB.out.2 4 _ rfl).1
      have l5 := (RB.out.2 5 _ rfl).1
      have l6 := (RB.out.2 6 _ rfl).1
      have l7 := (RB.out.2 7 _ rfl).1
      have l8 := (RB.out.2 8 _ rfl).1
      have l9 := (RB.out.2 9 _ rfl).1
      have l10 := (RB.out.2 10 _ rfl).1
      have l11 := (RB.out.2 11 _ rfl).1
      have l13 := (RB.out.2 13 _ rfl).1
      have l14 := (RB.out.2 14 _ rfl).1
      have l15 := (RB.out.2 15 _ rfl).1
      have m0 := (MB.out.2 0 _ rfl).1
      have m1 := (MB.out.2 1 _ rfl).1
      have m2 := (MB.out.2 2 _ rfl).1
      have m3 := (MB.out.2 3 _ rfl).1
      have m4 := (MB.out.2 4 _ rfl).1
      have m5 := (MB.out.2 5 _ rfl).1
      have m6 := (MB.out.2 6 _ rfl).1
      have m7 := (MB.out.2 7 _ rfl).1
      go_wp2_with fail
      refine (lw_to x _ _ _ _ _ _ _ _ _ n0 n1 n2 n3 n4 n5 n6 n7 c4 _ (HA.out.stays B.out) (L.out.below B.out) hs.out K.out hn Q4).mono ?_
      rintro e w4 ⟨rfl, k⟩
      go_wp2
      go_ret
      exact ⟨ret_b (by rw [HB.out]; rfl), bstep B.out k⟩
end Fil
end Go.Proofs.YtpcmfgfhdnfmcaaDoor
