/-
  Package filter: letsWeekdays, letsLikeStart.
-/
import Derived.Test.YtpcmfgfhdnfmcaaDoorFilG
namespace Go.Proofs.YtpcmfgfhdnfmcaaDoor
open Go.RowKit
namespace Fil
open Rcv (CV LisV IntV DayV)
open Rck (ckE ckB Small)
open Civ (numV numE dY dM dD dnE ydV Ahead)
open Wk (noY noN noE wkV wkE nthV nthB)
open Cel
theorem any_next {L : List (Int × Int)} {f : Int × Int → Bool} {k : Nat} (hk : k < L.length) (h : (L.take k).any f = false) (h1 : f L[k] = false) : (L.take (k + 1)).any f = false := by
  rw [List.take_succ_eq_append_getElem hk, List.any_append, h]
  simp [h1]
theorem any_hit {L : List (Int × Int)} {f : Int × Int → Bool} {k : Nat} (hk : k < L.length) (h1 : f L[k] = true) : L.any f = true := List.any_eq_true.2 ⟨_, List.getElem_mem hk, h1⟩
set_option maxHeartbeats 6400000 in
set_option maxRecDepth 100000 in
theorem ld_to (x : CV) (s6 s7 s8 s9 s10 s11 s12 s13 s14 : Value) (n0 n1 n2 n3 n4 n5 n6 n7 : Int) (b : Bool) (w : World) (hl : LisV w x s6 s7 s8 s9 s10 s11 s12 s13 s14) (hs : x.dy.length ≤ 1000000) (h4 : Cal.wday n0 = n4) (hb : Hid (ldB x n0 = b))
    (hN : ∀ q ∈ x.dy, q.1 ≠ 0 → ∀ W, Below w.heap.size w W → Calls Tryd.prog 72 #[.agg #[.int .i64 x.fq, .int .i64 x.iv, .int .i64 x.ct, .bool x.un, .int .i64 x.ua, .bool x.ut, s6, s7, s8, s9, s10, s11, s12, s13, s14, .int .i64 x.wk], .agg #[.int .i64 q.1, .int .i64 q.2], .agg #[.int .i64 n0, .int .i64 n1, .int .i64 n2, .int .i64 n3, .int .i64 n4, .int .i64 n5, .int .i64 n6, .int .i64 n7]] W fun e W' => e = .returned (.bool (nthIs x n0 q)) ∧ Below W.heap.size W W') :
    Calls Tryd.prog 38 #[.agg #[.int .i64 x.fq, .int .i64 x.iv, .int .i64 x.ct, .bool x.un, .int .i64 x.ua, .bool x.ut, s6, s7, s8, s9, s10, s11, s12, s13, s14, .int .i64 x.wk], .agg #[.int .i64 n0, .int .i64 n1, .int .i64 n2, .int .i64 n3, .int .i64 n4, .int .i64 n5, .int .i64 n6, .int .i64 n7]] w fun e w' => e = .returned (.bool b) ∧ Below w.heap.size w w' := by
  have DV := hl.h9
  obtain ⟨a9, c9, rfl⟩ := DV.slice
  have NT := Lib.hid hN
  clear hN hl
  by_cases h0 : x.dy.length = 0
  · have e : x.dy = [] := List.length_eq_zero_iff.1 h0
    have hB : b = true := by rw [← hb.out, ldB, e]; rfl
    subst hB
    clear DV NT hb e h4
    rw [h0]
    go_enter Tryd.func38, Tryd.ntmps38
    go_wp2
    go_ret
    exact ⟨rfl, ((Below.refl _ _).alloc (Nat.le_refl _) _).alloc (by simp) _⟩
  · obtain ⟨b1, o1, c1, hv, hb1, k1⟩ := DV.form (by omega)
    injection hv with hv1 hv2 hv3
    subst hv1
    have HN0 : x.dy ≠ [] := fun e => h0 (by rw [e]; rfl)
    have HB : Hid (x.dy.any (dayB x n0) = b) := Lib.hid (by rw [← hb.out, ldB, decide_eq_false HN0, Bool.false_or])
    have K1 : Hid (∀ (j : Nat) (hj : j < x.dy.length), w.cell? ⟨b1, o1 + j * 2, Option.none⟩ = some (.int .i64 x.dy[j].1) ∧ w.cell? ⟨b1, o1 + j * 2 + 1, Option.none⟩ = some (.int .i64 x.dy[j].2)) := Lib.hid k1
    have HB1 := Lib.hid hb1
    obtain ⟨n, hn⟩ : ∃ n, x.dy.length = n := ⟨_, rfl⟩
    have HN := Lib.hid hn
    have H4 := Lib.hid h4
    have z0 : ((n : Int) == 0) = false := beq_eq_false_iff_ne.2 (by omega)
    have z1 : ¬ n = 0 := by omega
    clear k1 hv2 hv3 hb1 DV hb HN0 h4 h0
    rw [hn] at NT hs ⊢
    clear hn
    go_enter Tryd.func38, Tryd.ntmps38
    go_upto_region 0 with fail
    go_cut [2, 3] (fun p q wz => p = .pointer (some ⟨w.heap.size, 0, none⟩) ∧ q = .pointer (some ⟨w.heap.size + 1, 0, none⟩) ∧ Hid (Cs (w.heap.size) wz [.int .i64 x.fq, .int .i64 x.iv, .int .i64 x.ct, .bool x.un, .int .i64 x.ua, .bool x.ut, s6, s7, s8, .slice (some ⟨b1, o1, none⟩) n c9, s10, s11, s12, s13, s14, .int .i64 x.wk]) ∧ Hid (Cs (w.heap.size + 1) wz [.int .i64 n0, .int .i64 n1, .int .i64 n2, .int .i64 n3, .int .i64 n4, .int .i64 n5, .int .i64 n6, .int .i64 n7]) ∧ Hid (Below w.heap.size w wz))
    case first =>
      go_wp2
      go_meet
      exact ⟨rfl, rfl, Lib.hid ((Cs.new w _ _).alloc _), Lib.hid (cs_at (by simp) _ _), Lib.hid (((Below.refl _ _).alloc (Nat.le_refl _) _).alloc (by simp) _)⟩
    case rest =>
    obtain ⟨w1, rfl⟩ : ∃ x : World, x = wc := ⟨_, rfl⟩
    obtain ⟨rfl, rfl, RB, MB, B⟩ := hcut
    have l9 := (RB.out.2 9 _ rfl).1
    go_wp2_with fail
    go_loopw [14] (fun iv wr => ∃ k : Nat, k ≤ n ∧ iv = .int .i64 k ∧ Hid ((x.dy.take k).any (dayB x n0) = false) ∧ Hid (Cs w.heap.size wr [.int .i64 x.fq, .int .i64 x.iv, .int .i64 x.ct, .bool x.un, .int .i64 x.ua, .bool x.ut, s6, s7, s8, .slice (some ⟨b1, o1, none⟩) n c9, s10, s11, s12, s13, s14, .int .i64 x.wk]) ∧ Hid (Cs (w.heap.size + 1) wr [.int .i64 n0, .int .i64 n1, .int .i64 n2, .int .i64 n3, .int .i64 n4, .int .i64 n5, .int .i64 n6, .int .i64 n7]) ∧ Hid (Below w.heap.size w wr)) (fun iv _ => n - (intOf iv).toNat)
    case atStart => exact ⟨0, Nat.zero_le _, rfl, Lib.hid (by simp), RB, MB, B⟩
    case round =>
      obtain ⟨k, hk, rfl, HT, RB, MB, B⟩ := hrel
      obtain ⟨wo, rfl⟩ : ∃ wo : World, wo = wr := ⟨_, rfl⟩
      clear l9
      by_cases hlt : k < n
      · have h1L : k < x.dy.length := by rw [HN.out]; exact hlt
        have g1 := (B.out.cell (p := ⟨b1, o1 + k * 2, Option.none⟩) HB1.out).trans (K1.out k h1L).1
        have g2 := (B.out.cell (p := ⟨b1, o1 + k * 2 + 1, Option.none⟩) HB1.out).trans (K1.out k h1L).2
        obtain ⟨X, hX⟩ : ∃ X, x.dy[k].1 = X := ⟨_, rfl⟩
        obtain ⟨Y, hY⟩ : ∃ Y, x.dy[k].2 = Y := ⟨_, rfl⟩
        have HXY : Hid (x.dy[k]'h1L = (X, Y)) := Lib.hid (by rw [← hX, ← hY])
        have H1L := Lib.hid h1L
        rw [hX] at g1
        rw [hY] at g2
        clear hX hY
        have r0 := RB.out.1
        have r1 := MB.out.1
        have r2 : w.heap.size ≤ wo.heap.size := B.out.size
        have r3 : b1 < wo.heap.size := Nat.lt_of_lt_of_le HB1.out B.out.size
        have m4 := (MB.out.2 4 _ rfl).1
        by_cases y0 : Y = n4
        · have e1 : (Y == n4) = true := beq_iff_eq.2 y0
          by_cases x0 : X = 0
          · have e0 : (X == 0) = true := beq_iff_eq.2 x0
            have hF : b = true := by rw [← HB.out]; exact any_hit H1L.out (by rw [HXY.out, dayB]; simp [H4.out, y0, x0])
            subst hF
            clear x0 y0
            go_wp2
            go_ret
            exact ⟨rfl, B.out.alloc B.out.size _⟩
          · have e0 : (X == 0) = false := beq_eq_false_iff_ne.2 x0
            obtain ⟨c, hc⟩ : ∃ c, nthIs x n0 (X, Y) = c := ⟨_, rfl⟩
            have HC := Lib.hid hc
            have NN := Lib.hid (NT.out (X, Y) (by rw [← HXY.out]; exact List.getElem_mem H1L.out) x0)
            have DB : Hid (dayB x n0 (X, Y) = c) := Lib.hid (by rw [dayB, hc]; simp [H4.out, y0, x0])
            clear hc x0 y0
            have l0 := (RB.out.2 0 _ rfl).1
            have l1 := (RB.out.2 1 _ rfl).1
            have l2 := (RB.out.2 2 _ rfl).1
            have l3 := (RB.out.2 3 _ rfl).1
            have l4 := (RB.out.2 4 _ rfl).1
            have l5 := (RB.out.2 5 _ rfl).1
            have l6 := (RB.out.2 6 _ rfl).1
            have l7 := (RB.out.2 7 _ rfl).1
            have l8 := (RB.out.2 8 _ rfl).1
            have l9 := (RB.out.2 9 _ rfl).1
            have l10 := (RB.out.2 10 _ rfl).1
            have l11 := (RB.out.2 11 _ rfl).1
            have l12 := (RB.out.2 12 _ rfl).1
            have l13 := (RB.out.2 13 _ rfl).1
            have l14 := (RB.out.2 14 _ rfl).1
            have l15 := (RB.out.2 15 _ rfl).1
            have m0 := (MB.out.2 0 _ rfl).1
            have m1 := (MB.out.2 1 _ rfl).1
            have m2 := (MB.out.2 2 _ rfl).1
            have m3 := (MB.out.2 3 _ rfl).1
            have m4 := (MB.out.2 4 _ rfl).1
            have m5 := (MB.out.2 5 _ rfl).1
            have m6 := (MB.out.2 6 _ rfl).1
            have m7 := (MB.out.2 7 _ rfl).1
            go_wp2_with fail
            refine (NN.out _ (B.out.alloc B.out.size _)).mono ?_
            rintro e w2 ⟨rfl, kk⟩
            rw [HC.out]
            cases c with
            | true =>
              have hF : b = true := by rw [← HB.out]; exact any_hit H1L.out (by rw [HXY.out]; exact DB.out)
              subst hF
              go_wp2
              go_ret
              exact ⟨rfl, bstep (B.out.alloc B.out.size _) kk⟩
            | false =>
              have HT2 := Lib.hid (any_next H1L.out HT.out (by rw [HXY.out]; exact DB.out))
              have RB := Lib.hid ((RB.out.alloc (Obj.cells #[.int .i64 X, .int .i64 Y] 47)).below kk)
              have MB := Lib.hid ((MB.out.alloc (Obj.cells #[.int .i64 X, .int .i64 Y] 47)).below kk)
              have B := Lib.hid (bstep (B.out.alloc B.out.size (Obj.cells #[.int .i64 X, .int .i64 Y] 47)) kk)
              clear l0 l1 l2 l3 l4 l5 l6 l7 l8 l9 l10 l11 l12 l13 l14 l15 m0 m1 m2 m3 m4 m5 m6 m7 kk g1 g2
              go_wp2
              go_roundw
              case rel => exact ⟨k + 1, by omega, by go_num, HT2, RB, MB, B⟩
              case measure => simp [intOf]; omega
        · have e1 : (Y == n4) = false := beq_eq_false_iff_ne.2 y0
          have HT2 := Lib.hid (any_next H1L.out HT.out (by rw [HXY.out, dayB]; simp [H4.out, y0]))
          clear y0
          go_wp2
          go_roundw
          case rel => exact ⟨k + 1, by omega, by go_num, HT2, Lib.hid (RB.out.alloc _), Lib.hid (MB.out.alloc _), Lib.hid (B.out.alloc B.out.size _)⟩
          case measure => simp [intOf]; omega
      · obtain rfl : k = n := by omega
        have hF : b = false := by
          rw [← HB.out]
          have q := HT.out
          rwa [← HN.out, List.take_length] at q
        subst hF
        go_wp2
        go_ret
        exact ⟨rfl, B.out⟩
def llV (x : CV) (m2 m3 m4 n2 n3 n4 : Int) : Bool := if x.yd ≠ [] ∨ x.md ≠ [] ∨ x.dy ≠ [] then true else if x.wn ≠ [] ∨ x.fq = 5 then decide (n4 = m4) else if x.fq = 7 ∧ x.mo = [] then decide (n3 = m3 ∧ n2 = m2) else if x.fq = 6 ∨ x.fq = 7 then decide (n3 = m3) else true
theorem len_pos' {α : Type} {L : List α} (h : ¬ L = []) : 0 < (L.length : Int) := by
  have := mt List.length_eq_zero_iff.1 h
  omega
set_option maxHeartbeats 6400000 in
set_option maxRecDepth 100000 in
theorem ll_to (x : CV) (s6 s7 s8 s9 s10 s11 s12 s13 s14 : Value) (m0 m1 m2 m3 m4 m5 m6 m7 n0 n1 n2 n3 n4 n5 n6 n7 : Int) (b : Bool) (w : World) (hl : LisV w x s6 s7 s8 s9 s10 s11 s12 s13 s14) (hb : Hid (llV x m2 m3 m4 n2 n3 n4 = b)) :
    Calls Tryd.prog 39 #[.agg #[.int .i64 x.fq, .int .i64 x.iv, .int .i64 x.ct, .bool x.un, .int .i64 x.ua, .bool x.ut, s6, s7, s8, s9, s10, s11, s12, s13, s14, .int .i64 x.wk], .agg #[.int .i64 m0, .int .i64 m1, .int .i64 m2, .int .i64 m3, .int .i64 m4, .int .i64 m5, .int .i64 m6, .int .i64 m7], .agg #[.int .i64 n0, .int .i64 n1, .int .i64 n2, .int .i64 n3, .int .i64 n4, .int .i64 n5, .int .i64 n6, .int .i64 n7]] w fun e w' => e = .returned (.bool b) ∧ Below w.heap.size w w' := by
  obtain ⟨a9, c9, rfl⟩ := hl.h9.slice
  obtain ⟨a10, c10, rfl⟩ := hl.h10.slice
  obtain ⟨a11, c11, rfl⟩ := hl.h11.slice
  obtain ⟨a12, c12, rfl⟩ := hl.h12.slice
  obtain ⟨a13, c13, rfl⟩ := hl.h13.slice
  clear hl
  go_enter Tryd.func39, Tryd.ntmps39
  go_upto_region 0 with fail
  go_cut [3, 4, 5] (fun p q r wz => p = .pointer (some ⟨w.heap.size, 0, none⟩) ∧ q = .pointer (some ⟨w.heap.size + 1, 0, none⟩) ∧ r = .pointer (some ⟨w.heap.size + 2, 0, none⟩) ∧ Hid (Cs (w.heap.size) wz [.int .i64 x.fq, .int .i64 x.iv, .int .i64 x.ct, .bool x.un, .int .i64 x.ua, .bool x.ut, s6, s7, s8, .slice a9 x.dy.length c9, .slice a10 x.md.length c10, .slice a11 x.yd.length c11, .slice a12 x.wn.length c12, .slice a13 x.mo.length c13, s14, .int .i64 x.wk]) ∧ Hid (Cs (w.heap.size + 1) wz [.int .i64 m0, .int .i64 m1, .int .i64 m2, .int .i64 m3, .int .i64 m4, .int .i64 m5, .int .i64 m6, .int .i64 m7]) ∧ Hid (Cs (w.heap.size + 2) wz [.int .i64 n0, .int .i64 n1, .int .i64 n2, .int .i64 n3, .int .i64 n4, .int .i64 n5, .int .i64 n6, .int .i64 n7]) ∧ Hid (Below w.heap.size w wz))
  case first =>
    go_wp2
    go_meet
    exact ⟨rfl, rfl, rfl, Lib.hid (((Cs.new w _ _).alloc _).alloc _), Lib.hid ((cs_at (by simp) _ _).alloc _), Lib.hid (cs_at (by simp) _ _), Lib.hid ((((Below.refl _ _).alloc (Nat.le_refl _) _).alloc (by simp) _).alloc (by simp; try omega) _)⟩
  case rest =>
  obtain ⟨w1, rfl⟩ : ∃ x : World, x = wc := ⟨_, rfl⟩
  obtain ⟨rfl, rfl, rfl, RB, MB, NB, B⟩ := hcut
  have l0 := (RB.out.2 0 _ rfl).1
  have l9 := (RB.out.2 9 _ rfl).1
  have l10 := (RB.out.2 10 _ rfl).1
  have l11 := (RB.out.2 11 _ rfl).1
  have l12 := (RB.out.2 12 _ rfl).1
  have l13 := (RB.out.2 13 _ rfl).1
  have k2 := (MB.out.2 2 _ rfl).1
  have k3 := (MB.out.2 3 _ rfl).1
  have k4 := (MB.out.2 4 _ rfl).1
  have j2 := (NB.out.2 2 _ rfl).1
  have j3 := (NB.out.2 3 _ rfl).1
  have j4 := (NB.out.2 4 _ rfl).1
  clear RB MB NB
  by_cases h11 : x.yd = []
  case neg =>
    have z := len_pos' h11
    have hF : b = true := by rw [← hb.out, llV, if_pos (Or.inl h11)]
    subst hF
    go_wp2
    go_ret
    exact ⟨rfl, B.out⟩
  have z11 : x.yd.length = 0 := by rw [h11]; rfl
  rw [z11] at l11
  by_cases h10 : x.md = []
  case neg =>
    have z := len_pos' h10
    have hF : b = true := by rw [← hb.out, llV, if_pos (Or.inr (Or.inl h10))]
    subst hF
    go_wp2
    go_ret
    exact ⟨rfl, B.out⟩
  have z10 : x.md.length = 0 := by rw [h10]; rfl
  rw [z10] at l10
  by_cases h9 : x.dy = []
  case neg =>
    have z := len_pos' h9
    have hF : b = true := by rw [← hb.out, llV, if_pos (Or.inr (Or.inr h9))]
    subst hF
    go_wp2
    go_ret
    exact ⟨rfl, B.out⟩
  have z9 : x.dy.length = 0 := by rw [h9]; rfl
  rw [z9] at l9
  have HB : Hid ((if x.wn ≠ [] ∨ x.fq = 5 then decide (n4 = m4) else if x.fq = 7 ∧ x.mo = [] then decide (n3 = m3 ∧ n2 = m2) else if x.fq = 6 ∨ x.fq = 7 then decide (n3 = m3) else true) = b) := Lib.hid (by rw [← hb.out, llV, if_neg (show ¬ (x.yd ≠ [] ∨ x.md ≠ [] ∨ x.dy ≠ []) by simp [h11, h10, h9])])
  clear hb h11 h10 h9 z11 z10 z9
  by_cases h12 : x.wn = []
  case neg =>
    have z := len_pos' h12
    have hF : decide (n4 = m4) = b := by rw [← HB.out, if_pos (Or.inl h12)]
    clear HB
    go_wp2
    go_ret
    exact ⟨ret_b hF, B.out⟩
  have z12 : x.wn.length = 0 := by rw [h12]; rfl
  rw [z12] at l12
  by_cases f5 : x.fq = 5
  · have hF : decide (n4 = m4) = b := by rw [← HB.out, if_pos (Or.inr f5)]
    have e5 : (x.fq == 5) = true := beq_iff_eq.2 f5
    clear HB
    go_wp2
    go_ret
    exact ⟨ret_b hF, B.out⟩
  have e5 : (x.fq == 5) = false := beq_eq_false_iff_ne.2 f5
  have HB : Hid ((if x.fq = 7 ∧ x.mo = [] then decide (n3 = m3 ∧ n2 = m2) else if x.fq = 6 ∨ x.fq = 7 then decide (n3 = m3) else true) = b) := Lib.hid (by rw [← HB.out, if_neg (show ¬ (x.wn ≠ [] ∨ x.fq = 5) by simp [h12, f5])])
  clear h12 z12
  by_cases f7 : x.fq = 7
  · have e7 : (x.fq == 7) = true := beq_iff_eq.2 f7
    by_cases h13 : x.mo = []
    · have z13 : x.mo.length = 0 := by rw [h13]; rfl
      rw [z13] at l13
      have hF : decide (n3 = m3 ∧ n2 = m2) = b := by rw [← HB.out, if_pos ⟨f7, h13⟩]
      rw [f7] at l0
      clear HB h13 z13 f7 f5 e5 e7
      by_cases d3 : n3 = m3
      · have e3 : (n3 == m3) = true := beq_iff_eq.2 d3
        have HF : Hid ((n2 == m2) = b) := Lib.hid (by rw [← hF, Bool.decide_and, decide_eq_true d3, Bool.true_and]; rfl)
        clear d3 hF
        go_wp2
        go_ret
        exact ⟨ret_b HF.out, B.out⟩
      · have e3 : (n3 == m3) = false := beq_eq_false_iff_ne.2 d3
        have hG : b = false := by rw [← hF, Bool.decide_and, decide_eq_false d3]; rfl
        clear d3 hF
        subst hG
        go_wp2
        go_ret
        exact ⟨ret_b rfl, B.out⟩
    · have z := len_pos' h13
      have z2 : ((x.mo.length : Int) == 0) = false := beq_eq_false_iff_ne.2 (by omega)
      have hF : decide (n3 = m3) = b := by rw [← HB.out, if_neg (show ¬ (x.fq = 7 ∧ x.mo = []) from fun h => h13 h.2), if_pos (Or.inr f7)]
      rw [f7] at l0
      clear HB h13 f7 f5 e5 e7
      go_wp2
      go_ret
      exact ⟨ret_b hF, B.out⟩
  · have e7 : (x.fq == 7) = false := beq_eq_false_iff_ne.2 f7
    by_cases f6 : x.fq = 6
    · have hF : decide (n3 = m3) = b := by rw [← HB.out, if_neg (show ¬ (x.fq = 7 ∧ x.mo = []) from fun h => f7 h.1), if_pos (Or.inl f6)]
      rw [f6] at l0
      clear HB f6 f7 f5 e5 e7
      go_wp2
      go_ret
      exact ⟨ret_b hF, B.out⟩
    · have e6 : (x.fq == 6) = false := beq_eq_false_iff_ne.2 f6
      have hF : true = b := by rw [← HB.out, if_neg (show ¬ (x.fq = 7 ∧ x.mo = []) from fun h => f7 h.1), if_neg (show ¬ (x.fq = 6 ∨ x.fq = 7) by omega)]
      clear HB f5 f6 f7
      subst hF
      go_wp2
      go_ret
      exact ⟨ret_b rfl, B.out⟩
end Fil
end Go.Proofs.YtpcmfgfhdnfmcaaDoor
