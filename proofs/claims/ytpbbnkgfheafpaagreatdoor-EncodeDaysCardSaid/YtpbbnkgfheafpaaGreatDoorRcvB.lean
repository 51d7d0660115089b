/-
  solsticekeep.Recur over any two rules. (Written by gen/gen_rcvb.py.)
-/
import Derived.Test.YtpbbnkgfheafpaaGreatDoorBdCl
import Derived.Deep.RegionWith
import Derived.Deep.DeepCutAuto
namespace Go.Proofs.YtpbbnkgfheafpaaGreatDoor
open Go.RowKit
namespace Rcv
open Cel
def KrQ (p : Prop) (w : World) (e : Ending) (w' : World) : Prop := ∃ b : Bool, e = .returned (.bool b) ∧ (b = true ↔ p) ∧ Below w.heap.size w w'
theorem KrQ.no {p : Prop} {w : World} {e : Ending} {w' : World} (he : e = .returned (.bool false)) (hp : ¬ p) (hb : Below w.heap.size w w') : KrQ p w e w' := ⟨false, he, ⟨fun h => absurd h (by decide), fun h => absurd h hp⟩, hb⟩
theorem KrQ.yes {p : Prop} {w : World} {e : Ending} {w' : World} (he : e = .returned (.bool true)) (hp : p) (hb : Below w.heap.size w w') : KrQ p w e w' := ⟨true, he, ⟨fun _ => hp, fun _ => rfl⟩, hb⟩
theorem bdr {n : Nat} {w w' : World} (h : Below n w w') (m : Nat) : Below n w (w'.drewN m) := ⟨h.os, h.tape, h.output, h.size, h.block⟩
theorem take_day {L M : List (Int × Int)} {k : Nat} (h : L.take k = M.take k) (h1 : k < L.length) (h2 : k < M.length) (e : L[k] = M[k]) : L.take (k + 1) = M.take (k + 1) := by
  rw [List.take_succ_eq_append_getElem h1, List.take_succ_eq_append_getElem h2, h, e]
theorem ints_b (v u : Value) (L M : List Int) (w : World) (hv : IntV w v L) (hu : IntV w u M) (hL : L.length ≤ 1000000) (hM : M.length ≤ 1000000) (b : Bool) (h : Hid (decide (L = M) = b)) :
    Calls Tryz.prog 11 #[v, u] w fun e w' => e = .returned (.bool b) ∧ Below w.heap.size w w' :=
  (ints_any v u L M w hv hu hL hM).mono fun _ _ ⟨b', he, hb, m, hw⟩ => ⟨by rw [he, hb.out, h.out], by rw [hw]; exact ⟨rfl, rfl, rfl, Nat.le_refl _, fun _ _ => rfl⟩⟩
set_option maxHeartbeats 12800000 in
set_option maxRecDepth 100000 in
theorem krec_to (s6 s7 s8 s9 s10 s11 s12 s13 s14 z6 z7 z8 z9 z10 z11 z12 z13 z14  : Value) (r s : CV) (w : World) (hv : LisV w r s6 s7 s8 s9 s10 s11 s12 s13 s14) (hu : LisV w s z6 z7 z8 z9 z10 z11 z12 z13 z14) (hr : SmlC r) (hs : SmlC s) :
    Calls Tryz.prog 6 #[aggR r s6 s7 s8 s9 s10 s11 s12 s13 s14, aggR s z6 z7 z8 z9 z10 z11 z12 z13 z14] w (KrQ (r = s) w) := by
  obtain ⟨xfq, xiv, xct, xun, xua, xut, xsc, xmi, xhr, xdy, xmd, xyd, xwn, xmo, xsp, xwk⟩ := r
  obtain ⟨yfq, yiv, yct, yun, yua, yut, ysc, ymi, yhr, ydy, ymd, yyd, ywn, ymo, ysp, ywk⟩ := s
  have HV := Lib.hid hv
  have HU := Lib.hid hu
  have HR := Lib.hid hr
  have HS := Lib.hid hs
  obtain ⟨nx, hnx⟩ : ∃ n, xdy.length = n := ⟨_, rfl⟩
  obtain ⟨ny, hny⟩ : ∃ n, ydy.length = n := ⟨_, rfl⟩
  obtain ⟨A9, c9, e9⟩ := hv.h9.slice
  obtain ⟨A9', c9', e9'⟩ := hu.h9.slice
  simp only at e9 e9'
  have lx : nx ≤ 1000000 := by rw [← hnx]; exact hr.l9
  have ly : ny ≤ 1000000 := by rw [← hny]; exact hs.l9
  rw [hnx] at e9
  rw [hny] at e9'
  subst e9 e9'
  have HNX := Lib.hid hnx
  have HNY := Lib.hid hny
  clear hv hu hr hs hnx hny
  unfold aggR
  simp only
  go_enter Tryz.func6, Tryz.ntmps6
  go_upto_region 0 with fail
  go_cut [2, 3] (fun p q w2 => p = .pointer (some ⟨w.heap.size, 0, none⟩) ∧ q = .pointer (some ⟨w.heap.size + 1, 0, none⟩) ∧ Hid (Cs w.heap.size w2 [.int .i64 xfq, .int .i64 xiv, .int .i64 xct, .bool xun, .int .i64 xua, .bool xut, s6, s7, s8, .slice A9 nx c9, s10, s11, s12, s13, s14, .int .i64 xwk]) ∧ Hid (Cs (w.heap.size + 1) w2 [.int .i64 yfq, .int .i64 yiv, .int .i64 yct, .bool yun, .int .i64 yua, .bool yut, z6, z7, z8, .slice A9' ny c9', z10, z11, z12, z13, z14, .int .i64 ywk]) ∧ Hid (Below w.heap.size w w2))
  case first =>
    go_wp2
    go_meet
    have K1 : Cs (w.heap.size + 1) ((w.alloc (Obj.cells #[.int .i64 xfq, .int .i64 xiv, .int .i64 xct, .bool xun, .int .i64 xua, .bool xut, s6, s7, s8, .slice A9 nx c9, s10, s11, s12, s13, s14, .int .i64 xwk] 29)).alloc (Obj.cells #[.int .i64 yfq, .int .i64 yiv, .int .i64 yct, .bool yun, .int .i64 yua, .bool yut, z6, z7, z8, .slice A9' ny c9', z10, z11, z12, z13, z14, .int .i64 ywk] 29)) [.int .i64 yfq, .int .i64 yiv, .int .i64 yct, .bool yun, .int .i64 yua, .bool yut, z6, z7, z8, .slice A9' ny c9', z10, z11, z12, z13, z14, .int .i64 ywk] := by
      have := Cs.new (w.alloc (Obj.cells #[.int .i64 xfq, .int .i64 xiv, .int .i64 xct, .bool xun, .int .i64 xua, .bool xut, s6, s7, s8, .slice A9 nx c9, s10, s11, s12, s13, s14, .int .i64 xwk] 29)) [.int .i64 yfq, .int .i64 yiv, .int .i64 yct, .bool yun, .int .i64 yua, .bool yut, z6, z7, z8, .slice A9' ny c9', z10, z11, z12, z13, z14, .int .i64 ywk] 29
      rwa [show (w.alloc (Obj.cells #[.int .i64 xfq, .int .i64 xiv, .int .i64 xct, .bool xun, .int .i64 xua, .bool xut, s6, s7, s8, .slice A9 nx c9, s10, s11, s12, s13, s14, .int .i64 xwk] 29)).heap.size = w.heap.size + 1 by simp] at this
    exact ⟨rfl, rfl, Lib.hid ((Cs.new w _ _).alloc _), Lib.hid K1, Lib.hid (((Below.refl w.heap.size w).alloc (Nat.le_refl _) _).alloc (by simp) _)⟩
  case rest =>
  obtain ⟨w2, rfl⟩ : ∃ x : World, x = wc := ⟨_, rfl⟩
  obtain ⟨rfl, rfl, C0, C1, B2⟩ := hcut
  obtain ⟨hd, hhd⟩ : ∃ b : Bool, (b = false ↔ xfq = yfq ∧ xiv = yiv ∧ xct = yct ∧ xun = yun ∧ xua = yua ∧ xut = yut ∧ xwk = ywk ∧ nx = ny) := ⟨!decide (xfq = yfq ∧ xiv = yiv ∧ xct = yct ∧ xun = yun ∧ xua = yua ∧ xut = yut ∧ xwk = ywk ∧ nx = ny), by simp⟩
  have HD := Lib.hid hhd
  clear hhd
  have g0 := C0.out.1
  have g1 := C1.out.1
  have a0 := (C0.out.2 0 _ rfl).1
  have c0 := (C1.out.2 0 _ rfl).1
  have a1 := (C0.out.2 1 _ rfl).1
  have c1 := (C1.out.2 1 _ rfl).1
  have a2 := (C0.out.2 2 _ rfl).1
  have c2 := (C1.out.2 2 _ rfl).1
  have a3 := (C0.out.2 3 _ rfl).1
  have c3 := (C1.out.2 3 _ rfl).1
  have a4 := (C0.out.2 4 _ rfl).1
  have c4 := (C1.out.2 4 _ rfl).1
  have a5 := (C0.out.2 5 _ rfl).1
  have c5 := (C1.out.2 5 _ rfl).1
  have a15 := (C0.out.2 15 _ rfl).1
  have c15 := (C1.out.2 15 _ rfl).1
  have a9 := (C0.out.2 9 _ rfl).1
  have c9 := (C1.out.2 9 _ rfl).1
  go_upto_region 1 with fail
  go_cut [61] (fun v w3 => v = .bool hd ∧ w2 = w3)
  case first =>
    clear HV HU HR HS
--<a
    by_cases e0 : xfq = yfq
    case neg =>
      have hf : hd = true := by
        cases hd with
        | true => rfl
        | false => exact absurd (HD.out.1 rfl).1 e0
      subst hf
      have q1 : (xfq == yfq) = false := beq_eq_false_iff_ne.2 e0
      have q2 : (xfq != yfq) = true := bne_iff_ne.2 e0
      go_wp2
      go_meet
      exact ⟨rfl, rfl⟩
    subst e0
    by_cases e1 : xiv = yiv
    case neg =>
      have hf : hd = true := by
        cases hd with
        | true => rfl
        | false => exact absurd (HD.out.1 rfl).2.1 e1
      subst hf
      have q1 : (xiv == yiv) = false := beq_eq_false_iff_ne.2 e1
      have q2 : (xiv != yiv) = true := bne_iff_ne.2 e1
      go_wp2
      go_meet
      exact ⟨rfl, rfl⟩
    subst e1
    by_cases e2 : xct = yct
    case neg =>
      have hf : hd = true := by
        cases hd with
        | true => rfl
        | false => exact absurd (HD.out.1 rfl).2.2.1 e2
      subst hf
      have q1 : (xct == yct) = false := beq_eq_false_iff_ne.2 e2
      have q2 : (xct != yct) = true := bne_iff_ne.2 e2
      go_wp2
      go_meet
      exact ⟨rfl, rfl⟩
    subst e2
    by_cases e3 : xun = yun
    case neg =>
      have hf : hd = true := by
        cases hd with
        | true => rfl
        | false => exact absurd (HD.out.1 rfl).2.2.2.1 e3
      subst hf
      have hq : yun = !xun := by cases xun <;> cases yun <;> first | rfl | exact absurd rfl e3
      subst hq
      cases xun
      all_goals
        go_wp2
        go_meet
        exact ⟨rfl, rfl⟩
    subst e3
    by_cases e4 : xua = yua
    case neg =>
      have hf : hd = true := by
        cases hd with
        | true => rfl
        | false => exact absurd (HD.out.1 rfl).2.2.2.2.1 e4
      subst hf
      have q1 : (xua == yua) = false := beq_eq_false_iff_ne.2 e4
      have q2 : (xua != yua) = true := bne_iff_ne.2 e4
      go_wp2
      go_meet
      exact ⟨rfl, rfl⟩
    subst e4
    by_cases e5 : xut = yut
    case neg =>
      have hf : hd = true := by
        cases hd with
        | true => rfl
        | false => exact absurd (HD.out.1 rfl).2.2.2.2.2.1 e5
      subst hf
      have hq : yut = !xut := by cases xut <;> cases yut <;> first | rfl | exact absurd rfl e5
      subst hq
      cases xut
      all_goals
        go_wp2
        go_meet
        exact ⟨rfl, rfl⟩
    subst e5
    by_cases e6 : xwk = ywk
    case neg =>
      have hf : hd = true := by
        cases hd with
        | true => rfl
        | false => exact absurd (HD.out.1 rfl).2.2.2.2.2.2.1 e6
      subst hf
      have q1 : (xwk == ywk) = false := beq_eq_false_iff_ne.2 e6
      have q2 : (xwk != ywk) = true := bne_iff_ne.2 e6
      go_wp2
      go_meet
      exact ⟨rfl, rfl⟩
    subst e6
    by_cases e7 : nx = ny
    case neg =>
      have hf : hd = true := by
        cases hd with
        | true => rfl
        | false => exact absurd (HD.out.1 rfl).2.2.2.2.2.2.2 e7
      subst hf
      have q1 : ((nx : Int) == (ny : Int)) = false := beq_eq_false_iff_ne.2 (by omega)
      have q2 : ((nx : Int) != (ny : Int)) = true := bne_iff_ne.2 (by omega)
      go_wp2
      go_meet
      exact ⟨rfl, rfl⟩
    have hf : hd = false := HD.out.2 ⟨rfl, rfl, rfl, rfl, rfl, rfl, rfl, e7⟩
    subst hf
    subst e7
    go_wp2
    go_meet
    exact ⟨rfl, rfl⟩
--a>
  case rest =>
  clear a0 c0 a1 c1 a2 c2 a3 c3 a4 c4 a5 c5 a15 c15 a9 c9
  obtain ⟨rfl, hw3⟩ := hcut
  subst hw3
  cases hd with
  | true =>
    have HN : Hid (¬ (xfq = yfq ∧ xiv = yiv ∧ xct = yct ∧ xun = yun ∧ xua = yua ∧ xut = yut ∧ xwk = ywk ∧ nx = ny)) := Lib.hid (fun q => by cases HD.out.2 q)
    go_wp2
    go_ret
    refine KrQ.no rfl (fun q => HN.out ?_) B2.out
    injection q with q0 q1 q2 q3 q4 q5 q6 q7 q8 q9 q10 q11 q12 q13 q14 q15
    exact ⟨q0, q1, q2, q3, q4, q5, q15, by rw [← HNX.out, ← HNY.out, q9]⟩
  | false =>
  obtain ⟨rfl, rfl, rfl, rfl, rfl, rfl, rfl, rfl⟩ := HD.out.1 rfl
  clear HD
  obtain ⟨bx, ox, hA⟩ : ∃ b o, 0 < nx → A9 = some ⟨b, o, none⟩ ∧ b < w.heap.size ∧ ∀ (j : Nat) (hj : j < xdy.length), w.cell? ⟨b, o + j * 2, none⟩ = some (.int .i64 (xdy[j]).1) ∧ w.cell? ⟨b, o + j * 2 + 1, none⟩ = some (.int .i64 (xdy[j]).2) := by
    by_cases h0 : 0 < nx
    · obtain ⟨b, o, c, e, hb, hc⟩ := HV.out.h9.form (by rw [HNX.out]; exact h0)
      injection e with e
      exact ⟨b, o, fun _ => ⟨e, hb, hc⟩⟩
    · exact ⟨0, 0, fun h => absurd h h0⟩
  obtain ⟨by_, oy, hA'⟩ : ∃ b o, 0 < nx → A9' = some ⟨b, o, none⟩ ∧ b < w.heap.size ∧ ∀ (j : Nat) (hj : j < ydy.length), w.cell? ⟨b, o + j * 2, none⟩ = some (.int .i64 (ydy[j]).1) ∧ w.cell? ⟨b, o + j * 2 + 1, none⟩ = some (.int .i64 (ydy[j]).2) := by
    by_cases h0 : 0 < nx
    · obtain ⟨b, o, c, e, hb, hc⟩ := HU.out.h9.form (by rw [HNY.out]; exact h0)
      injection e with e
      exact ⟨b, o, fun _ => ⟨e, hb, hc⟩⟩
    · exact ⟨0, 0, fun h => absurd h h0⟩
  have HA := Lib.hid hA
  have HA' := Lib.hid hA'
  clear hA hA'
  have a9 := (C0.out.2 9 _ rfl).1
  have c9_ := (C1.out.2 9 _ rfl).1
  go_wp2
  go_loopw [5] (fun iv wr => ∃ k : Nat, k ≤ nx ∧ iv = .int .i64 k ∧ Hid (xdy.take k = ydy.take k) ∧ ∃ m, wr = w2.drewN m) (fun iv _ => nx - (intOf iv).toNat)
  case atStart => exact ⟨0, Nat.zero_le _, rfl, Lib.hid rfl, 0, rfl⟩
  case round =>
    obtain ⟨k, hk, rfl, hT, m, rfl⟩ := hrel
    by_cases hlt : k < nx
    · have h1L : k < xdy.length := by rw [HNX.out]; exact hlt
      have h1M : k < ydy.length := by rw [HNY.out]; exact hlt
      obtain ⟨rfl, hbx, hcx⟩ := HA.out (by omega)
      obtain ⟨rfl, hby, hcy⟩ := HA'.out (by omega)
      have k1 := (B2.out.cell (p := ⟨bx, ox + k * 2, none⟩) hbx).trans (hcx k h1L).1
      have k2 := (B2.out.cell (p := ⟨bx, ox + k * 2 + 1, none⟩) hbx).trans (hcx k h1L).2
      have k3 := (B2.out.cell (p := ⟨by_, oy + k * 2, none⟩) hby).trans (hcy k h1M).1
      have k4 := (B2.out.cell (p := ⟨by_, oy + k * 2 + 1, none⟩) hby).trans (hcy k h1M).2
      clear hcx hcy
      obtain ⟨X1, hX1⟩ : ∃ a, (xdy[k]).1 = a := ⟨_, rfl⟩
      obtain ⟨X2, hX2⟩ : ∃ a, (xdy[k]).2 = a := ⟨_, rfl⟩
      obtain ⟨Y1, hY1⟩ : ∃ a, (ydy[k]).1 = a := ⟨_, rfl⟩
      obtain ⟨Y2, hY2⟩ : ∃ a, (ydy[k]).2 = a := ⟨_, rfl⟩
      rw [hX1] at k1
      rw [hX2] at k2
      rw [hY1] at k3
      rw [hY2] at k4
      have HXY : Hid (¬ (X1 = Y1 ∧ X2 = Y2) → ¬ xdy = ydy) := Lib.hid (fun q e => q (by subst e; exact ⟨by rw [← hX1, ← hY1], by rw [← hX2, ← hY2]⟩))
      have HXE : Hid (X1 = Y1 ∧ X2 = Y2 → xdy.take (k + 1) = ydy.take (k + 1)) := Lib.hid (fun q => take_day hT.out h1L h1M (Prod.ext (by rw [hX1, hY1, q.1]) (by rw [hX2, hY2, q.2])))
      clear hX1 hX2 hY1 hY2 h1L h1M
      by_cases e1 : X1 = Y1
      · by_cases e2 : X2 = Y2
        · have HT := Lib.hid (HXE.out ⟨e1, e2⟩)
          subst e1 e2
          clear HXY HXE
          go_wp2_with fail
          go_quiet (fail)
          go_wp2
          go_roundw
          case rel =>
            exact ⟨k + 1, by omega, by go_num, HT, m + nq, by first | rfl | rw [World.drewN_drewN]⟩
          case measure => simp [intOf]; omega
        · have q1 : (X2 == Y2) = false := beq_eq_false_iff_ne.2 e2
          have q2 : (X2 != Y2) = true := bne_iff_ne.2 e2
          have HN := Lib.hid (HXY.out (fun q => e2 q.2))
          subst e1
          clear HXE HXY
          go_wp2_with fail
          go_quiet (fail)
          go_wp2
          go_ret
          exact KrQ.no rfl (fun q => HN.out (congrArg CV.dy q)) (bdr (bdr B2.out _) _)
      · have q1 : (X1 == Y1) = false := beq_eq_false_iff_ne.2 e1
        have q2 : (X1 != Y1) = true := bne_iff_ne.2 e1
        have HN := Lib.hid (HXY.out (fun q => e1 q.1))
        clear HXE HXY
        go_wp2_with fail
        go_quiet (fail)
        go_wp2
        go_ret
        exact KrQ.no rfl (fun q => HN.out (congrArg CV.dy q)) (bdr (bdr B2.out _) _)
    · have hkn : k = nx := by omega
      subst hkn
      have hdy : xdy = ydy := by
        have := hT.out
        rwa [List.take_of_length_le (by rw [HNX.out]; exact Nat.le_refl _), List.take_of_length_le (by rw [HNY.out]; exact Nat.le_refl _)] at this
      have HDY := Lib.hid hdy
      have B3 := Lib.hid (bdr B2.out m)
      have C03 := Lib.hid (C0.out.drewN m)
      have C13 := Lib.hid (C1.out.drewN m)
      clear hT hdy HA HA'
--<c
      have a := (C0.out.2 6 _ rfl).1
      have c := (C1.out.2 6 _ rfl).1
      obtain ⟨b6, hb6⟩ : ∃ b, decide (xsc = ysc) = b := ⟨_, rfl⟩
      have HB6 := Lib.hid hb6
      clear hb6
      go_wp2_with fail
      refine (ints_b _ _ xsc ysc _ (HV.out.h6.below B3.out) (HU.out.h6.below B3.out) HR.out.l6 HS.out.l6 b6 HB6).mono ?_
      rintro e w4 ⟨rfl, m4⟩
      have B4 := Lib.hid (bstep B3.out m4)
      have C04 := Lib.hid (C03.out.below m4)
      have C14 := Lib.hid (C13.out.below m4)
      clear m4 a c B3 C03 C13
      cases b6 with
      | false =>
        have HN := Lib.hid (of_decide_eq_false HB6.out)
        go_wp2
        go_ret
        exact KrQ.no rfl (fun q => HN.out (congrArg CV.sc q)) B4.out
      | true =>
      have E6 := Lib.hid (of_decide_eq_true HB6.out)
      clear HB6
      have a := (C04.out.2 7 _ rfl).1
      have c := (C14.out.2 7 _ rfl).1
      obtain ⟨b7, hb7⟩ : ∃ b, decide (xmi = ymi) = b := ⟨_, rfl⟩
      have HB7 := Lib.hid hb7
      clear hb7
      go_wp2_with fail
      refine (ints_b _ _ xmi ymi _ (HV.out.h7.below B4.out) (HU.out.h7.below B4.out) HR.out.l7 HS.out.l7 b7 HB7).mono ?_
      rintro e w5 ⟨rfl, m5⟩
      have B5 := Lib.hid (bstep B4.out m5)
      have C05 := Lib.hid (C04.out.below m5)
      have C15 := Lib.hid (C14.out.below m5)
      clear m5 a c B4 C04 C14
      cases b7 with
      | false =>
        have HN := Lib.hid (of_decide_eq_false HB7.out)
        go_wp2
        go_ret
        exact KrQ.no rfl (fun q => HN.out (congrArg CV.mi q)) B5.out
      | true =>
      have E7 := Lib.hid (of_decide_eq_true HB7.out)
      clear HB7
      have a := (C05.out.2 8 _ rfl).1
      have c := (C15.out.2 8 _ rfl).1
      obtain ⟨b8, hb8⟩ : ∃ b, decide (xhr = yhr) = b := ⟨_, rfl⟩
      have HB8 := Lib.hid hb8
      clear hb8
      go_wp2_with fail
      refine (ints_b _ _ xhr yhr _ (HV.out.h8.below B5.out) (HU.out.h8.below B5.out) HR.out.l8 HS.out.l8 b8 HB8).mono ?_
      rintro e w6 ⟨rfl, m6⟩
      have B6 := Lib.hid (bstep B5.out m6)
      have C06 := Lib.hid (C05.out.below m6)
      have C16 := Lib.hid (C15.out.below m6)
      clear m6 a c B5 C05 C15
      cases b8 with
      | false =>
        have HN := Lib.hid (of_decide_eq_false HB8.out)
        go_wp2
        go_ret
        exact KrQ.no rfl (fun q => HN.out (congrArg CV.hr q)) B6.out
      | true =>
      have E8 := Lib.hid (of_decide_eq_true HB8.out)
      clear HB8
      have a := (C06.out.2 10 _ rfl).1
      have c := (C16.out.2 10 _ rfl).1
      obtain ⟨b10, hb10⟩ : ∃ b, decide (xmd = ymd) = b := ⟨_, rfl⟩
      have HB10 := Lib.hid hb10
      clear hb10
      go_wp2_with fail
      refine (ints_b _ _ xmd ymd _ (HV.out.h10.below B6.out) (HU.out.h10.below B6.out) HR.out.l10 HS.out.l10 b10 HB10).mono ?_
      rintro e w7 ⟨rfl, m7⟩
      have B7 := Lib.hid (bstep B6.out m7)
      have C07 := Lib.hid (C06.out.below m7)
      have C17 := Lib.hid (C16.out.below m7)
      clear m7 a c B6 C06 C16
      cases b10 with
      | false =>
        have HN := Lib.hid (of_decide_eq_false HB10.out)
        go_wp2
        go_ret
        exact KrQ.no rfl (fun q => HN.out (congrArg CV.md q)) B7.out
      | true =>
      have E10 := Lib.hid (of_decide_eq_true HB10.out)
      clear HB10
      have a := (C07.out.2 11 _ rfl).1
      have c := (C17.out.2 11 _ rfl).1
      obtain ⟨b11, hb11⟩ : ∃ b, decide (xyd = yyd) = b := ⟨_, rfl⟩
      have HB11 := Lib.hid hb11
      clear hb11
      go_wp2_with fail
      refine (ints_b _ _ xyd yyd _ (HV.out.h11.below B7.out) (HU.out.h11.below B7.out) HR.out.l11 HS.out.l11 b11 HB11).mono ?_
      rintro e w8 ⟨rfl, m8⟩
      have B8 := Lib.hid (bstep B7.out m8)
      have C08 := Lib.hid (C07.out.below m8)
      have C18 := Lib.hid (C17.out.below m8)
      clear m8 a c B7 C07 C17
      cases b11 with
      | false =>
        have HN := Lib.hid (of_decide_eq_false HB11.out)
        go_wp2
        go_ret
        exact KrQ.no rfl (fun q => HN.out (congrArg CV.yd q)) B8.out
      | true =>
      have E11 := Lib.hid (of_decide_eq_true HB11.out)
      clear HB11
      have a := (C08.out.2 12 _ rfl).1
      have c := (C18.out.2 12 _ rfl).1
      obtain ⟨b12, hb12⟩ : ∃ b, decide (xwn = ywn) = b := ⟨_, rfl⟩
      have HB12 := Lib.hid hb12
      clear hb12
      go_wp2_with fail
      refine (ints_b _ _ xwn ywn _ (HV.out.h12.below B8.out) (HU.out.h12.below B8.out) HR.out.l12 HS.out.l12 b12 HB12).mono ?_
      rintro e w9 ⟨rfl, m9⟩
      have B9 := Lib.hid (bstep B8.out m9)
      have C09 := Lib.hid (C08.out.below m9)
      have C19 := Lib.hid (C18.out.below m9)
      clear m9 a c B8 C08 C18
      cases b12 with
      | false =>
        have HN := Lib.hid (of_decide_eq_false HB12.out)
        go_wp2
        go_ret
        exact KrQ.no rfl (fun q => HN.out (congrArg CV.wn q)) B9.out
      | true =>
      have E12 := Lib.hid (of_decide_eq_true HB12.out)
      clear HB12
      have a := (C09.out.2 13 _ rfl).1
      have c := (C19.out.2 13 _ rfl).1
      obtain ⟨b13, hb13⟩ : ∃ b, decide (xmo = ymo) = b := ⟨_, rfl⟩
      have HB13 := Lib.hid hb13
      clear hb13
      go_wp2_with fail
      refine (ints_b _ _ xmo ymo _ (HV.out.h13.below B9.out) (HU.out.h13.below B9.out) HR.out.l13 HS.out.l13 b13 HB13).mono ?_
      rintro e w10 ⟨rfl, m10⟩
      have B10 := Lib.hid (bstep B9.out m10)
      have C010 := Lib.hid (C09.out.below m10)
      have C110 := Lib.hid (C19.out.below m10)
      clear m10 a c B9 C09 C19
      cases b13 with
      | false =>
        have HN := Lib.hid (of_decide_eq_false HB13.out)
        go_wp2
        go_ret
        exact KrQ.no rfl (fun q => HN.out (congrArg CV.mo q)) B10.out
      | true =>
      have E13 := Lib.hid (of_decide_eq_true HB13.out)
      clear HB13
      have a := (C010.out.2 14 _ rfl).1
      have c := (C110.out.2 14 _ rfl).1
      obtain ⟨b14, hb14⟩ : ∃ b, decide (xsp = ysp) = b := ⟨_, rfl⟩
      have HB14 := Lib.hid hb14
      clear hb14
      go_wp2_with fail
      refine (ints_b _ _ xsp ysp _ (HV.out.h14.below B10.out) (HU.out.h14.below B10.out) HR.out.l14 HS.out.l14 b14 HB14).mono ?_
      rintro e w11 ⟨rfl, m11⟩
      have B11 := Lib.hid (bstep B10.out m11)
      have C011 := Lib.hid (C010.out.below m11)
      have C111 := Lib.hid (C110.out.below m11)
      clear m11 a c B10 C010 C110
      cases b14 with
      | false =>
        have HN := Lib.hid (of_decide_eq_false HB14.out)
        go_wp2
        go_ret
        exact KrQ.no rfl (fun q => HN.out (congrArg CV.sp q)) B11.out
      | true =>
      have E14 := Lib.hid (of_decide_eq_true HB14.out)
      clear HB14
      go_wp2
      go_ret
      exact KrQ.yes rfl (by rw [HDY.out, E6.out, E7.out, E8.out, E10.out, E11.out, E12.out, E13.out, E14.out]) B11.out
--c>
end Rcv
end Go.Proofs.YtpbbnkgfheafpaaGreatDoor
