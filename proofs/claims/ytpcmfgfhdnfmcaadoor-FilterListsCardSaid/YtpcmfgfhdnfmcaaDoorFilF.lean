/-
  Package filter: letsClock, letsWeek, yearLen.
-/
import Derived.Test.YtpcmfgfhdnfmcaaDoorFilE
namespace Go.Proofs.YtpcmfgfhdnfmcaaDoor
open Go.RowKit
namespace Fil
open Rcv (CV LisV IntV DayV)
open Rck (ckE ckB Small)
open Civ (numV numE dY dM dD dnE ydV Ahead)
open Wk (noY noN noE wkV wkE nthV nthB)
open Cel
theorem cs_at {w : World} {g : Nat} (h : w.heap.size = g) (vs : List Value) (t : TypeId) : Cs g (w.alloc (Obj.cells vs.toArray t)) vs := by rw [← h]; exact Cs.new w vs t
/-- A struct's load out of a known block, in one step, guarded or not. -/
theorem ld16 {ops : Array Oper} {rest : List Oper} {op : Oper} {a : Act} {w : World} {Q : Exit → Act → World → Prop} {g : Nat} {x : Operand} {vs : List Value} (C : Cs g w vs) (hv : vs.length = 16) (ho : op.op = .load 25 x)
    (hw : Region.wanted op (yielded ops a.tmps) = true) (hx : a.eval x = .pointer (some ⟨g, 0, none⟩)) (h : ∀ K : Act → World → Prop, (∀ a w, wpList Tryd.prog ops Q rest a w → K a w) → K (a.put op.dst (.agg vs.toArray)) w) : wpList Tryd.prog ops Q (op :: rest) a w :=
  wpList_step fun K hK => by rw [if_pos hw]; exact wp_load_mid _ x ho g 0 hx vs _ C.range Tryd.underlying25 rfl (by rw [hv]; kernel_rfl) (h K hK)
theorem ld8 {ops : Array Oper} {rest : List Oper} {op : Oper} {a : Act} {w : World} {Q : Exit → Act → World → Prop} {g : Nat} {x : Operand} {vs : List Value} (C : Cs g w vs) (hv : vs.length = 8) (ho : op.op = .load 62 x)
    (hw : Region.wanted op (yielded ops a.tmps) = true) (hx : a.eval x = .pointer (some ⟨g, 0, none⟩)) (h : ∀ K : Act → World → Prop, (∀ a w, wpList Tryd.prog ops Q rest a w → K a w) → K (a.put op.dst (.agg vs.toArray)) w) : wpList Tryd.prog ops Q (op :: rest) a w :=
  wpList_step fun K hK => by rw [if_pos hw]; exact wp_load_mid _ x ho g 0 hx vs _ C.range Tryd.underlying62 rfl (by rw [hv]; kernel_rfl) (h K hK)
theorem ret_b {a b : Bool} (h : a = b) : Ending.returned (.bool a) = .returned (.bool b) := by rw [h]
set_option maxHeartbeats 3200000 in
theorem lc_to (x : CV) (s6 s7 s8 s9 s10 s11 s12 s13 s14 : Value) (m0 m1 m2 m3 m4 m5 m6 m7 n0 n1 n2 n3 n4 n5 n6 n7 : Int) (w : World) (hl : LisV w x s6 s7 s8 s9 s10 s11 s12 s13 s14) (hs : Small x) :
    Calls Tryd.prog 36 #[.agg #[.int .i64 x.fq, .int .i64 x.iv, .int .i64 x.ct, .bool x.un, .int .i64 x.ua, .bool x.ut, s6, s7, s8, s9, s10, s11, s12, s13, s14, .int .i64 x.wk], .agg #[.int .i64 m0, .int .i64 m1, .int .i64 m2, .int .i64 m3, .int .i64 m4, .int .i64 m5, .int .i64 m6, .int .i64 m7], .agg #[.int .i64 n0, .int .i64 n1, .int .i64 n2, .int .i64 n3, .int .i64 n4, .int .i64 n5, .int .i64 n6, .int .i64 n7]] w fun e w' => e = .returned (.bool (onB x.sc (decide (1 < x.fq)) m5 n5 && (onB x.mi (decide (2 < x.fq)) m6 n6 && onB x.hr (decide (3 < x.fq)) m7 n7))) ∧ Below w.heap.size w w' := by
  have hs := Lib.hid hs
  have L := Lib.hid hl
  clear hl
  obtain ⟨b1, h1⟩ : ∃ b, onB x.sc (decide (1 < x.fq)) m5 n5 = b := ⟨_, rfl⟩
  obtain ⟨b2, h2⟩ : ∃ b, onB x.mi (decide (2 < x.fq)) m6 n6 = b := ⟨_, rfl⟩
  obtain ⟨b3, h3⟩ : ∃ b, onB x.hr (decide (3 < x.fq)) m7 n7 = b := ⟨_, rfl⟩
  rw [h1, h2, h3]
  have H1 := Lib.hid h1
  have H2 := Lib.hid h2
  have H3 := Lib.hid h3
  clear h1 h2 h3
  go_enter Tryd.func36, Tryd.ntmps36
  go_upto_region 0 with fail
  go_cut [3, 4, 5] (fun p q r wz => p = .pointer (some ⟨w.heap.size, 0, none⟩) ∧ q = .pointer (some ⟨w.heap.size + 1, 0, none⟩) ∧ r = .pointer (some ⟨w.heap.size + 2, 0, none⟩) ∧ Hid (Cs (w.heap.size) wz [.int .i64 x.fq, .int .i64 x.iv, .int .i64 x.ct, .bool x.un, .int .i64 x.ua, .bool x.ut, s6, s7, s8, s9, s10, s11, s12, s13, s14, .int .i64 x.wk]) ∧ Hid (Cs (w.heap.size + 1) wz [.int .i64 m0, .int .i64 m1, .int .i64 m2, .int .i64 m3, .int .i64 m4, .int .i64 m5, .int .i64 m6, .int .i64 m7]) ∧ Hid (Cs (w.heap.size + 2) wz [.int .i64 n0, .int .i64 n1, .int .i64 n2, .int .i64 n3, .int .i64 n4, .int .i64 n5, .int .i64 n6, .int .i64 n7]) ∧ Hid (Below w.heap.size w wz))
  case first =>
    go_wp2
    go_meet
    exact ⟨rfl, rfl, rfl, Lib.hid (((Cs.new w _ _).alloc _).alloc _), Lib.hid ((cs_at (by simp) _ _).alloc _), Lib.hid (cs_at (by simp) _ _), Lib.hid ((((Below.refl _ _).alloc (Nat.le_refl _) _).alloc (by simp) _).alloc (by simp; try omega) _)⟩
  case rest =>
  obtain ⟨w1, rfl⟩ : ∃ x : World, x = wc := ⟨_, rfl⟩
  obtain ⟨rfl, rfl, rfl, RB, MB, NB, B⟩ := hcut
  have l0 := (RB.out.2 0 _ rfl).1
  have l6 := (RB.out.2 6 _ rfl).1
  have l7 := (RB.out.2 7 _ rfl).1
  have l8 := (RB.out.2 8 _ rfl).1
  have k5 := (MB.out.2 5 _ rfl).1
  have k6 := (MB.out.2 6 _ rfl).1
  have k7 := (MB.out.2 7 _ rfl).1
  have j5 := (NB.out.2 5 _ rfl).1
  have j6 := (NB.out.2 6 _ rfl).1
  have j7 := (NB.out.2 7 _ rfl).1
  have L1 := Lib.hid (L.out.below B.out)
  clear RB MB NB L
  go_wp2_with fail
  refine (one_to s6 x.sc (decide (1 < x.fq)) m5 n5 _ L1.out.h6 hs.out.sc).mono ?_
  rintro e w2 ⟨rfl, rfl⟩
  rw [H1.out]
  cases b1 with
  | false =>
    go_wp2
    go_ret
    exact ⟨ret_b rfl, B.out⟩
  | true =>
  go_wp2_with fail
  refine (one_to s7 x.mi (decide (2 < x.fq)) m6 n6 _ L1.out.h7 hs.out.mi).mono ?_
  rintro e w2 ⟨rfl, rfl⟩
  rw [H2.out]
  cases b2 with
  | false =>
    go_wp2
    go_ret
    exact ⟨ret_b rfl, B.out⟩
  | true =>
  go_wp2_with fail
  refine (one_to s8 x.hr (decide (3 < x.fq)) m7 n7 _ L1.out.h8 hs.out.hr).mono ?_
  rintro e w2 ⟨rfl, rfl⟩
  rw [H3.out]
  go_wp2
  go_ret
  exact ⟨ret_b rfl, B.out⟩
theorem yl_to (y : Int) (w : World) : Calls Tryd.prog 70 #[.int .i64 y] w fun e w' => e = .returned (.int .i64 (ylen y)) ∧ w = w' := by
  unfold ylen
  obtain ⟨b, hb⟩ : ∃ b, Cal.long y = b := ⟨_, rfl⟩
  rw [hb]
  go_enter Tryd.func70, Tryd.ntmps70
  go_wp2_with fail
  refine (Civ.long_any y _).mono ?_
  rintro e w2 ⟨rfl, rfl⟩
  rw [hb]
  cases b with
  | false =>
    go_wp2
    go_ret
    exact ⟨rfl, rfl⟩
  | true =>
    go_wp2
    go_ret
    exact ⟨rfl, rfl⟩
theorem noN_bd (n k : Int) : -1000000 ≤ noN n k ∧ noN n k ≤ 1000000 := by
  rw [noN]
  split
  · rename_i h
    have h := of_decide_eq_true h
    have sb := Wk.since_bd k n
    unfold Wk.mid
    obtain ⟨z, hz⟩ : ∃ z, n - Wk.since k n + 3 = z := ⟨_, rfl⟩
    rw [hz]
    have zb : -719600 ≤ z ∧ z ≤ 2933300 := by omega
    unfold Cal.yr Cal.ny
    split
    · omega
    · split <;> omega
  · omega
theorem wkV_bd (y k : Int) : -1000000 ≤ wkV y k ∧ wkV y k ≤ 1000000 := by
  rw [wkV]
  split
  · rename_i h
    have a := Wk.fw_bd (y := y) (k := k) (by omega) (by omega)
    have b := Wk.fw_bd (y := y + 1) (k := k) (by omega) (by omega)
    omega
  · omega
theorem wk_ok {n k : Int} (hk : 0 ≤ k ∧ k ≤ 6) (h : -719162 ≤ n ∧ n < 2932897) : Wk.noOk n k = true := by
  have c1 : Cal.ny 1 = -719162 := by decide +kernel
  have c2 : Cal.ny 10000 = 2932897 := by decide +kernel
  have y1 := Cal.yr_le (n := n) (y := 1) (by omega) (by omega) (by omega)
  have y2 := Cal.yr_lt (n := n) (y := 10000) (by omega) (by omega) (by omega)
  exact decide_eq_true (by omega)
set_option maxHeartbeats 3200000 in
theorem lw_to (x : CV) (s6 s7 s8 s9 s10 s11 s12 s13 s14 : Value) (n0 n1 n2 n3 n4 n5 n6 n7 : Int) (b : Bool) (w : World) (hA : Ahead w) (hl : LisV w x s6 s7 s8 s9 s10 s11 s12 s13 s14) (hs : Small x) (hk : 0 ≤ x.wk ∧ x.wk ≤ 6) (hn : -719162 ≤ n0 ∧ n0 < 2932897) (hb : Hid (lwB x n0 = b)) :
    Calls Tryd.prog 71 #[.agg #[.int .i64 x.fq, .int .i64 x.iv, .int .i64 x.ct, .bool x.un, .int .i64 x.ua, .bool x.ut, s6, s7, s8, s9, s10, s11, s12, s13, s14, .int .i64 x.wk], .agg #[.int .i64 n0, .int .i64 n1, .int .i64 n2, .int .i64 n3, .int .i64 n4, .int .i64 n5, .int .i64 n6, .int .i64 n7]] w fun e w' => e = .returned (.bool b) ∧ Below w.heap.size w w' := by
  have hs := Lib.hid hs
  have HA := Lib.hid hA
  have L := Lib.hid hl
  have ok := wk_ok hk hn
  obtain ⟨Y, hY⟩ : ∃ y, noY n0 x.wk = y := ⟨_, rfl⟩
  obtain ⟨N, hN⟩ : ∃ y, noN n0 x.wk = y := ⟨_, rfl⟩
  have nb := noN_bd n0 x.wk
  have hE : noE n0 x.wk = 0 := by rw [noE, if_pos hk, if_pos ok]
  obtain ⟨Z, hZ⟩ : ∃ y, (if 1 ≤ Y ∧ Y ≤ 9999 then Y else 400) = y := ⟨_, rfl⟩
  obtain ⟨V, hV⟩ : ∃ y, wkV Z x.wk = y := ⟨_, rfl⟩
  have vb := wkV_bd Z x.wk
  rw [hV] at vb
  rw [hN] at nb
  have zE : wkE Z x.wk = 0 := by rw [wkE, if_pos hk, if_pos (by rw [← hZ]; split <;> omega)]
  have HB : Hid (ewB x.wn N V = b) := Lib.hid (by
    have q := hb.out
    rw [lwB, wkY, hY, hN, hZ, hV] at q
    exact q)
  have HY := Lib.hid (And.intro hY (And.intro hN hE))
  have HV := Lib.hid (And.intro hV zE)
  have HZ := Lib.hid hZ
  clear hY hN hE hV zE hZ hA hl ok hb
  go_enter Tryd.func71, Tryd.ntmps71
  go_upto_region 0 with fail
  go_cut [2, 3] (fun p q wz => p = .pointer (some ⟨w.heap.size, 0, none⟩) ∧ q = .pointer (some ⟨w.heap.size + 1, 0, none⟩) ∧ Hid (Cs (w.heap.size) wz [.int .i64 x.fq, .int .i64 x.iv, .int .i64 x.ct, .bool x.un, .int .i64 x.ua, .bool x.ut, s6, s7, s8, s9, s10, s11, s12, s13, s14, .int .i64 x.wk]) ∧ Hid (Cs (w.heap.size + 1) wz [.int .i64 n0, .int .i64 n1, .int .i64 n2, .int .i64 n3, .int .i64 n4, .int .i64 n5, .int .i64 n6, .int .i64 n7]) ∧ Hid (Below w.heap.size w wz))
  case first =>
    go_wp2
    go_meet
    exact ⟨rfl, rfl, Lib.hid ((Cs.new w _ _).alloc _), Lib.hid (cs_at (by simp) _ _), Lib.hid (((Below.refl _ _).alloc (Nat.le_refl _) _).alloc (by simp) _)⟩
  case rest =>
  obtain ⟨w1, rfl⟩ : ∃ x : World, x = wc := ⟨_, rfl⟩
  obtain ⟨rfl, rfl, RB, MB, B⟩ := hcut
  have k0 := (MB.out.2 0 _ rfl).1
  have l15 := (RB.out.2 15 _ rfl).1
  go_wp2_with fail
  refine (Wk.no_any n0 x.wk _ (HA.out.stays B.out)).mono ?_
  rintro e w2 ⟨rfl, k⟩
  rw [HY.out.1, HY.out.2.1, HY.out.2.2]
  have RB := Lib.hid (RB.out.below k)
  have B := Lib.hid (bstep B.out k)
  clear k k0 l15 MB
  obtain ⟨c, hc⟩ : ∃ c, decide (1 ≤ Y ∧ Y ≤ 9999) = c := ⟨_, rfl⟩
  have l15 := (RB.out.2 15 _ rfl).1
  go_wp2_with fail
  refine (isy_to Y _).mono ?_
  rintro e w3 ⟨rfl, rfl⟩
  rw [hc]
  cases c with
  | false =>
    obtain rfl : Z = 400 := by rw [← HZ.out, if_neg (of_decide_eq_false hc)]
    clear HZ
    go_wp2_with fail
    refine (Wk.weeks_any _ x.wk _ (HA.out.stays B.out)).mono ?_
    rintro e w4 ⟨rfl, k⟩
    rw [HV.out.1, HV.out.2]
    have RB := Lib.hid (RB.out.below k)
    have B := Lib.hid (bstep B.out k)
    clear k l15
    have l12 := (RB.out.2 12 _ rfl).1
    go_wp2_with fail
    refine (ew_to s12 x.wn N V _ ((L.out.below B.out).h12) hs.out.wn nb vb).mono ?_
    rintro e w5 ⟨rfl, rfl⟩
    rw [HB.out]
    go_wp2
    go_ret
    exact ⟨ret_b rfl, B.out⟩
  | true =>
    obtain rfl : Z = Y := by rw [← HZ.out, if_pos (of_decide_eq_true hc)]
    clear HZ
    go_wp2_with fail
    refine (Wk.weeks_any _ x.wk _ (HA.out.stays B.out)).mono ?_
    rintro e w4 ⟨rfl, k⟩
    rw [HV.out.1, HV.out.2]
    have RB := Lib.hid (RB.out.below k)
    have B := Lib.hid (bstep B.out k)
    clear k l15
    have l12 := (RB.out.2 12 _ rfl).1
    go_wp2_with fail
    refine (ew_to s12 x.wn N V _ ((L.out.below B.out).h12) hs.out.wn nb vb).mono ?_
    rintro e w5 ⟨rfl, rfl⟩
    rw [HB.out]
    go_wp2
    go_ret
    exact ⟨ret_b rfl, B.out⟩
end Fil
end Go.Proofs.YtpcmfgfhdnfmcaaDoor
