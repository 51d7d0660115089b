/-
  Several texts in one (FilF, FilG, FilI).
-/
import Derived.Test.YtpbbnkgfheafpaaGreatDoorFilE
/-
  Package filter: letsClock, letsWeek, yearLen.
-/
namespace Go.Proofs.YtpbbnkgfheafpaaGreatDoor
open Go.RowKit
namespace Fil
open Rcv (CV LisV IntV DayV)
open Rck (ckE ckB Small)
open Civ (numV numE dY dM dD dnE ydV Ahead)
open Wk (noY noN noE wkV wkE nthV nthB)
open Cel
theorem cs_at {w : World} {g : Nat} (h : w.heap.size = g) (vs : List Value) (t : TypeId) : Cs g (w.alloc (Obj.cells vs.toArray t)) vs := by rw [← h]; exact Cs.new w vs t
/-- A struct's load out of a known block, in one step, guarded or not. -/
theorem ld16 {ops : Array Oper} {rest : List Oper} {op : Oper} {a : Act} {w : World} {Q : Exit → Act → World → Prop} {g : Nat} {x : Operand} {vs : List Value} (C : Cs g w vs) (hv : vs.length = 16) (ho : op.op = .load 29 x)
    (hw : Region.wanted op (yielded ops a.tmps) = true) (hx : a.eval x = .pointer (some ⟨g, 0, none⟩)) (h : ∀ K : Act → World → Prop, (∀ a w, wpList Tryz.prog ops Q rest a w → K a w) → K (a.put op.dst (.agg vs.toArray)) w) : wpList Tryz.prog ops Q (op :: rest) a w :=
  wpList_step fun K hK => by rw [if_pos hw]; exact wp_load_mid _ x ho g 0 hx vs _ C.range Tryz.underlying29 rfl (by rw [hv]; kernel_rfl) (h K hK)
theorem ld8 {ops : Array Oper} {rest : List Oper} {op : Oper} {a : Act} {w : World} {Q : Exit → Act → World → Prop} {g : Nat} {x : Operand} {vs : List Value} (C : Cs g w vs) (hv : vs.length = 8) (ho : op.op = .load 91 x)
    (hw : Region.wanted op (yielded ops a.tmps) = true) (hx : a.eval x = .pointer (some ⟨g, 0, none⟩)) (h : ∀ K : Act → World → Prop, (∀ a w, wpList Tryz.prog ops Q rest a w → K a w) → K (a.put op.dst (.agg vs.toArray)) w) : wpList Tryz.prog ops Q (op :: rest) a w :=
  wpList_step fun K hK => by rw [if_pos hw]; exact wp_load_mid _ x ho g 0 hx vs _ C.range Tryz.underlying91 rfl (by rw [hv]; kernel_rfl) (h K hK)
theorem ret_b {a b : Bool} (h : a = b) : Ending.returned (.bool a) = .returned (.bool b) := by rw [h]
set_option maxHeartbeats 3200000 in
theorem lc_to (x : CV) (s6 s7 s8 s9 s10 s11 s12 s13 s14 : Value) (m0 m1 m2 m3 m4 m5 m6 m7 n0 n1 n2 n3 n4 n5 n6 n7 : Int) (w : World) (hl : LisV w x s6 s7 s8 s9 s10 s11 s12 s13 s14) (hs : Small x) :
    Calls Tryz.prog 68 #[.agg #[.int .i64 x.fq, .int .i64 x.iv, .int .i64 x.ct, .bool x.un, .int .i64 x.ua, .bool x.ut, s6, s7, s8, s9, s10, s11, s12, s13, s14, .int .i64 x.wk], .agg #[.int .i64 m0, .int .i64 m1, .int .i64 m2, .int .i64 m3, .int .i64 m4, .int .i64 m5, .int .i64 m6, .int .i64 m7], .agg #[.int .i64 n0, .int .i64 n1, .int .i64 n2, .int .i64 n3, .int .i64 n4, .int .i64 n5, .int .i64 n6, .int .i64 n7]] w fun e w' => e = .returned (.bool (onB x.sc (decide (1 < x.fq)) m5 n5 && (onB x.mi (decide (2 < x.fq)) m6 n6 && onB x.hr (decide (3 < x.fq)) m7 n7))) ∧ Below w.heap.size w w' := by
  have hs := Lib.hid hs
  have L := Lib.hid hl
  clear hl
  obtain ⟨b1, h1⟩ : ∃ b, onB x.sc (decide (1 < x.fq)) m5 n5 = b := ⟨_, rfl⟩
  obtain ⟨b2, h2⟩ : ∃ b, onB x.mi (decide (2 < x.fq)) m6 n6 = b := ⟨_, rfl⟩
  obtain ⟨b3, h3⟩ : ∃ b, onB x.hr (decide (3 < x.fq)) m7 n7 = b := ⟨_, rfl⟩
  rw [h1, h2, h3]
  have H1 := Lib.hid h1
  have H2 := Lib.hid h2
  have H3 := Lib.hid h3
  clear h1 h2 h3
  go_enter Tryz.func68, Tryz.ntmps68
  go_upto_region 0 with fail
  go_cut [3, 4, 5] (fun p q r wz => p = .pointer (some ⟨w.heap.size, 0, none⟩) ∧ q = .pointer (some ⟨w.heap.size + 1, 0, none⟩) ∧ r = .pointer (some ⟨w.heap.size + 2, 0, none⟩) ∧ Hid (Cs (w.heap.size) wz [.int .i64 x.fq, .int .i64 x.iv, .int .i64 x.ct, .bool x.un, .int .i64 x.ua, .bool x.ut, s6, s7, s8, s9, s10, s11, s12, s13, s14, .int .i64 x.wk]) ∧ Hid (Cs (w.heap.size + 1) wz [.int .i64 m0, .int .i64 m1, .int .i64 m2, .int .i64 m3, .int .i64 m4, .int .i64 m5, .int .i64 m6, .int .i64 m7]) ∧ Hid (Cs (w.heap.size + 2) wz [.int .i64 n0, .int .i64 n1, .int .i64 n2, .int .i64 n3, .int .i64 n4, .int .i64 n5, .int .i64 n6, .int .i64 n7]) ∧ Hid (Below w.heap.size w wz))
  case first =>
    go_wp2
    go_meet
    exact ⟨rfl, rfl, rfl, Lib.hid (((Cs.new w _ _).alloc _).alloc _), Lib.hid ((cs_at (by simp) _ _).alloc _), Lib.hid (cs_at (by simp) _ _), Lib.hid ((((Below.refl _ _).alloc (Nat.le_refl _) _).alloc (by simp) _).alloc (by simp; try omega) _)⟩
  case rest =>
  obtain ⟨w1, rfl⟩ : ∃ x : World, x = wc := ⟨_, rfl⟩
  obtain ⟨rfl, rfl, rfl, RB, MB, NB, B⟩ := hcut
  have l0 := (RB.out.2 0 _ rfl).1
  have l6 := (RB.out.2 6 _ rfl).1
  have l7 := (RB.out.2 7 _ rfl).1
  have l8 := (RB.out.2 8 _ rfl).1
  have k5 := (MB.out.2 5 _ rfl).1
  have k6 := (MB.out.2 6 _ rfl).1
  have k7 := (MB.out.2 7 _ rfl).1
  have j5 := (NB.out.2 5 _ rfl).1
  have j6 := (NB.out.2 6 _ rfl).1
  have j7 := (NB.out.2 7 _ rfl).1
  have L1 := Lib.hid (L.out.below B.out)
  clear RB MB NB L
  go_wp2_with fail
  refine (one_to s6 x.sc (decide (1 < x.fq)) m5 n5 _ L1.out.h6 hs.out.sc).mono ?_
  rintro e w2 ⟨rfl, rfl⟩
  rw [H1.out]
  cases b1 with
  | false =>
    go_wp2
    go_ret
    exact ⟨ret_b rfl, B.out⟩
  | true =>
  go_wp2_with fail
  refine (one_to s7 x.mi (decide (2 < x.fq)) m6 n6 _ L1.out.h7 hs.out.mi).mono ?_
  rintro e w2 ⟨rfl, rfl⟩
  rw [H2.out]
  cases b2 with
  | false =>
    go_wp2
    go_ret
    exact ⟨ret_b rfl, B.out⟩
  | true =>
  go_wp2_with fail
  refine (one_to s8 x.hr (decide (3 < x.fq)) m7 n7 _ L1.out.h8 hs.out.hr).mono ?_
  rintro e w2 ⟨rfl, rfl⟩
  rw [H3.out]
  go_wp2
  go_ret
  exact ⟨ret_b rfl, B.out⟩
theorem yl_to (y : Int) (w : World) : Calls Tryz.prog 81 #[.int .i64 y] w fun e w' => e = .returned (.int .i64 (ylen y)) ∧ w = w' := by
  unfold ylen
  obtain ⟨b, hb⟩ : ∃ b, Cal.long y = b := ⟨_, rfl⟩
  rw [hb]
  go_enter Tryz.func81, Tryz.ntmps81
  go_wp2_with fail
  refine (Civ.long_any y _).mono ?_
  rintro e w2 ⟨rfl, rfl⟩
  rw [hb]
  cases b with
  | false =>
    go_wp2
    go_ret
    exact ⟨rfl, rfl⟩
  | true =>
    go_wp2
    go_ret
    exact ⟨rfl, rfl⟩
theorem noN_bd (n k : Int) : -1000000 ≤ noN n k ∧ noN n k ≤ 1000000 := by
  rw [noN]
  split
  · rename_i h
    have h := of_decide_eq_true h
    have sb := Wk.since_bd k n
    unfold Wk.mid
    obtain ⟨z, hz⟩ : ∃ z, n - Wk.since k n + 3 = z := ⟨_, rfl⟩
    rw [hz]
    have zb : -719600 ≤ z ∧ z ≤ 2933300 := by omega
    unfold Cal.yr Cal.ny
    split
    · omega
    · split <;> omega
  · omega
theorem wkV_bd (y k : Int) : -1000000 ≤ wkV y k ∧ wkV y k ≤ 1000000 := by
  rw [wkV]
  split
  · rename_i h
    have a := Wk.fw_bd (y := y) (k := k) (by omega) (by omega)
    have b := Wk.fw_bd (y := y + 1) (k := k) (by omega) (by omega)
    omega
  · omega
theorem wk_ok {n k : Int} (hk : 0 ≤ k ∧ k ≤ 6) (h : -719162 ≤ n ∧ n < 2932897) : Wk.noOk n k = true := by
  have c1 : Cal.ny 1 = -719162 := by decide +kernel
  have c2 : Cal.ny 10000 = 2932897 := by decide +kernel
  have y1 := Cal.yr_le (n := n) (y := 1) (by omega) (by omega) (by omega)
  have y2 := Cal.yr_lt (n := n) (y := 10000) (by omega) (by omega) (by omega)
  exact decide_eq_true (by omega)
set_option maxHeartbeats 3200000 in
theorem lw_to (x : CV) (s6 s7 s8 s9 s10 s11 s12 s13 s14 : Value) (n0 n1 n2 n3 n4 n5 n6 n7 : Int) (b : Bool) (w : World) (hA : Ahead w) (hl : LisV w x s6 s7 s8 s9 s10 s11 s12 s13 s14) (hs : Small x) (hk : 0 ≤ x.wk ∧ x.wk ≤ 6) (hn : -719162 ≤ n0 ∧ n0 < 2932897) (hb : Hid (lwB x n0 = b)) :
    Calls Tryz.prog 82 #[.agg #[.int .i64 x.fq, .int .i64 x.iv, .int .i64 x.ct, .bool x.un, .int .i64 x.ua, .bool x.ut, s6, s7, s8, s9, s10, s11, s12, s13, s14, .int .i64 x.wk], .agg #[.int .i64 n0, .int .i64 n1, .int .i64 n2, .int .i64 n3, .int .i64 n4, .int .i64 n5, .int .i64 n6, .int .i64 n7]] w fun e w' => e = .returned (.bool b) ∧ Below w.heap.size w w' := by
  have hs := Lib.hid hs
  have HA := Lib.hid hA
  have L := Lib.hid hl
  have ok := wk_ok hk hn
  obtain ⟨Y, hY⟩ : ∃ y, noY n0 x.wk = y := ⟨_, rfl⟩
  obtain ⟨N, hN⟩ : ∃ y, noN n0 x.wk = y := ⟨_, rfl⟩
  have nb := noN_bd n0 x.wk
  have hE : noE n0 x.wk = 0 := by rw [noE, if_pos hk, if_pos ok]
  obtain ⟨Z, hZ⟩ : ∃ y, (if 1 ≤ Y ∧ Y ≤ 9999 then Y else 400) = y := ⟨_, rfl⟩
  obtain ⟨V, hV⟩ : ∃ y, wkV Z x.wk = y := ⟨_, rfl⟩
  have vb := wkV_bd Z x.wk
  rw [hV] at vb
  rw [hN] at nb
  have zE : wkE Z x.wk = 0 := by rw [wkE, if_pos hk, if_pos (by rw [← hZ]; split <;> omega)]
  have HB : Hid (ewB x.wn N V = b) := Lib.hid (by
    have q := hb.out
    rw [lwB, wkY, hY, hN, hZ, hV] at q
    exact q)
  have HY := Lib.hid (And.intro hY (And.intro hN hE))
  have HV := Lib.hid (And.intro hV zE)
  have HZ := Lib.hid hZ
  clear hY hN hE hV zE hZ hA hl ok hb
  go_enter Tryz.func82, Tryz.ntmps82
  go_upto_region 0 with fail
  go_cut [2, 3] (fun p q wz => p = .pointer (some ⟨w.heap.size, 0, none⟩) ∧ q = .pointer (some ⟨w.heap.size + 1, 0, none⟩) ∧ Hid (Cs (w.heap.size) wz [.int .i64 x.fq, .int .i64 x.iv, .int .i64 x.ct, .bool x.un, .int .i64 x.ua, .bool x.ut, s6, s7, s8, s9, s10, s11, s12, s13, s14, .int .i64 x.wk]) ∧ Hid (Cs (w.heap.size + 1) wz [.int .i64 n0, .int .i64 n1, .int .i64 n2, .int .i64 n3, .int .i64 n4, .int .i64 n5, .int .i64 n6, .int .i64 n7]) ∧ Hid (Below w.heap.size w wz))
  case first =>
    go_wp2
    go_meet
    exact ⟨rfl, rfl, Lib.hid ((Cs.new w _ _).alloc _), Lib.hid (cs_at (by simp) _ _), Lib.hid (((Below.refl _ _).alloc (Nat.le_refl _) _).alloc (by simp) _)⟩
  case rest =>
  obtain ⟨w1, rfl⟩ : ∃ x : World, x = wc := ⟨_, rfl⟩
  obtain ⟨rfl, rfl, RB, MB, B⟩ := hcut
  have k0 := (MB.out.2 0 _ rfl).1
  have l15 := (RB.out.2 15 _ rfl).1
  go_wp2_with fail
  refine (Wk.no_any n0 x.wk _ (HA.out.stays B.out)).mono ?_
  rintro e w2 ⟨rfl, k⟩
  rw [HY.out.1, HY.out.2.1, HY.out.2.2]
  have RB := Lib.hid (RB.out.below k)
  have B := Lib.hid (bstep B.out k)
  clear k k0 l15 MB
  obtain ⟨c, hc⟩ : ∃ c, decide (1 ≤ Y ∧ Y ≤ 9999) = c := ⟨_, rfl⟩
  have l15 := (RB.out.2 15 _ rfl).1
  go_wp2_with fail
  refine (isy_to Y _).mono ?_
  rintro e w3 ⟨rfl, rfl⟩
  rw [hc]
  cases c with
  | false =>
    obtain rfl : Z = 400 := by rw [← HZ.out, if_neg (of_decide_eq_false hc)]
    clear HZ
    go_wp2_with fail
    refine (Wk.weeks_any _ x.wk _ (HA.out.stays B.out)).mono ?_
    rintro e w4 ⟨rfl, k⟩
    rw [HV.out.1, HV.out.2]
    have RB := Lib.hid (RB.out.below k)
    have B := Lib.hid (bstep B.out k)
    clear k l15
    have l12 := (RB.out.2 12 _ rfl).1
    go_wp2_with fail
    refine (ew_to s12 x.wn N V _ ((L.out.below B.out).h12) hs.out.wn nb vb).mono ?_
    rintro e w5 ⟨rfl, rfl⟩
    rw [HB.out]
    go_wp2
    go_ret
    exact ⟨ret_b rfl, B.out⟩
  | true =>
    obtain rfl : Z = Y := by rw [← HZ.out, if_pos (of_decide_eq_true hc)]
    clear HZ
    go_wp2_with fail
    refine (Wk.weeks_any _ x.wk _ (HA.out.stays B.out)).mono ?_
    rintro e w4 ⟨rfl, k⟩
    rw [HV.out.1, HV.out.2]
    have RB := Lib.hid (RB.out.below k)
    have B := Lib.hid (bstep B.out k)
    clear k l15
    have l12 := (RB.out.2 12 _ rfl).1
    go_wp2_with fail
    refine (ew_to s12 x.wn N V _ ((L.out.below B.out).h12) hs.out.wn nb vb).mono ?_
    rintro e w5 ⟨rfl, rfl⟩
    rw [HB.out]
    go_wp2
    go_ret
    exact ⟨ret_b rfl, B.out⟩
end Fil
end Go.Proofs.YtpbbnkgfheafpaaGreatDoor
/-
  Package filter: letsNumbers.
-/
namespace Go.Proofs.YtpbbnkgfheafpaaGreatDoor
open Go.RowKit
namespace Fil
open Rcv (CV LisV IntV DayV)
open Rck (ckE ckB Small)
open Civ (numV numE dY dM dD dnE ydV Ahead)
open Wk (noY noN noE wkV wkE nthV nthB)
open Cel
theorem quiet_r {P : Program} {f : FuncId} {args : Array Value} {w : World} {n : Nat} {v : Value}
    (h : Calls P f args (w.drewN n) fun e w' => e = .returned v ∧ w' = w.drewN n) : Calls P f args (w.drewN n) fun e w' => e = .returned v ∧ ∃ m, w' = w.drewN m :=
  h.mono fun _ _ ⟨he, hm⟩ => ⟨he, n, hm⟩
theorem ew_b (v : Value) (L : List Int) (n m : Int) (b : Bool) (w : World) (hv : IntV w v L) (hL : L.length ≤ 1000000) (hn : -1000000 ≤ n ∧ n ≤ 1000000) (hm : -1000000 ≤ m ∧ m ≤ 1000000) (hb : Hid (ewB L n m = b)) :
    Calls Tryz.prog 80 #[v, .int .i64 n, .int .i64 m] w fun e w' => e = .returned (.bool b) ∧ w' = w := by
  rw [← hb.out]
  exact ew_to v L n m w hv hL hn hm
theorem len_v (y m l : Int) (w : World) (h : Hid (Cal.mlen y m = l)) : Calls Tryz.prog 14 #[.int .i64 y, .int .i64 m] w fun e w' => e = .returned (.int .i64 l) ∧ w' = w := by
  rw [← h.out]
  exact Civ.len_same y m w
theorem yl_v (y l : Int) (w : World) (h : Hid (ylen y = l)) : Calls Tryz.prog 81 #[.int .i64 y] w fun e w' => e = .returned (.int .i64 l) ∧ w' = w := by
  rw [← h.out]
  exact (yl_to y w).mono fun _ _ ⟨he, hm⟩ => ⟨he, hm.symm⟩
set_option maxHeartbeats 6400000 in
set_option maxRecDepth 100000 in
theorem ln_to (x : CV) (s6 s7 s8 s9 s10 s11 s12 s13 s14 : Value) (n0 n1 n2 n3 n4 n5 n6 n7 : Int) (b : Bool) (w : World) (hA : Ahead w) (hl : LisV w x s6 s7 s8 s9 s10 s11 s12 s13 s14) (hs : Small x) (hk : 0 ≤ x.wk ∧ x.wk ≤ 6) (hn : -719162 ≤ n0 ∧ n0 < 2932897) (h1 : Hid (dY n0 = n1)) (h2 : Hid (dM n0 = n2)) (h3 : Hid (dD n0 = n3)) (hd : -1000000 ≤ n3 ∧ n3 ≤ 1000000) (hb : Hid (lnB x n0 = b)) :
    Calls Tryz.prog 69 #[.agg #[.int .i64 x.fq, .int .i64 x.iv, .int .i64 x.ct, .bool x.un, .int .i64 x.ua, .bool x.ut, s6, s7, s8, s9, s10, s11, s12, s13, s14, .int .i64 x.wk], .agg #[.int .i64 n0, .int .i64 n1, .int .i64 n2, .int .i64 n3, .int .i64 n4, .int .i64 n5, .int .i64 n6, .int .i64 n7]] w fun e w' => e = .returned (.bool b) ∧ Below w.heap.size w w' := by
  obtain ⟨a10, c10, rfl⟩ := hl.h10.slice
  obtain ⟨a11, c11, rfl⟩ := hl.h11.slice
  obtain ⟨a12, c12, rfl⟩ := hl.h12.slice
  obtain ⟨a13, c13, rfl⟩ := hl.h13.slice
  have hs := Lib.hid hs
  have HA := Lib.hid hA
  have L := Lib.hid hl
  have K := Lib.hid hk
  obtain ⟨Ln, hLn⟩ : ∃ l, Cal.mlen n1 n2 = l := ⟨_, rfl⟩
  obtain ⟨Yl, hYl⟩ : ∃ l, ylen n1 = l := ⟨_, rfl⟩
  obtain ⟨Yd, hYd⟩ : ∃ l, ydV n0 = l := ⟨_, rfl⟩
  obtain ⟨b1, q1⟩ : ∃ b, x.mo.contains n2 = b := ⟨_, rfl⟩
  obtain ⟨b2, q2⟩ : ∃ b, ewB x.md n3 Ln = b := ⟨_, rfl⟩
  obtain ⟨b3, q3⟩ : ∃ b, ewB x.yd Yd Yl = b := ⟨_, rfl⟩
  obtain ⟨b4, q4⟩ : ∃ b, lwB x n0 = b := ⟨_, rfl⟩
  have ln := Cal.mlen_bd n1 n2
  rw [hLn] at ln
  have lb : -1000000 ≤ Ln ∧ Ln ≤ 1000000 := by omega
  have yb : -1000000 ≤ Yl ∧ Yl ≤ 1000000 := by rw [← hYl, ylen]; split <;> omega
  have db : -1000000 ≤ Yd ∧ Yd ≤ 1000000 := by
    rw [← hYd, ydV]
    split
    · rename_i h
      obtain ⟨a, b, _, _⟩ := Cal.yr_spec h.1 h.2
      have := Cal.ny_succ (Cal.yr n0)
      have := Cal.lp_01 (Cal.yr n0)
      omega
    · omega
  have HE : Hid (dnE n0 = 0) := Lib.hid (by rw [dnE, if_pos (by omega)])
  have HLn := Lib.hid hLn
  have HYl := Lib.hid hYl
  have HYd := Lib.hid hYd
  have Q1 := Lib.hid q1
  have Q2 := Lib.hid q2
  have Q3 := Lib.hid q3
  have Q4 := Lib.hid q4
  obtain ⟨c1, p1⟩ : ∃ c, (decide (x.mo = []) || b1) = c := ⟨_, rfl⟩
  obtain ⟨c2, p2⟩ : ∃ c, (decide (x.md = []) || b2) = c := ⟨_, rfl⟩
  obtain ⟨c3, p3⟩ : ∃ c, (decide (x.yd = []) || b3) = c := ⟨_, rfl⟩
  obtain ⟨c4, p4⟩ : ∃ c, (decide (x.wn = []) || b4) = c := ⟨_, rfl⟩
  have HB : Hid (b = (c1 && (c2 && (c3 && c4)))) := Lib.hid (by
    rw [← hb.out, ← p1, ← p2, ← p3, ← p4, ← q1, ← q2, ← q3, ← q4, ← hLn, ← hYl, ← hYd, ← h1.out, ← h2.out, ← h3.out]
    rfl)
  have P1 := Lib.hid p1
  have P2 := Lib.hid p2
  have P3 := Lib.hid p3
  have P4 := Lib.hid p4
  clear hA hl hb q1 q2 q3 q4 p1 p2 p3 p4 hLn hYl hYd ln h1 h2 h3 hk
  go_enter Tryz.func69, Tryz.ntmps69
  go_upto_region 0 with fail
  go_cut [2, 3] (fun p q wz => p = .pointer (some ⟨w.heap.size, 0, none⟩) ∧ q = .pointer (some ⟨w.heap.size + 1, 0, none⟩) ∧ Hid (Cs (w.heap.size) wz [.int .i64 x.fq, .int .i64 x.iv, .int .i64 x.ct, .bool x.un, .int .i64 x.ua, .bool x.ut, s6, s7, s8, s9, .slice a10 x.md.length c10, .slice a11 x.yd.length c11, .slice a12 x.wn.length c12, .slice a13 x.mo.length c13, s14, .int .i64 x.wk]) ∧ Hid (Cs (w.heap.size + 1) wz [.int .i64 n0, .int .i64 n1, .int .i64 n2, .int .i64 n3, .int .i64 n4, .int .i64 n5, .int .i64 n6, .int .i64 n7]) ∧ Hid (Below w.heap.size w wz))
  case first =>
    go_wp2
    go_meet
    exact ⟨rfl, rfl, Lib.hid ((Cs.new w _ _).alloc _), Lib.hid (cs_at (by simp) _ _), Lib.hid (((Below.refl _ _).alloc (Nat.le_refl _) _).alloc (by simp) _)⟩
  case rest =>
  obtain ⟨w1, rfl⟩ : ∃ x : World, x = wc := ⟨_, rfl⟩
  obtain ⟨rfl, rfl, RB, MB, B⟩ := hcut
  go_upto_region 1 with fail
  go_cut [19] (fun v wz => v = .bool (!c1) ∧ Hid (Cs w.heap.size wz [.int .i64 x.fq, .int .i64 x.iv, .int .i64 x.ct, .bool x.un, .int .i64 x.ua, .bool x.ut, s6, s7, s8, s9, .slice a10 x.md.length c10, .slice a11 x.yd.length c11, .slice a12 x.wn.length c12, .slice a13 x.mo.length c13, s14, .int .i64 x.wk]) ∧ Hid (Cs (w.heap.size + 1) wz [.int .i64 n0, .int .i64 n1, .int .i64 n2, .int .i64 n3, .int .i64 n4, .int .i64 n5, .int .i64 n6, .int .i64 n7]) ∧ Hid (Below w.heap.size w wz))
  case first =>
    have l13 := (RB.out.2 13 _ rfl).1
    have k2 := (MB.out.2 2 _ rfl).1
    by_cases he : x.mo = []
    · have z0 : x.mo.length = 0 := by rw [he]; rfl
      obtain rfl : c1 = true := by rw [← P1.out, he]; rfl
      rw [z0] at l13
      go_wp2
      go_meet
      exact ⟨rfl, RB, MB, B⟩
    · have z0 : 0 < (x.mo.length : Int) := by
        have := mt List.length_eq_zero_iff.1 he
        omega
      obtain rfl : c1 = b1 := by rw [← P1.out, decide_eq_false he, Bool.false_or]
      go_wp2_with fail
      refine (cont_to _ x.mo n2 _ ((L.out.below B.out).h13) hs.out.mo).mono ?_
      rintro e w2 ⟨rfl, rfl⟩
      rw [Q1.out]
      go_wp2
      go_meet
      exact ⟨rfl, RB, MB, B⟩
  case rest =>
  obtain ⟨w2, rfl⟩ : ∃ x : World, x = wc := ⟨_, rfl⟩
  clear RB MB B
  obtain ⟨rfl, RB, MB, B⟩ := hcut
  cases c1 with
  | false =>
    go_wp2
    go_ret
    exact ⟨ret_b (by rw [HB.out]; rfl), B.out⟩
  | true =>
  go_upto_region 3 with fail
  go_cut [39] (fun v wz => v = .bool (!c2) ∧ Hid (Cs w.heap.size wz [.int .i64 x.fq, .int .i64 x.iv, .int .i64 x.ct, .bool x.un, .int .i64 x.ua, .bool x.ut, s6, s7, s8, s9, .slice a10 x.md.length c10, .slice a11 x.yd.length c11, .slice a12 x.wn.length c12, .slice a13 x.mo.length c13, s14, .int .i64 x.wk]) ∧ Hid (Cs (w.heap.size + 1) wz [.int .i64 n0, .int .i64 n1, .int .i64 n2, .int .i64 n3, .int .i64 n4, .int .i64 n5, .int .i64 n6, .int .i64 n7]) ∧ Hid (Below w.heap.size w wz))
  case first =>
    have l10 := (RB.out.2 10 _ rfl).1
    have k1 := (MB.out.2 1 _ rfl).1
    have k2 := (MB.out.2 2 _ rfl).1
    have k3 := (MB.out.2 3 _ rfl).1
    by_cases he : x.md = []
    · have z0 : x.md.length = 0 := by rw [he]; rfl
      have g0 : decide (0 < x.md.length) = false := by rw [z0]; rfl
      obtain rfl : c2 = true := by rw [← P2.out, he]; rfl
      go_quiet (fail)
      go_wp2
      go_meet
      exact ⟨rfl, Lib.hid (RB.out.drewN _), Lib.hid (MB.out.drewN _), Lib.hid (bdrew B.out _)⟩
    · have z0 : 0 < (x.md.length : Int) := by
        have := mt List.length_eq_zero_iff.1 he
        omega
      have g0 : decide (0 < x.md.length) = true := decide_eq_true (by omega)
      obtain rfl : c2 = b2 := by rw [← P2.out, decide_eq_false he, Bool.false_or]
      have V := Lib.hid (L.out.below B.out).h10
      go_quiet (first | (go_at_call 14; exact quiet_r (len_v n1 n2 Ln _ HLn)) | (go_at_call 80; exact quiet_r (ew_b _ x.md n3 Ln _ _ (V.out.drew _) hs.out.md hd lb Q2)))
      go_wp2
      go_meet
      exact ⟨rfl, Lib.hid (RB.out.drewN _), Lib.hid (MB.out.drewN _), Lib.hid (bdrew B.out _)⟩
  case rest =>
  obtain ⟨w2, rfl⟩ : ∃ x : World, x = wc := ⟨_, rfl⟩
  clear RB MB B
  obtain ⟨rfl, RB, MB, B⟩ := hcut
  cases c2 with
  | false =>
    go_wp2
    go_ret
    exact ⟨ret_b (by rw [HB.out]; rfl), B.out⟩
  | true =>
  by_cases he : x.yd = []
  · obtain rfl : c3 = true := by rw [← P3.out, he]; rfl
    have l11 := (RB.out.2 11 _ rfl).1
    have y0 : x.yd.length = 0 := by rw [he]; rfl
    rw [y0] at l11
    go_upto_region 5 with fail
    go_cut [43] (fun v wz => v = .bool false ∧ Hid (Cs w.heap.size wz [.int .i64 x.fq, .int .i64 x.iv, .int .i64 x.ct, .bool x.un, .int .i64 x.ua, .bool x.ut, s6, s7, s8, s9, .slice a10 x.md.length c10, .slice a11 x.yd.length c11, .slice a12 x.wn.length c12, .slice a13 x.mo.length c13, s14, .int .i64 x.wk]) ∧ Hid (Cs (w.heap.size + 1) wz [.int .i64 n0, .int .i64 n1, .int .i64 n2, .int .i64 n3, .int .i64 n4, .int .i64 n5, .int .i64 n6, .int .i64 n7]) ∧ Hid (Below w.heap.size w wz))
    case first =>
      go_wp2
      go_meet
      exact ⟨rfl, RB, MB, B⟩
    case rest =>
    clear l11 y0 he
    obtain ⟨w2, rfl⟩ : ∃ x : World, x = wc := ⟨_, rfl⟩
    clear RB MB B
    obtain ⟨rfl, RB, MB, B⟩ := hcut
    have l12 := (RB.out.2 12 _ rfl).1
    by_cases he4 : x.wn = []
    · have z0 : x.wn.length = 0 := by rw [he4]; rfl
      obtain rfl : c4 = true := by rw [← P4.out, he4]; rfl
      rw [z0] at l12
      go_wp2
      go_ret
      exact ⟨ret_b (by rw [HB.out]; rfl), B.out⟩
    · have z1 : ¬ x.wn.length = 0 := fun h => he4 (List.length_eq_zero_iff.1 h)
      have z2 : ((x.wn.length : Int) == 0) = false := beq_eq_false_iff_ne.2 (by omega)
      obtain rfl : c4 = b4 := by rw [← P4.out, decide_eq_false he4, Bool.false_or]
      have l0 := (RB.out.2 0 _ rfl).1
      have l1 := (RB.out.2 1 _ rfl).1
      have l2 := (RB.out.2 2 _ rfl).1
      have l3 := (RB.out.2 3 _ rfl).1
      have l4 := (RB.out.2 4 _ rfl).1
      have l5 := (RB.out.2 5 _ rfl).1
      have l6 := (RB.out.2 6 _ rfl).1
      have l7 := (RB.out.2 7 _ rfl).1
      have l8 := (RB.out.2 8 _ rfl).1
      have l9 := (RB.out.2 9 _ rfl).1
      have l10 := (RB.out.2 10 _ rfl).1
      have l11 := (RB.out.2 11 _ rfl).1
      have l13 := (RB.out.2 13 _ rfl).1
      have l14 := (RB.out.2 14 _ rfl).1
      have l15 := (RB.out.2 15 _ rfl).1
      have m0 := (MB.out.2 0 _ rfl).1
      have m1 := (MB.out.2 1 _ rfl).1
      have m2 := (MB.out.2 2 _ rfl).1
      have m3 := (MB.out.2 3 _ rfl).1
      have m4 := (MB.out.2 4 _ rfl).1
      have m5 := (MB.out.2 5 _ rfl).1
      have m6 := (MB.out.2 6 _ rfl).1
      have m7 := (MB.out.2 7 _ rfl).1
      go_wp2_with fail
      refine (lw_to x _ _ _ _ _ _ _ _ _ n0 n1 n2 n3 n4 n5 n6 n7 c4 _ (HA.out.stays B.out) (L.out.below B.out) hs.out K.out hn Q4).mono ?_
      rintro e w4 ⟨rfl, k⟩
      go_wp2
      go_ret
      exact ⟨ret_b (by rw [HB.out]; rfl), bstep B.out k⟩
  · obtain rfl : c3 = b3 := by rw [← P3.out, decide_eq_false he, Bool.false_or]
    have y0 : 0 < (x.yd.length : Int) := by
      have := mt List.length_eq_zero_iff.1 he
      omega
    have l11 := (RB.out.2 11 _ rfl).1
    go_upto_region 6 with fail
    go_cut [5, 6] (fun v u wz => v = .int .i64 Yd ∧ u = .int .i64 0 ∧ Hid (Cs w.heap.size wz [.int .i64 x.fq, .int .i64 x.iv, .int .i64 x.ct, .bool x.un, .int .i64 x.ua, .bool x.ut, s6, s7, s8, s9, .slice a10 x.md.length c10, .slice a11 x.yd.length c11, .slice a12 x.wn.length c12, .slice a13 x.mo.length c13, s14, .int .i64 x.wk]) ∧ Hid (Cs (w.heap.size + 1) wz [.int .i64 n0, .int .i64 n1, .int .i64 n2, .int .i64 n3, .int .i64 n4, .int .i64 n5, .int .i64 n6, .int .i64 n7]) ∧ Hid (Below w.heap.size w wz))
    case first =>
      have k0 := (MB.out.2 0 _ rfl).1
      go_wp2_with fail
      refine (Civ.yearDay_any n0 _).mono ?_
      rintro e w3 ⟨rfl, rfl⟩
      rw [HYd.out, HE.out]
      go_wp2
      go_meet
      exact ⟨rfl, rfl, RB, MB, B⟩
    case rest =>
    obtain ⟨w2, rfl⟩ : ∃ x : World, x = wc := ⟨_, rfl⟩
    clear RB MB B
    obtain ⟨rfl, rfl, RB, MB, B⟩ := hcut
    go_upto_region 7 with fail
    go_cut [62] (fun v wz => v = .bool (!c3) ∧ Hid (Cs w.heap.size wz [.int .i64 x.fq, .int .i64 x.iv, .int .i64 x.ct, .bool x.un, .int .i64 x.ua, .bool x.ut, s6, s7, s8, s9, .slice a10 x.md.length c10, .slice a11 x.yd.length c11, .slice a12 x.wn.length c12, .slice a13 x.mo.length c13, s14, .int .i64 x.wk]) ∧ Hid (Cs (w.heap.size + 1) wz [.int .i64 n0, .int .i64 n1, .int .i64 n2, .int .i64 n3, .int .i64 n4, .int .i64 n5, .int .i64 n6, .int .i64 n7]) ∧ Hid (Below w.heap.size w wz))
    case first =>
      have l11 := (RB.out.2 11 _ rfl).1
      have k1 := (MB.out.2 1 _ rfl).1
      have V := Lib.hid (L.out.below B.out).h11
      go_quiet (first | (go_at_call 81; exact quiet_r (yl_v n1 Yl _ HYl)) | (go_at_call 80; exact quiet_r (ew_b _ x.yd Yd Yl _ _ (V.out.drew _) hs.out.yd db yb Q3)))
      go_wp2
      go_meet
      exact ⟨rfl, Lib.hid (RB.out.drewN _), Lib.hid (MB.out.drewN _), Lib.hid (bdrew B.out _)⟩
    case rest =>
    obtain ⟨w2, rfl⟩ : ∃ x : World, x = wc := ⟨_, rfl⟩
    clear RB MB B
    obtain ⟨rfl, RB, MB, B⟩ := hcut
    cases c3 with
    | false =>
      go_wp2
      go_ret
      exact ⟨ret_b (by rw [HB.out]; rfl), B.out⟩
    | true =>
    have l12 := (RB.out.2 12 _ rfl).1
    by_cases he4 : x.wn = []
    · have z0 : x.wn.length = 0 := by rw [he4]; rfl
      obtain rfl : c4 = true := by rw [← P4.out, he4]; rfl
      rw [z0] at l12
      go_wp2
      go_ret
      exact ⟨ret_b (by rw [HB.out]; rfl), B.out⟩
    · have z1 : ¬ x.wn.length = 0 := fun h => he4 (List.length_eq_zero_iff.1 h)
      have z2 : ((x.wn.length : Int) == 0) = false := beq_eq_false_iff_ne.2 (by omega)
      obtain rfl : c4 = b4 := by rw [← P4.out, decide_eq_false he4, Bool.false_or]
      have l0 := (RB.out.2 0 _ rfl).1
      have l1 := (RB.out.2 1 _ rfl).1
      have l2 := (RB.out.2 2 _ rfl).1
      have l3 := (RB.out.2 3 _ rfl).1
      have l4 := (RB.out.2 4 _ rfl).1
      have l5 := (RB.out.2 5 _ rfl).1
      have l6 := (RB.out.2 6 _ rfl).1
      have l7 := (RB.out.2 7 _ rfl).1
      have l8 := (RB.out.2 8 _ rfl).1
      have l9 := (RB.out.2 9 _ rfl).1
      have l10 := (RB.out.2 10 _ rfl).1
      have l11 := (RB.out.2 11 _ rfl).1
      have l13 := (RB.out.2 13 _ rfl).1
      have l14 := (RB.out.2 14 _ rfl).1
      have l15 := (RB.out.2 15 _ rfl).1
      have m0 := (MB.out.2 0 _ rfl).1
      have m1 := (MB.out.2 1 _ rfl).1
      have m2 := (MB.out.2 2 _ rfl).1
      have m3 := (MB.out.2 3 _ rfl).1
      have m4 := (MB.out.2 4 _ rfl).1
      have m5 := (MB.out.2 5 _ rfl).1
      have m6 := (MB.out.2 6 _ rfl).1
      have m7 := (MB.out.2 7 _ rfl).1
      go_wp2_with fail
      refine (lw_to x _ _ _ _ _ _ _ _ _ n0 n1 n2 n3 n4 n5 n6 n7 c4 _ (HA.out.stays B.out) (L.out.below B.out) hs.out K.out hn Q4).mono ?_
      rintro e w4 ⟨rfl, k⟩
      go_wp2
      go_ret
      exact ⟨ret_b (by rw [HB.out]; rfl), bstep B.out k⟩
end Fil
end Go.Proofs.YtpbbnkgfheafpaaGreatDoor
/-
  Package filter: letsWeekdays, letsLikeStart.
-/
namespace Go.Proofs.YtpbbnkgfheafpaaGreatDoor
open Go.RowKit
namespace Fil
open Rcv (CV LisV IntV DayV)
open Rck (ckE ckB Small)
open Civ (numV numE dY dM dD dnE ydV Ahead)
open Wk (noY noN noE wkV wkE nthV nthB)
open Cel
theorem any_next {L : List (Int × Int)} {f : Int × Int → Bool} {k : Nat} (hk : k < L.length) (h : (L.take k).any f = false) (h1 : f L[k] = false) : (L.take (k + 1)).any f = false := by
  rw [List.take_succ_eq_append_getElem hk, List.any_append, h]
  simp [h1]
theorem any_hit {L : List (Int × Int)} {f : Int × Int → Bool} {k : Nat} (hk : k < L.length) (h1 : f L[k] = true) : L.any f = true := List.any_eq_true.2 ⟨_, List.getElem_mem hk, h1⟩
set_option maxHeartbeats 6400000 in
set_option maxRecDepth 100000 in
theorem ld_to (x : CV) (s6 s7 s8 s9 s10 s11 s12 s13 s14 : Value) (n0 n1 n2 n3 n4 n5 n6 n7 : Int) (b : Bool) (w : World) (hl : LisV w x s6 s7 s8 s9 s10 s11 s12 s13 s14) (hs : x.dy.length ≤ 1000000) (h4 : Cal.wday n0 = n4) (hb : Hid (ldB x n0 = b))
    (hN : ∀ q ∈ x.dy, q.1 ≠ 0 → ∀ W, Below w.heap.size w W → Calls Tryz.prog 83 #[.agg #[.int .i64 x.fq, .int .i64 x.iv, .int .i64 x.ct, .bool x.un, .int .i64 x.ua, .bool x.ut, s6, s7, s8, s9, s10, s11, s12, s13, s14, .int .i64 x.wk], .agg #[.int .i64 q.1, .int .i64 q.2], .agg #[.int .i64 n0, .int .i64 n1, .int .i64 n2, .int .i64 n3, .int .i64 n4, .int .i64 n5, .int .i64 n6, .int .i64 n7]] W fun e W' => e = .returned (.bool (nthIs x n0 q)) ∧ Below W.heap.size W W') :
    Calls Tryz.prog 70 #[.agg #[.int .i64 x.fq, .int .i64 x.iv, .int .i64 x.ct, .bool x.un, .int .i64 x.ua, .bool x.ut, s6, s7, s8, s9, s10, s11, s12, s13, s14, .int .i64 x.wk], .agg #[.int .i64 n0, .int .i64 n1, .int .i64 n2, .int .i64 n3, .int .i64 n4, .int .i64 n5, .int .i64 n6, .int .i64 n7]] w fun e w' => e = .returned (.bool b) ∧ Below w.heap.size w w' := by
  have DV := hl.h9
  obtain ⟨a9, c9, rfl⟩ := DV.slice
  have NT := Lib.hid hN
  clear hN hl
  by_cases h0 : x.dy.length = 0
  · have e : x.dy = [] := List.length_eq_zero_iff.1 h0
    have hB : b = true := by rw [← hb.out, ldB, e]; rfl
    subst hB
    clear DV NT hb e h4
    rw [h0]
    go_enter Tryz.func70, Tryz.ntmps70
    go_wp2
    go_ret
    exact ⟨rfl, ((Below.refl _ _).alloc (Nat.le_refl _) _).alloc (by simp) _⟩
  · obtain ⟨b1, o1, c1, hv, hb1, k1⟩ := DV.form (by omega)
    injection hv with hv1 hv2 hv3
    subst hv1
    have HN0 : x.dy ≠ [] := fun e => h0 (by rw [e]; rfl)
    have HB : Hid (x.dy.any (dayB x n0) = b) := Lib.hid (by rw [← hb.out, ldB, decide_eq_false HN0, Bool.false_or])
    have K1 : Hid (∀ (j : Nat) (hj : j < x.dy.length), w.cell? ⟨b1, o1 + j * 2, Option.none⟩ = some (.int .i64 x.dy[j].1) ∧ w.cell? ⟨b1, o1 + j * 2 + 1, Option.none⟩ = some (.int .i64 x.dy[j].2)) := Lib.hid k1
    have HB1 := Lib.hid hb1
    obtain ⟨n, hn⟩ : ∃ n, x.dy.length = n := ⟨_, rfl⟩
    have HN := Lib.hid hn
    have H4 := Lib.hid h4
    have z0 : ((n : Int) == 0) = false := beq_eq_false_iff_ne.2 (by omega)
    have z1 : ¬ n = 0 := by omega
    clear k1 hv2 hv3 hb1 DV hb HN0 h4 h0
    rw [hn] at NT hs ⊢
    clear hn
    go_enter Tryz.func70, Tryz.ntmps70
    go_upto_region 0 with fail
    go_cut [2, 3] (fun p q wz => p = .pointer (some ⟨w.heap.size, 0, none⟩) ∧ q = .pointer (some ⟨w.heap.size + 1, 0, none⟩) ∧ Hid (Cs (w.heap.size) wz [.int .i64 x.fq, .int .i64 x.iv, .int .i64 x.ct, .bool x.un, .int .i64 x.ua, .bool x.ut, s6, s7, s8, .slice (some ⟨b1, o1, none⟩) n c9, s10, s11, s12, s13, s14, .int .i64 x.wk]) ∧ Hid (Cs (w.heap.size + 1) wz [.int .i64 n0, .int .i64 n1, .int .i64 n2, .int .i64 n3, .int .i64 n4, .int .i64 n5, .int .i64 n6, .int .i64 n7]) ∧ Hid (Below w.heap.size w wz))
    case first =>
      go_wp2
      go_meet
      exact ⟨rfl, rfl, Lib.hid ((Cs.new w _ _).alloc _), Lib.hid (cs_at (by simp) _ _), Lib.hid (((Below.refl _ _).alloc (Nat.le_refl _) _).alloc (by simp) _)⟩
    case rest =>
    obtain ⟨w1, rfl⟩ : ∃ x : World, x = wc := ⟨_, rfl⟩
    obtain ⟨rfl, rfl, RB, MB, B⟩ := hcut
    have l9 := (RB.out.2 9 _ rfl).1
    go_wp2_with fail
    go_loopw [14] (fun iv wr => ∃ k : Nat, k ≤ n ∧ iv = .int .i64 k ∧ Hid ((x.dy.take k).any (dayB x n0) = false) ∧ Hid (Cs w.heap.size wr [.int .i64 x.fq, .int .i64 x.iv, .int .i64 x.ct, .bool x.un, .int .i64 x.ua, .bool x.ut, s6, s7, s8, .slice (some ⟨b1, o1, none⟩) n c9, s10, s11, s12, s13, s14, .int .i64 x.wk]) ∧ Hid (Cs (w.heap.size + 1) wr [.int .i64 n0, .int .i64 n1, .int .i64 n2, .int .i64 n3, .int .i64 n4, .int .i64 n5, .int .i64 n6, .int .i64 n7]) ∧ Hid (Below w.heap.size w wr)) (fun iv _ => n - (intOf iv).toNat)
    case atStart => exact ⟨0, Nat.zero_le _, rfl, Lib.hid (by simp), RB, MB, B⟩
    case round =>
      obtain ⟨k, hk, rfl, HT, RB, MB, B⟩ := hrel
      obtain ⟨wo, rfl⟩ : ∃ wo : World, wo = wr := ⟨_, rfl⟩
      clear l9
      by_cases hlt : k < n
      · have h1L : k < x.dy.length := by rw [HN.out]; exact hlt
        have g1 := (B.out.cell (p := ⟨b1, o1 + k * 2, Option.none⟩) HB1.out).trans (K1.out k h1L).1
        have g2 := (B.out.cell (p := ⟨b1, o1 + k * 2 + 1, Option.none⟩) HB1.out).trans (K1.out k h1L).2
        obtain ⟨X, hX⟩ : ∃ X, x.dy[k].1 = X := ⟨_, rfl⟩
        obtain ⟨Y, hY⟩ : ∃ Y, x.dy[k].2 = Y := ⟨_, rfl⟩
        have HXY : Hid (x.dy[k]'h1L = (X, Y)) := Lib.hid (by rw [← hX, ← hY])
        have H1L := Lib.hid h1L
        rw [hX] at g1
        rw [hY] at g2
        clear hX hY
        have r0 := RB.out.1
        have r1 := MB.out.1
        have r2 : w.heap.size ≤ wo.heap.size := B.out.size
        have r3 : b1 < wo.heap.size := Nat.lt_of_lt_of_le HB1.out B.out.size
        have m4 := (MB.out.2 4 _ rfl).1
        by_cases y0 : Y = n4
        · have e1 : (Y == n4) = true := beq_iff_eq.2 y0
          by_cases x0 : X = 0
          · have e0 : (X == 0) = true := beq_iff_eq.2 x0
            have hF : b = true := by rw [← HB.out]; exact any_hit H1L.out (by rw [HXY.out, dayB]; simp [H4.out, y0, x0])
            subst hF
            clear x0 y0
            go_wp2
            go_ret
            exact ⟨rfl, B.out.alloc B.out.size _⟩
          · have e0 : (X == 0) = false := beq_eq_false_iff_ne.2 x0
            obtain ⟨c, hc⟩ : ∃ c, nthIs x n0 (X, Y) = c := ⟨_, rfl⟩
            have HC := Lib.hid hc
            have NN := Lib.hid (NT.out (X, Y) (by rw [← HXY.out]; exact List.getElem_mem H1L.out) x0)
            have DB : Hid (dayB x n0 (X, Y) = c) := Lib.hid (by rw [dayB, hc]; simp [H4.out, y0, x0])
            clear hc x0 y0
            have l0 := (RB.out.2 0 _ rfl).1
            have l1 := (RB.out.2 1 _ rfl).1
            have l2 := (RB.out.2 2 _ rfl).1
            have l3 := (RB.out.2 3 _ rfl).1
            have l4 := (RB.out.2 4 _ rfl).1
            have l5 := (RB.out.2 5 _ rfl).1
            have l6 := (RB.out.2 6 _ rfl).1
            have l7 := (RB.out.2 7 _ rfl).1
            have l8 := (RB.out.2 8 _ rfl).1
            have l9 := (RB.out.2 9 _ rfl).1
            have l10 := (RB.out.2 10 _ rfl).1
            have l11 := (RB.out.2 11 _ rfl).1
            have l12 := (RB.out.2 12 _ rfl).1
            have l13 := (RB.out.2 13 _ rfl).1
            have l14 := (RB.out.2 14 _ rfl).1
            have l15 := (RB.out.2 15 _ rfl).1
            have m0 := (MB.out.2 0 _ rfl).1
            have m1 := (MB.out.2 1 _ rfl).1
            have m2 := (MB.out.2 2 _ rfl).1
            have m3 := (MB.out.2 3 _ rfl).1
            have m4 := (MB.out.2 4 _ rfl).1
            have m5 := (MB.out.2 5 _ rfl).1
            have m6 := (MB.out.2 6 _ rfl).1
            have m7 := (MB.out.2 7 _ rfl).1
            go_wp2_with fail
            refine (NN.out _ (B.out.alloc B.out.size _)).mono ?_
            rintro e w2 ⟨rfl, kk⟩
            rw [HC.out]
            cases c with
            | true =>
              have hF : b = true := by rw [← HB.out]; exact any_hit H1L.out (by rw [HXY.out]; exact DB.out)
              subst hF
              go_wp2
              go_ret
              exact ⟨rfl, bstep (B.out.alloc B.out.size _) kk⟩
            | false =>
              have HT2 := Lib.hid (any_next H1L.out HT.out (by rw [HXY.out]; exact DB.out))
              have RB := Lib.hid ((RB.out.alloc (Obj.cells #[.int .i64 X, .int .i64 Y] 44)).below kk)
              have MB := Lib.hid ((MB.out.alloc (Obj.cells #[.int .i64 X, .int .i64 Y] 44)).below kk)
              have B := Lib.hid (bstep (B.out.alloc B.out.size (Obj.cells #[.int .i64 X, .int .i64 Y] 44)) kk)
              clear l0 l1 l2 l3 l4 l5 l6 l7 l8 l9 l10 l11 l12 l13 l14 l15 m0 m1 m2 m3 m4 m5 m6 m7 kk g1 g2
              go_wp2
              go_roundw
              case rel => exact ⟨k + 1, by omega, by go_num, HT2, RB, MB, B⟩
              case measure => simp [intOf]; omega
        · have e1 : (Y == n4) = false := beq_eq_false_iff_ne.2 y0
          have HT2 := Lib.hid (any_next H1L.out HT.out (by rw [HXY.out, dayB]; simp [H4.out, y0]))
          clear y0
          go_wp2
          go_roundw
          case rel => exact ⟨k + 1, by omega, by go_num, HT2, Lib.hid (RB.out.alloc _), Lib.hid (MB.out.alloc _), Lib.hid (B.out.alloc B.out.size _)⟩
          case measure => simp [intOf]; omega
      · obtain rfl : k = n := by omega
        have hF : b = false := by
          rw [← HB.out]
          have q := HT.out
          rwa [← HN.out, List.take_length] at q
        subst hF
        go_wp2
        go_ret
        exact ⟨rfl, B.out⟩
def llV (x : CV) (m2 m3 m4 n2 n3 n4 : Int) : Bool := if x.yd ≠ [] ∨ x.md ≠ [] ∨ x.dy ≠ [] then true else if x.wn ≠ [] ∨ x.fq = 5 then decide (n4 = m4) else if x.fq = 7 ∧ x.mo = [] then decide (n3 = m3 ∧ n2 = m2) else if x.fq = 6 ∨ x.fq = 7 then decide (n3 = m3) else true
theorem len_pos' {α : Type} {L : List α} (h : ¬ L = []) : 0 < (L.length : Int) := by
  have := mt List.length_eq_zero_iff.1 h
  omega
set_option maxHeartbeats 6400000 in
set_option maxRecDepth 100000 in
theorem ll_to (x : CV) (s6 s7 s8 s9 s10 s11 s12 s13 s14 : Value) (m0 m1 m2 m3 m4 m5 m6 m7 n0 n1 n2 n3 n4 n5 n6 n7 : Int) (b : Bool) (w : World) (hl : LisV w x s6 s7 s8 s9 s10 s11 s12 s13 s14) (hb : Hid (llV x m2 m3 m4 n2 n3 n4 = b)) :
    Calls Tryz.prog 71 #[.agg #[.int .i64 x.fq, .int .i64 x.iv, .int .i64 x.ct, .bool x.un, .int .i64 x.ua, .bool x.ut, s6, s7, s8, s9, s10, s11, s12, s13, s14, .int .i64 x.wk], .agg #[.int .i64 m0, .int .i64 m1, .int .i64 m2, .int .i64 m3, .int .i64 m4, .int .i64 m5, .int .i64 m6, .int .i64 m7], .agg #[.int .i64 n0, .int .i64 n1, .int .i64 n2, .int .i64 n3, .int .i64 n4, .int .i64 n5, .int .i64 n6, .int .i64 n7]] w fun e w' => e = .returned (.bool b) ∧ Below w.heap.size w w' := by
  obtain ⟨a9, c9, rfl⟩ := hl.h9.slice
  obtain ⟨a10, c10, rfl⟩ := hl.h10.slice
  obtain ⟨a11, c11, rfl⟩ := hl.h11.slice
  obtain ⟨a12, c12, rfl⟩ := hl.h12.slice
  obtain ⟨a13, c13, rfl⟩ := hl.h13.slice
  clear hl
  go_enter Tryz.func71, Tryz.ntmps71
  go_upto_region 0 with fail
  go_cut [3, 4, 5] (fun p q r wz => p = .pointer (some ⟨w.heap.size, 0, none⟩) ∧ q = .pointer (some ⟨w.heap.size + 1, 0, none⟩) ∧ r = .pointer (some ⟨w.heap.size + 2, 0, none⟩) ∧ Hid (Cs (w.heap.size) wz [.int .i64 x.fq, .int .i64 x.iv, .int .i64 x.ct, .bool x.un, .int .i64 x.ua, .bool x.ut, s6, s7, s8, .slice a9 x.dy.length c9, .slice a10 x.md.length c10, .slice a11 x.yd.length c11, .slice a12 x.wn.length c12, .slice a13 x.mo.length c13, s14, .int .i64 x.wk]) ∧ Hid (Cs (w.heap.size + 1) wz [.int .i64 m0, .int .i64 m1, .int .i64 m2, .int .i64 m3, .int .i64 m4, .int .i64 m5, .int .i64 m6, .int .i64 m7]) ∧ Hid (Cs (w.heap.size + 2) wz [.int .i64 n0, .int .i64 n1, .int .i64 n2, .int .i64 n3, .int .i64 n4, .int .i64 n5, .int .i64 n6, .int .i64 n7]) ∧ Hid (Below w.heap.size w wz))
  case first =>
    go_wp2
    go_meet
    exact ⟨rfl, rfl, rfl, Lib.hid (((Cs.new w _ _).alloc _).alloc _), Lib.hid ((cs_at (by simp) _ _).alloc _), Lib.hid (cs_at (by simp) _ _), Lib.hid ((((Below.refl _ _).alloc (Nat.le_refl _) _).alloc (by simp) _).alloc (by simp; try omega) _)⟩
  case rest =>
  obtain ⟨w1, rfl⟩ : ∃ x : World, x = wc := ⟨_, rfl⟩
  obtain ⟨rfl, rfl, rfl, RB, MB, NB, B⟩ := hcut
  have l0 := (RB.out.2 0 _ rfl).1
  have l9 := (RB.out.2 9 _ rfl).1
  have l10 := (RB.out.2 10 _ rfl).1
  have l11 := (RB.out.2 11 _ rfl).1
  have l12 := (RB.out.2 12 _ rfl).1
  have l13 := (RB.out.2 13 _ rfl).1
  have k2 := (MB.out.2 2 _ rfl).1
  have k3 := (MB.out.2 3 _ rfl).1
  have k4 := (MB.out.2 4 _ rfl).1
  have j2 := (NB.out.2 2 _ rfl).1
  have j3 := (NB.out.2 3 _ rfl).1
  have j4 := (NB.out.2 4 _ rfl).1
  clear RB MB NB
  by_cases h11 : x.yd = []
  case neg =>
    have z := len_pos' h11
    have hF : b = true := by rw [← hb.out, llV, if_pos (Or.inl h11)]
    subst hF
    go_wp2
    go_ret
    exact ⟨rfl, B.out⟩
  have z11 : x.yd.length = 0 := by rw [h11]; rfl
  rw [z11] at l11
  by_cases h10 : x.md = []
  case neg =>
    have z := len_pos' h10
    have hF : b = true := by rw [← hb.out, llV, if_pos (Or.inr (Or.inl h10))]
    subst hF
    go_wp2
    go_ret
    exact ⟨rfl, B.out⟩
  have z10 : x.md.length = 0 := by rw [h10]; rfl
  rw [z10] at l10
  by_cases h9 : x.dy = []
  case neg =>
    have z := len_pos' h9
    have hF : b = true := by rw [← hb.out, llV, if_pos (Or.inr (Or.inr h9))]
    subst hF
    go_wp2
    go_ret
    exact ⟨rfl, B.out⟩
  have z9 : x.dy.length = 0 := by rw [h9]; rfl
  rw [z9] at l9
  have HB : Hid ((if x.wn ≠ [] ∨ x.fq = 5 then decide (n4 = m4) else if x.fq = 7 ∧ x.mo = [] then decide (n3 = m3 ∧ n2 = m2) else if x.fq = 6 ∨ x.fq = 7 then decide (n3 = m3) else true) = b) := Lib.hid (by rw [← hb.out, llV, if_neg (show ¬ (x.yd ≠ [] ∨ x.md ≠ [] ∨ x.dy ≠ []) by simp [h11, h10, h9])])
  clear hb h11 h10 h9 z11 z10 z9
  by_cases h12 : x.wn = []
  case neg =>
    have z := len_pos' h12
    have hF : decide (n4 = m4) = b := by rw [← HB.out, if_pos (Or.inl h12)]
    clear HB
    go_wp2
    go_ret
    exact ⟨ret_b hF, B.out⟩
  have z12 : x.wn.length = 0 := by rw [h12]; rfl
  rw [z12] at l12
  by_cases f5 : x.fq = 5
  · have hF : decide (n4 = m4) = b := by rw [← HB.out, if_pos (Or.inr f5)]
    have e5 : (x.fq == 5) = true := beq_iff_eq.2 f5
    clear HB
    go_wp2
    go_ret
    exact ⟨ret_b hF, B.out⟩
  have e5 : (x.fq == 5) = false := beq_eq_false_iff_ne.2 f5
  have HB : Hid ((if x.fq = 7 ∧ x.mo = [] then decide (n3 = m3 ∧ n2 = m2) else if x.fq = 6 ∨ x.fq = 7 then decide (n3 = m3) else true) = b) := Lib.hid (by rw [← HB.out, if_neg (show ¬ (x.wn ≠ [] ∨ x.fq = 5) by simp [h12, f5])])
  clear h12 z12
  by_cases f7 : x.fq = 7
  · have e7 : (x.fq == 7) = true := beq_iff_eq.2 f7
    by_cases h13 : x.mo = []
    · have z13 : x.mo.length = 0 := by rw [h13]; rfl
      rw [z13] at l13
      have hF : decide (n3 = m3 ∧ n2 = m2) = b := by rw [← HB.out, if_pos ⟨f7, h13⟩]
      rw [f7] at l0
      clear HB h13 z13 f7 f5 e5 e7
      by_cases d3 : n3 = m3
      · have e3 : (n3 == m3) = true := beq_iff_eq.2 d3
        have HF : Hid ((n2 == m2) = b) := Lib.hid (by rw [← hF, Bool.decide_and, decide_eq_true d3, Bool.true_and]; rfl)
        clear d3 hF
        go_wp2
        go_ret
        exact ⟨ret_b HF.out, B.out⟩
      · have e3 : (n3 == m3) = false := beq_eq_false_iff_ne.2 d3
        have hG : b = false := by rw [← hF, Bool.decide_and, decide_eq_false d3]; rfl
        clear d3 hF
        subst hG
        go_wp2
        go_ret
        exact ⟨ret_b rfl, B.out⟩
    · have z := len_pos' h13
      have z2 : ((x.mo.length : Int) == 0) = false := beq_eq_false_iff_ne.2 (by omega)
      have hF : decide (n3 = m3) = b := by rw [← HB.out, if_neg (show ¬ (x.fq = 7 ∧ x.mo = []) from fun h => h13 h.2), if_pos (Or.inr f7)]
      rw [f7] at l0
      clear HB h13 f7 f5 e5 e7
      go_wp2
      go_ret
      exact ⟨ret_b hF, B.out⟩
  · have e7 : (x.fq == 7) = false := beq_eq_false_iff_ne.2 f7
    by_cases f6 : x.fq = 6
    · have hF : decide (n3 = m3) = b := by rw [← HB.out, if_neg (show ¬ (x.fq = 7 ∧ x.mo = []) from fun h => f7 h.1), if_pos (Or.inl f6)]
      rw [f6] at l0
      clear HB f6 f7 f5 e5 e7
      go_wp2
      go_ret
      exact ⟨ret_b hF, B.out⟩
    · have e6 : (x.fq == 6) = false := beq_eq_false_iff_ne.2 f6
      have hF : true = b := by rw [← HB.out, if_neg (show ¬ (x.fq = 7 ∧ x.mo = []) from fun h => f7 h.1), if_neg (show ¬ (x.fq = 6 ∨ x.fq = 7) by omega)]
      clear HB f5 f6 f7
      subst hF
      go_wp2
      go_ret
      exact ⟨ret_b rfl, B.out⟩
end Fil
end Go.Proofs.YtpbbnkgfheafpaaGreatDoor
