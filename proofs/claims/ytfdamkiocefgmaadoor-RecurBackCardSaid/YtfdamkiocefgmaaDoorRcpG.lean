/-
  recur.readPart, whole: a rule that is being read, in a block of its own. (Written by gen/gen_rcpg.py.)
-/
import Derived.Test.YtfdamkiocefgmaaDoorRcpE
import Derived.Test.YtfdamkiocefgmaaDoorRcpF
namespace Go.Proofs.YtfdamkiocefgmaaDoor
open Go.RowKit
namespace Rcp
open Cel
open Spc
open Wrd (MaxL)
open Ap (RowI Grew)
open Civ (Ahead)
open Rcv (CV)
/-- What a rule's part says of it. -/
def rpP (N S : List UInt8) (x : CV) : CV × Bool :=
  if N = [102, 114, 101, 113] then ({ x with fq := (rfP S).1 }, (rfP S).2)
  else if N = [105, 110, 116, 101, 114, 118, 97, 108] then ({ x with iv := (rnP S).1 }, (rnP S).2)
  else if N = [99, 111, 117, 110, 116] then ({ x with ct := (rnP S).1 }, (rnP S).2 && decide (0 < (rnP S).1))
  else if N = [117, 110, 116, 105, 108] then ({ x with ua := (Val.ptP S).1, ut := (Val.ptP S).2.1, un := true }, decide ((Val.ptP S).2.2 = 0))
  else if N = [98, 121, 109, 111, 110, 116, 104] then ({ x with mo := (rlP rnP S).1 }, (rlP rnP S).2)
  else if N = [98, 121, 119, 101, 101, 107, 110, 111] then ({ x with wn := (rlP rsP S).1 }, (rlP rsP S).2)
  else if N = [98, 121, 121, 101, 97, 114, 100, 97, 121] then ({ x with yd := (rlP rsP S).1 }, (rlP rsP S).2)
  else if N = [98, 121, 109, 111, 110, 116, 104, 100, 97, 121] then ({ x with md := (rlP rsP S).1 }, (rlP rsP S).2)
  else if N = [98, 121, 100, 97, 121] then ({ x with dy := (rlP rdP S).1 }, (rlP rdP S).2)
  else if N = [98, 121, 104, 111, 117, 114] then ({ x with hr := (rlP rnP S).1 }, (rlP rnP S).2)
  else if N = [98, 121, 109, 105, 110, 117, 116, 101] then ({ x with mi := (rlP rnP S).1 }, (rlP rnP S).2)
  else if N = [98, 121, 115, 101, 99, 111, 110, 100] then ({ x with sc := (rlP rnP S).1 }, (rlP rnP S).2)
  else if N = [98, 121, 115, 101, 116, 112, 111, 115] then ({ x with sp := (rlP rsP S).1 }, (rlP rsP S).2)
  else if N = [119, 107, 115, 116] then ({ x with wk := (rwP S).1 }, (rwP S).2)
  else (x, false)
theorem own_cell {w : World} {B : Nat} {e : TypeId} {size : Nat} {v : Value} {n : Nat} {xs : List Value} (h : w.ownsRow B e size v n xs) {g i : Nat} (hg : g < B) (x : Value) : (w.setCell ⟨g, i, none⟩ x).ownsRow B e size v n xs := by
  refine ⟨h.1, ?_⟩
  rcases h.2 with h1 | ⟨g', cap, cur, hv, hg', hh, r⟩
  · exact Or.inl h1
  · exact Or.inr ⟨g', cap, cur, hv, hg', (Below.heap_setCell _ _ _ _ (by show g' ≠ g; omega)).trans hh, r⟩
theorem own_less {w : World} {B B' : Nat} {e : TypeId} {size : Nat} {v : Value} {n : Nat} {xs : List Value} (h : w.ownsRow B e size v n xs) (hb : B' ≤ B) : w.ownsRow B' e size v n xs := by
  refine ⟨h.1, ?_⟩
  rcases h.2 with h1 | ⟨g', cap, cur, hv, hg', r⟩
  · exact Or.inl h1
  · exact Or.inr ⟨g', cap, cur, hv, Nat.le_trans hb hg', r⟩
/-- The lists of a rule that is being read, behind its block. -/
structure Lsts (B : Nat) (w : World) (x : CV) (s6 s7 s8 s9 s10 s11 s12 s13 s14 : Value) : Prop where
  h6 : RowI B w s6 x.sc
  h7 : RowI B w s7 x.mi
  h8 : RowI B w s8 x.hr
  h9 : RowD B w s9 x.dy
  h10 : RowI B w s10 x.md
  h11 : RowI B w s11 x.yd
  h12 : RowI B w s12 x.wn
  h13 : RowI B w s13 x.mo
  h14 : RowI B w s14 x.sp
theorem Lsts.below {B : Nat} {w w' : World} {x : CV} {s6 s7 s8 s9 s10 s11 s12 s13 s14 : Value} (h : Lsts B w x s6 s7 s8 s9 s10 s11 s12 s13 s14) (hb : Below w.heap.size w w') : Lsts B w' x s6 s7 s8 s9 s10 s11 s12 s13 s14 :=
  ⟨h.h6.below hb, h.h7.below hb, h.h8.below hb, h.h9.below hb, h.h10.below hb, h.h11.below hb, h.h12.below hb, h.h13.below hb, h.h14.below hb⟩
theorem Lsts.cell {B g i : Nat} {w : World} {x : CV} {s6 s7 s8 s9 s10 s11 s12 s13 s14 : Value} (h : Lsts B w x s6 s7 s8 s9 s10 s11 s12 s13 s14) (hg : g < B) (v : Value) : Lsts B (w.setCell ⟨g, i, none⟩ v) x s6 s7 s8 s9 s10 s11 s12 s13 s14 :=
  ⟨own_cell h.h6 hg v, own_cell h.h7 hg v, own_cell h.h8 hg v, own_cell h.h9 hg v, own_cell h.h10 hg v, own_cell h.h11 hg v, own_cell h.h12 hg v, own_cell h.h13 hg v, own_cell h.h14 hg v⟩
theorem Lsts.lis {B : Nat} {w : World} {x : CV} {s6 s7 s8 s9 s10 s11 s12 s13 s14 : Value} (h : Lsts B w x s6 s7 s8 s9 s10 s11 s12 s13 s14) : Rcv.LisV w x s6 s7 s8 s9 s10 s11 s12 s13 s14 :=
  ⟨Rcv.IntV.of_row h.h6, Rcv.IntV.of_row h.h7, Rcv.IntV.of_row h.h8, h.h9.days, Rcv.IntV.of_row h.h10, Rcv.IntV.of_row h.h11, Rcv.IntV.of_row h.h12, Rcv.IntV.of_row h.h13, Rcv.IntV.of_row h.h14⟩
/-- A rule that is being read. -/
def RulB (g : Nat) (w : World) (x : CV) : Prop := ∃ s6 s7 s8 s9 s10 s11 s12 s13 s14 : Value, Cs g w [.int .i64 x.fq, .int .i64 x.iv, .int .i64 x.ct, .bool x.un, .int .i64 x.ua, .bool x.ut, s6, s7, s8, s9, s10, s11, s12, s13, s14, .int .i64 x.wk] ∧ Lsts (g + 1) w x s6 s7 s8 s9 s10 s11 s12 s13 s14
theorem RulB.below {g : Nat} {w w' : World} {x : CV} (h : RulB g w x) (hb : Below w.heap.size w w') : RulB g w' x := by
  obtain ⟨s6, s7, s8, s9, s10, s11, s12, s13, s14, h1, h2⟩ := h
  exact ⟨s6, s7, s8, s9, s10, s11, s12, s13, s14, h1.below hb, h2.below hb⟩
/-- Nothing but block g of what stood there is another. -/
structure Upd (g : Nat) (w w' : World) : Prop where
  size : w.heap.size ≤ w'.heap.size
  block : ∀ k, k < w.heap.size → k ≠ g → w'.heap[k]? = w.heap[k]?
  below : ∀ n w0, n ≤ g → Below n w0 w → Below n w0 w'
theorem Upd.call {g : Nat} {w w' : World} (hg : g < w.heap.size) (hb : Below w.heap.size w w') : Upd g w w' :=
  ⟨hb.size, fun k hk _ => hb.block k hk, fun n w0 hn h => h.trans (hb.mono (by omega))⟩
theorem Upd.set {g i : Nat} {w w' : World} (h : Upd g w w') (v : Value) : Upd g w (w'.setCell ⟨g, i, none⟩ v) :=
  ⟨by have := h.size; simpa [World.setCell] using this, fun k hk hne => (Below.heap_setCell _ _ _ _ (by show k ≠ g; exact hne)).trans (h.block k hk hne), fun n w0 hn hb => (h.below n w0 hn hb).setCell hn v⟩
set_option maxHeartbeats 3200000 in
set_option maxRecDepth 100000 in
theorem rp_to (nm s : ByteArray) (N S : List UInt8) (g : Nat) (x x' : CV) (b : Bool) (w : World) (hM : MaxL w) (hF : FreqT w) (hD : DayT w) (hA : Ahead w) (hx : RulB g w x) (hs : s.size ≤ 10000) (hN : Hid (nm.toList = N)) (hS : Hid (s.data.toList = S)) (h : Hid (rpP N S x = (x', b))) :
    Calls Tryd.prog 22 #[.pointer (some ⟨g, 0, none⟩), .string nm, .string s] w fun e w' => e = .returned (.bool b) ∧ RulB g w' x' ∧ Upd g w w' := by
  obtain ⟨s6, s7, s8, s9, s10, s11, s12, s13, s14, C, R⟩ := hx
  have hg := C.1
  have q := h.out
  unfold rpP at q
  by_cases n0 : N = [102, 114, 101, 113]
  · have e0 : (nm.toList == [102, 114, 101, 113]) = true := by rw [hN.out, n0]; rfl
    rw [if_pos n0] at q
    obtain ⟨rfl, hb⟩ := Prod.mk.inj q
    refine (rp0 nm s S g _ _ _ _ _ _ _ _ _ _ _ _ _ _ _ _ w (Lib.hid C) hs hS (rfP S).1 b hF (Lib.hid (by rw [← hb])) e0).mono ?_
    rintro e w' ⟨w1, rfl, k1, rfl⟩
    refine ⟨rfl, ⟨s6, s7, s8, s9, s10, s11, s12, s13, s14, ?_, ?_⟩, (Upd.call hg k1).set _⟩
    · have D := (C.below k1).set 0 (by simp) (.int .i64 (rfP S).1)
      simp only [List.set_cons_zero] at D
      exact D
    · have L := ((R.below k1).cell (i := 0) (Nat.lt_succ_self g) (.int .i64 (rfP S).1))
      exact ⟨L.h6, L.h7, L.h8, L.h9, L.h10, L.h11, L.h12, L.h13, L.h14⟩
  have e0 : (nm.toList == [102, 114, 101, 113]) = false := by rw [hN.out]; exact beq_eq_false_iff_ne.2 n0
  rw [if_neg n0] at q
  by_cases n1 : N = [105, 110, 116, 101, 114, 118, 97, 108]
  · have e1 : (nm.toList == [105, 110, 116, 101, 114, 118, 97, 108]) = true := by rw [hN.out, n1]; rfl
    rw [if_pos n1] at q
    obtain ⟨rfl, hb⟩ := Prod.mk.inj q
    refine (rp1 nm s S g _ _ _ _ _ _ _ _ _ _ _ _ _ _ _ _ w (Lib.hid C) hs hS (rnP S).1 b (Lib.hid (by rw [← hb])) e0 e1).mono ?_
    rintro e w' ⟨w1, rfl, k1, rfl⟩
    refine ⟨rfl, ⟨s6, s7, s8, s9, s10, s11, s12, s13, s14, ?_, ?_⟩, (Upd.call hg k1).set _⟩
    · have D := (C.below k1).set 1 (by simp) (.int .i64 (rnP S).1)
      simp only [List.set_cons_succ, List.set_cons_zero] at D
      exact D
    · have L := ((R.below k1).cell (i := 1) (Nat.lt_succ_self g) (.int .i64 (rnP S).1))
      exact ⟨L.h6, L.h7, L.h8, L.h9, L.h10, L.h11, L.h12, L.h13, L.h14⟩
  have e1 : (nm.toList == [105, 110, 116, 101, 114, 118, 97, 108]) = false := by rw [hN.out]; exact beq_eq_false_iff_ne.2 n1
  rw [if_neg n1] at q
  by_cases n2 : N = [99, 111, 117, 110, 116]
  · have e2 : (nm.toList == [99, 111, 117, 110, 116]) = true := by rw [hN.out, n2]; rfl
    rw [if_pos n2] at q
    obtain ⟨rfl, hb⟩ := Prod.mk.inj q
    refine (rp2 nm s S g _ _ _ _ _ _ _ _ _ _ _ _ _ _ _ _ w (Lib.hid C) hs hS (rnP S).1 (rnP S).2 b (Lib.hid rfl) (Lib.hid hb) e0 e1 e2).mono ?_
    rintro e w' ⟨w1, rfl, k1, rfl⟩
    refine ⟨rfl, ⟨s6, s7, s8, s9, s10, s11, s12, s13, s14, ?_, ?_⟩, (Upd.call hg k1).set _⟩
    · have D := (C.below k1).set 2 (by simp) (.int .i64 (rnP S).1)
      simp only [List.set_cons_succ, List.set_cons_zero] at D
      exact D
    · have L := ((R.below k1).cell (i := 2) (Nat.lt_succ_self g) (.int .i64 (rnP S).1))
      exact ⟨L.h6, L.h7, L.h8, L.h9, L.h10, L.h11, L.h12, L.h13, L.h14⟩
  have e2 : (nm.toList == [99, 111, 117, 110, 116]) = false := by rw [hN.out]; exact beq_eq_false_iff_ne.2 n2
  rw [if_neg n2] at q
  by_cases n3 : N = [117, 110, 116, 105, 108]
  · have e3 : (nm.toList == [117, 110, 116, 105, 108]) = true := by rw [hN.out, n3]; rfl
    rw [if_pos n3] at q
    obtain ⟨rfl, hb⟩ := Prod.mk.inj q
    refine (rp3 nm s S g _ _ _ _ _ _ _ _ _ _ _ _ _ _ _ _ w (Lib.hid C) hs hS (Val.ptP S).1 (Val.ptP S).2.2 (Val.ptP S).2.1 b hA (Lib.hid rfl) (Lib.hid hb) e0 e1 e2 e3).mono ?_
    rintro e w' ⟨w1, rfl, k1, rfl⟩
    refine ⟨rfl, ⟨s6, s7, s8, s9, s10, s11, s12, s13, s14, ?_, ?_⟩, (((Upd.call hg k1).set _).set _).set _⟩
    · have D := (((C.below k1).set 4 (by simp) (.int .i64 (Val.ptP S).1)).set 5 (by simp) (.bool (Val.ptP S).2.1)).set 3 (by simp) (.bool true)
      simp only [List.set_cons_succ, List.set_cons_zero] at D
      exact D
    · have L := ((((R.below k1).cell (i := 4) (Nat.lt_succ_self g) (.int .i64 (Val.ptP S).1)).cell (i := 5) (Nat.lt_succ_self g) (.bool (Val.ptP S).2.1)).cell (i := 3) (Nat.lt_succ_self g) (.bool true))
      exact ⟨L.h6, L.h7, L.h8, L.h9, L.h10, L.h11, L.h12, L.h13, L.h14⟩
  have e3 : (nm.toList == [117, 110, 116, 105, 108]) = false := by rw [hN.out]; exact beq_eq_false_iff_ne.2 n3
  rw [if_neg n3] at q
  by_cases n4 : N = [98, 121, 109, 111, 110, 116, 104]
  · have e4 : (nm.toList == [98, 121, 109, 111, 110, 116, 104]) = true := by rw [hN.out, n4]; rfl
    rw [if_pos n4] at q
    obtain ⟨rfl, hb⟩ := Prod.mk.inj q
    refine (rp4 nm s S g _ _ _ _ _ _ _ _ _ _ _ _ _ _ _ _ w (Lib.hid C) hs hS (rlP rnP S).1 b hM (Lib.hid (by rw [← hb])) e0 e1 e2 e3 e4).mono ?_
    rintro e w' ⟨w1, v, B, rfl, hv, hB, k1, rfl⟩
    refine ⟨rfl, ⟨s6, s7, s8, s9, s10, s11, s12, v, s14, ?_, ?_⟩, (Upd.call hg k1).set _⟩
    · have D := (C.below k1).set 13 (by simp) v
      simp only [List.set_cons_succ, List.set_cons_zero] at D
      exact D
    · have L := ((R.below k1).cell (i := 13) (Nat.lt_succ_self g) v)
      have V := own_cell (own_less hv.out (show g + 1 ≤ B by omega)) (i := 13) (Nat.lt_succ_self g) v
      exact ⟨L.h6, L.h7, L.h8, L.h9, L.h10, L.h11, L.h12, V, L.h14⟩
  have e4 : (nm.toList == [98, 121, 109, 111, 110, 116, 104]) = false := by rw [hN.out]; exact beq_eq_false_iff_ne.2 n4
  rw [if_neg n4] at q
  by_cases n5 : N = [98, 121, 119, 101, 101, 107, 110, 111]
  · have e5 : (nm.toList == [98, 121, 119, 101, 101, 107, 110, 111]) = true := by rw [hN.out, n5]; rfl
    rw [if_pos n5] at q
    obtain ⟨rfl, hb⟩ := Prod.mk.inj q
    refine (rp5 nm s S g _ _ _ _ _ _ _ _ _ _ _ _ _ _ _ _ w (Lib.hid C) hs hS (rlP rsP S).1 b hM (Lib.hid (by rw [← hb])) e0 e1 e2 e3 e4 e5).mono ?_
    rintro e w' ⟨w1, v, B, rfl, hv, hB, k1, rfl⟩
    refine ⟨rfl, ⟨s6, s7, s8, s9, s10, s11, v, s13, s14, ?_, ?_⟩, (Upd.call hg k1).set _⟩
    · have D := (C.below k1).set 12 (by simp) v
      simp only [List.set_cons_succ, List.set_cons_zero] at D
      exact D
    · have L := ((R.below k1).cell (i := 12) (Nat.lt_succ_self g) v)
      have V := own_cell (own_less hv.out (show g + 1 ≤ B by omega)) (i := 12) (Nat.lt_succ_self g) v
      exact ⟨L.h6, L.h7, L.h8, L.h9, L.h10, L.h11, V, L.h13, L.h14⟩
  have e5 : (nm.toList == [98, 121, 119, 101, 101, 107, 110, 111]) = false := by rw [hN.out]; exact beq_eq_false_iff_ne.2 n5
  rw [if_neg n5] at q
  by_cases n6 : N = [98, 121, 121, 101, 97, 114, 100, 97, 121]
  · have e6 : (nm.toList == [98, 121, 121, 101, 97, 114, 100, 97, 121]) = true := by rw [hN.out, n6]; rfl
    rw [if_pos n6] at q
    obtain ⟨rfl, hb⟩ := Prod.mk.inj q
    refine (rp6 nm s S g _ _ _ _ _ _ _ _ _ _ _ _ _ _ _ _ w (Lib.hid C) hs hS (rlP rsP S).1 b hM (Lib.hid (by rw [← hb])) e0 e1 e2 e3 e4 e5 e6).mono ?_
    rintro e w' ⟨w1, v, B, rfl, hv, hB, k1, rfl⟩
    refine ⟨rfl, ⟨s6, s7, s8, s9, s10, v, s12, s13, s14, ?_, ?_⟩, (Upd.call hg k1).set _⟩
    · have D := (C.below k1).set 11 (by simp) v
      simp only [List.set_cons_succ, List.set_cons_zero] at D
      exact D
    · have L := ((R.below k1).cell (i := 11) (Nat.lt_succ_self g) v)
      have V := own_cell (own_less hv.out (show g + 1 ≤ B by omega)) (i := 11) (Nat.lt_succ_self g) v
      exact ⟨L.h6, L.h7, L.h8, L.h9, L.h10, V, L.h12, L.h13, L.h14⟩
  have e6 : (nm.toList == [98, 121, 121, 101, 97, 114, 100, 97, 121]) = false := by rw [hN.out]; exact beq_eq_false_iff_ne.2 n6
  rw [if_neg n6] at q
  by_cases n7 : N = [98, 121, 109, 111, 110, 116, 104, 100, 97, 121]
  · have e7 : (nm.toList == [98, 121, 109, 111, 110, 116, 104, 100, 97, 121]) = true := by rw [hN.out, n7]; rfl
    rw [if_pos n7] at q
    obtain ⟨rfl, hb⟩ := Prod.mk.inj q
    refine (rp7 nm s S g _ _ _ _ _ _ _ _ _ _ _ _ _ _ _ _ w (Lib.hid C) hs hS (rlP rsP S).1 b hM (Lib.hid (by rw [← hb])) e0 e1 e2 e3 e4 e5 e6 e7).mono ?_
    rintro e w' ⟨w1, v, B, rfl, hv, hB, k1, rfl⟩
    refine ⟨rfl, ⟨s6, s7, s8, s9, v, s11, s12, s13, s14, ?_, ?_⟩, (Upd.call hg k1).set _⟩
    · have D := (C.below k1).set 10 (by simp) v
      simp only [List.set_cons_succ, List.set_cons_zero] at D
      exact D
    · have L := ((R.below k1).cell (i := 10) (Nat.lt_succ_self g) v)
      have V := own_cell (own_less hv.out (show g + 1 ≤ B by omega)) (i := 10) (Nat.lt_succ_self g) v
      exact ⟨L.h6, L.h7, L.h8, L.h9, V, L.h11, L.h12, L.h13, L.h14⟩
  have e7 : (nm.toList == [98, 121, 109, 111, 110, 116, 104, 100, 97, 121]) = false := by rw [hN.out]; exact beq_eq_false_iff_ne.2 n7
  rw [if_neg n7] at q
  by_cases n8 : N = [98, 121, 100, 97, 121]
  · have e8 : (nm.toList == [98, 121, 100, 97, 121]) = true := by rw [hN.out, n8]; rfl
    rw [if_pos n8] at q
    obtain ⟨rfl, hb⟩ := Prod.mk.inj q
    refine (rp8 nm s S g _ _ _ _ _ _ _ _ _ _ _ _ _ _ _ _ w (Lib.hid C) hs hS (rlP rdP S).1 b hM hD (Lib.hid (by rw [← hb])) e0 e1 e2 e3 e4 e5 e6 e7 e8).mono ?_
    rintro e w' ⟨w1, v, B, rfl, hv, hB, k1, rfl⟩
    refine ⟨rfl, ⟨s6, s7, s8, v, s10, s11, s12, s13, s14, ?_, ?_⟩, (Upd.call hg k1).set _⟩
    · have D := (C.below k1).set 9 (by simp) v
      simp only [List.set_cons_succ, List.set_cons_zero] at D
      exact D
    · have L := ((R.below k1).cell (i := 9) (Nat.lt_succ_self g) v)
      have V := own_cell (own_less hv.out (show g + 1 ≤ B by omega)) (i := 9) (Nat.lt_succ_self g) v
      exact ⟨L.h6, L.h7, L.h8, V, L.h10, L.h11, L.h12, L.h13, L.h14⟩
  have e8 : (nm.toList == [98, 121, 100, 97, 121]) = false := by rw [hN.out]; exact beq_eq_false_iff_ne.2 n8
  rw [if_neg n8] at q
  by_cases n9 : N = [98, 121, 104, 111, 117, 114]
  · have e9 : (nm.toList == [98, 121, 104, 111, 117, 114]) = true := by rw [hN.out, n9]; rfl
    rw [if_pos n9] at q
    obtain ⟨rfl, hb⟩ := Prod.mk.inj q
    refine (rp9 nm s S g _ _ _ _ _ _ _ _ _ _ _ _ _ _ _ _ w (Lib.hid C) hs hS (rlP rnP S).1 b hM (Lib.hid (by rw [← hb])) e0 e1 e2 e3 e4 e5 e6 e7 e8 e9).mono ?_
    rintro e w' ⟨w1, v, B, rfl, hv, hB, k1, rfl⟩
    refine ⟨rfl, ⟨s6, s7, v, s9, s10, s11, s12, s13, s14, ?_, ?_⟩, (Upd.call hg k1).set _⟩
    · have D := (C.below k1).set 8 (by simp) v
      simp only [List.set_cons_succ, List.set_cons_zero] at D
      exact D
    · have L := ((R.below k1).cell (i := 8) (Nat.lt_succ_self g) v)
      have V := own_cell (own_less hv.out (show g + 1 ≤ B by omega)) (i := 8) (Nat.lt_succ_self g) v
      exact ⟨L.h6, L.h7, V, L.h9, L.h10, L.h11, L.h12, L.h13, L.h14⟩
  have e9 : (nm.toList == [98, 121, 104, 111, 117, 114]) = false := by rw [hN.out]; exact beq_eq_false_iff_ne.2 n9
  rw [if_neg n9] at q
  by_cases n10 : N = [98, 121, 109, 105, 110, 117, 116, 101]
  · have e10 : (nm.toList == [98, 121, 109, 105, 110, 117, 116, 101]) = true := by rw [hN.out, n10]; rfl
    rw [if_pos n10] at q
    obtain ⟨rfl, hb⟩ := Prod.mk.inj q
    refine (rp10 nm s S g _ _ _ _ _ _ _ _ _ _ _ _ _ _ _ _ w (Lib.hid C) hs hS (rlP rnP S).1 b hM (Lib.hid (by rw [← hb])) e0 e1 e2 e3 e4 e5 e6 e7 e8 e9 e10).mono ?_
    rintro e w' ⟨w1, v, B, rfl, hv, hB, k1, rfl⟩
    refine ⟨rfl, ⟨s6, v, s8, s9, s10, s11, s12, s13, s14, ?_, ?_⟩, (Upd.call hg k1).set _⟩
    · have D := (C.below k1).set 7 (by simp) v
      simp only [List.set_cons_succ, List.set_cons_zero] at D
      exact D
    · have L := ((R.below k1).cell (i := 7) (Nat.lt_succ_self g) v)
      have V := own_cell (own_less hv.out (show g + 1 ≤ B by omega)) (i := 7) (Nat.lt_succ_self g) v
      exact ⟨L.h6, V, L.h8, L.h9, L.h10, L.h11, L.h12, L.h13, L.h14⟩
  have e10 : (nm.toList == [98, 121, 109, 105, 110, 117, 116, 101]) = false := by rw [hN.out]; exact beq_eq_false_iff_ne.2 n10
  rw [if_neg n10] at q
  by_cases n11 : N = [98, 121, 115, 101, 99, 111, 110, 100]
  · have e11 : (nm.toList == [98, 121, 115, 101, 99, 111, 110, 100]) = true := by rw [hN.out, n11]; rfl
    rw [if_pos n11] at q
    obtain ⟨rfl, hb⟩ := Prod.mk.inj q
    refine (rp11 nm s S g _ _ _ _ _ _ _ _ _ _ _ _ _ _ _ _ w (Lib.hid C) hs hS (rlP rnP S).1 b hM (Lib.hid (by rw [← hb])) e0 e1 e2 e3 e4 e5 e6 e7 e8 e9 e10 e11).mono ?_
    rintro e w' ⟨w1, v, B, rfl, hv, hB, k1, rfl⟩
    refine ⟨rfl, ⟨v, s7, s8, s9, s10, s11, s12, s13, s14, ?_, ?_⟩, (Upd.call hg k1).set _⟩
    · have D := (C.below k1).set 6 (by simp) v
      simp only [List.set_cons_succ, List.set_cons_zero] at D
      exact D
    · have L := ((R.below k1).cell (i := 6) (Nat.lt_succ_self g) v)
      have V := own_cell (own_less hv.out (show g + 1 ≤ B by omega)) (i := 6) (Nat.lt_succ_self g) v
      exact ⟨V, L.h7, L.h8, L.h9, L.h10, L.h11, L.h12, L.h13, L.h14⟩
  have e11 : (nm.toList == [98, 121, 115, 101, 99, 111, 110, 100]) = false := by rw [hN.out]; exact beq_eq_false_iff_ne.2 n11
  rw [if_neg n11] at q
  by_cases n12 : N = [98, 121, 115, 101, 116, 112, 111, 115]
  · have e12 : (nm.toList == [98, 121, 115, 101, 116, 112, 111, 115]) = true := by rw [hN.out, n12]; rfl
    rw [if_pos n12] at q
    obtain ⟨rfl, hb⟩ := Prod.mk.inj q
    refine (rp12 nm s S g _ _ _ _ _ _ _ _ _ _ _ _ _ _ _ _ w (Lib.hid C) hs hS (rlP rsP S).1 b hM (Lib.hid (by rw [← hb])) e0 e1 e2 e3 e4 e5 e6 e7 e8 e9 e10 e11 e12).mono ?_
    rintro e w' ⟨w1, v, B, rfl, hv, hB, k1, rfl⟩
    refine ⟨rfl, ⟨s6, s7, s8, s9, s10, s11, s12, s13, v, ?_, ?_⟩, (Upd.call hg k1).set _⟩
    · have D := (C.below k1).set 14 (by simp) v
      simp only [List.set_cons_succ, List.set_cons_zero] at D
      exact D
    · have L := ((R.below k1).cell (i := 14) (Nat.lt_succ_self g) v)
      have V := own_cell (own_less hv.out (show g + 1 ≤ B by omega)) (i := 14) (Nat.lt_succ_self g) v
      exact ⟨L.h6, L.h7, L.h8, L.h9, L.h10, L.h11, L.h12, L.h13, V⟩
  have e12 : (nm.toList == [98, 121, 115, 101, 116, 112, 111, 115]) = false := by rw [hN.out]; exact beq_eq_false_iff_ne.2 n12
  rw [if_neg n12] at q
  by_cases n13 : N = [119, 107, 115, 116]
  · have e13 : (nm.toList == [119, 107, 115, 116]) = true := by rw [hN.out, n13]; rfl
    rw [if_pos n13] at q
    obtain ⟨rfl, hb⟩ := Prod.mk.inj q
    refine (rp13 nm s S g _ _ _ _ _ _ _ _ _ _ _ _ _ _ _ _ w (Lib.hid C) hs hS (rwP S).1 b hD (Lib.hid (by rw [← hb])) e0 e1 e2 e3 e4 e5 e6 e7 e8 e9 e10 e11 e12 e13).mono ?_
    rintro e w' ⟨w1, rfl, k1, rfl⟩
    refine ⟨rfl, ⟨s6, s7, s8, s9, s10, s11, s12, s13, s14, ?_, ?_⟩, (Upd.call hg k1).set _⟩
    · have D := (C.below k1).set 15 (by simp) (.int .i64 (rwP S).1)
      simp only [List.set_cons_succ, List.set_cons_zero] at D
      exact D
    · have L := ((R.below k1).cell (i := 15) (Nat.lt_succ_self g) (.int .i64 (rwP S).1))
      exact ⟨L.h6, L.h7, L.h8, L.h9, L.h10, L.h11, L.h12, L.h13, L.h14⟩
  have e13 : (nm.toList == [119, 107, 115, 116]) = false := by rw [hN.out]; exact beq_eq_false_iff_ne.2 n13
  rw [if_neg n13] at q
  obtain ⟨rfl, rfl⟩ := Prod.mk.inj q
  refine (rp14 nm s g w e0 e1 e2 e3 e4 e5 e6 e7 e8 e9 e10 e11 e12 e13).mono ?_
  rintro e w' ⟨rfl, rfl⟩
  exact ⟨rfl, ⟨s6, s7, s8, s9, s10, s11, s12, s13, s14, C, R⟩, ⟨Nat.le_refl _, fun _ _ _ => rfl, fun _ _ _ h => h⟩⟩
end Rcp
end Go.Proofs.YtfdamkiocefgmaaDoor
