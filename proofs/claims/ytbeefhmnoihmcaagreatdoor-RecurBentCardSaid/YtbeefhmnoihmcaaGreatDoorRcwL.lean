/-
  RecurKinds: what the law's rules are. (Written by gen/gen_rcwk.py.)
-/
import Derived.Test.YtbeefhmnoihmcaaGreatDoorRcwB
import Derived.Test.YtbeefhmnoihmcaaGreatDoorCelR
namespace Go.Proofs.YtbeefhmnoihmcaaGreatDoor
open Go.RowKit
namespace Rct
open Cel
open Rcp
open Rcv (CV IntV DayV LisV RecV)
open Rck (ckE Small)
open Civ (Ahead)
def kn1 (f : Int) : CV := ⟨f, 1, 0, false, 0, false, [], [], [], [(1, 3)], [], [], [], [], [], 0⟩
def kn2 (f : Int) : CV := ⟨f, 1, 0, false, 0, false, [], [], [], [], [-1], [], [], [], [], 0⟩
def kn3 (f : Int) : CV := ⟨f, 1, 0, false, 0, false, [], [], [], [], [], [200], [], [], [], 0⟩
def kn4 (f : Int) : CV := ⟨f, 1, 0, false, 0, false, [], [], [], [], [], [], [53], [], [], 0⟩
def kn5 (f : Int) : CV := ⟨f, 1, 0, false, 0, false, [], [], [], [(2, 3)], [], [], [1], [], [], 0⟩
def kn6 (f : Int) : CV := ⟨f, 1, 0, false, 0, false, [], [], [0], [(0, 3)], [], [], [], [5], [-1], 0⟩
theorem kf1 {f : Int} (h1 : 1 ≤ f) (h2 : f ≤ 7) : ((ckE (kn1 f) == 0) == decide (6 ≤ f)) = true := by
  have hv : f = 1 ∨ f = 2 ∨ f = 3 ∨ f = 4 ∨ f = 5 ∨ f = 6 ∨ f = 7 := by omega
  rcases hv with rfl | rfl | rfl | rfl | rfl | rfl | rfl <;> decide +kernel
theorem kf2 {f : Int} (h1 : 1 ≤ f) (h2 : f ≤ 7) : ((ckE (kn2 f) == 0) == (f != 5)) = true := by
  have hv : f = 1 ∨ f = 2 ∨ f = 3 ∨ f = 4 ∨ f = 5 ∨ f = 6 ∨ f = 7 := by omega
  rcases hv with rfl | rfl | rfl | rfl | rfl | rfl | rfl <;> decide +kernel
theorem kf3 {f : Int} (h1 : 1 ≤ f) (h2 : f ≤ 7) : ((ckE (kn3 f) == 0) == (decide (f < 4) || (f == 7))) = true := by
  have hv : f = 1 ∨ f = 2 ∨ f = 3 ∨ f = 4 ∨ f = 5 ∨ f = 6 ∨ f = 7 := by omega
  rcases hv with rfl | rfl | rfl | rfl | rfl | rfl | rfl <;> decide +kernel
theorem kf4 {f : Int} (h1 : 1 ≤ f) (h2 : f ≤ 7) : ((ckE (kn4 f) == 0) == (f == 7)) = true := by
  have hv : f = 1 ∨ f = 2 ∨ f = 3 ∨ f = 4 ∨ f = 5 ∨ f = 6 ∨ f = 7 := by omega
  rcases hv with rfl | rfl | rfl | rfl | rfl | rfl | rfl <;> decide +kernel
theorem kf5 {f : Int} (h1 : 1 ≤ f) (h2 : f ≤ 7) : ckE (kn5 f) = 21 := by
  have hv : f = 1 ∨ f = 2 ∨ f = 3 ∨ f = 4 ∨ f = 5 ∨ f = 6 ∨ f = 7 := by omega
  rcases hv with rfl | rfl | rfl | rfl | rfl | rfl | rfl <;> decide +kernel
theorem kf6 {f : Int} (h1 : 1 ≤ f) (h2 : f ≤ 7) : ckE (kn6 f) = 0 := by
  have hv : f = 1 ∨ f = 2 ∨ f = 3 ∨ f = 4 ∨ f = 5 ∨ f = 6 ∨ f = 7 := by omega
  rcases hv with rfl | rfl | rfl | rfl | rfl | rfl | rfl <;> decide +kernel
/-- A rule in a block. -/
def BlkX (w : World) (p : Value) (x : CV) : Prop := ∃ (g : Nat) (s6 s7 s8 s9 s10 s11 s12 s13 s14 : Value), p = .pointer (some ⟨g, 0, none⟩) ∧ Cs g w [.int .i64 x.fq, .int .i64 x.iv, .int .i64 x.ct, .bool x.un, .int .i64 x.ua, .bool x.ut, s6, s7, s8, s9, s10, s11, s12, s13, s14, .int .i64 x.wk] ∧ LisV w x s6 s7 s8 s9 s10 s11 s12 s13 s14
theorem BlkX.below {w w' : World} {p : Value} {x : CV} (h : BlkX w p x) (hb : Below w.heap.size w w') : BlkX w' p x := by
  obtain ⟨g, s6, s7, s8, s9, s10, s11, s12, s13, s14, h1, h2, h3⟩ := h
  exact ⟨g, s6, s7, s8, s9, s10, s11, s12, s13, s14, h1, h2.below hb, h3.below hb⟩
theorem BlkX.new {w : World} {p : Value} {x : CV} {s6 s7 s8 s9 s10 s11 s12 s13 s14 : Value} (hl : LisV w x s6 s7 s8 s9 s10 s11 s12 s13 s14) (hp : p = .pointer (some ⟨w.heap.size, 0, none⟩)) : BlkX (w.alloc (Obj.cells #[.int .i64 x.fq, .int .i64 x.iv, .int .i64 x.ct, .bool x.un, .int .i64 x.ua, .bool x.ut, s6, s7, s8, s9, s10, s11, s12, s13, s14, .int .i64 x.wk] 25)) p x :=
  ⟨_, s6, s7, s8, s9, s10, s11, s12, s13, s14, hp, Cs.new w _ _, hl.below ((Below.refl _ _).alloc (Nat.le_refl _) _)⟩
theorem cs_at {g : Nat} {w : World} (hg : g = w.heap.size) (vs : List Value) (t : TypeId) : Cs g (w.alloc (Obj.cells vs.toArray t)) vs := by subst hg; exact Cs.new w vs t
theorem sm_small {x : CV} (h : x.sc.length + x.mi.length + x.hr.length + x.dy.length + x.md.length + x.yd.length + x.wn.length + x.mo.length + x.sp.length ≤ 100) : Small x := ⟨by omega, by omega, by omega, by omega, by omega, by omega, by omega, by omega, by omega⟩
theorem chk_b {w : World} {x : CV} {c : Int} (s6 s7 s8 s9 s10 s11 s12 s13 s14 : Value) (hA : Ahead w) (hu : x.ua = 0) (hl : LisV w x s6 s7 s8 s9 s10 s11 s12 s13 s14) (hs : x.sc.length + x.mi.length + x.hr.length + x.dy.length + x.md.length + x.yd.length + x.wn.length + x.mo.length + x.sp.length ≤ 100) (hc : Hid (ckE x = c)) :
    Calls Tryz.prog 9 #[.agg #[.int .i64 x.fq, .int .i64 x.iv, .int .i64 x.ct, .bool x.un, .int .i64 x.ua, .bool x.ut, s6, s7, s8, s9, s10, s11, s12, s13, s14, .int .i64 x.wk]] w fun e w' => e = .returned (.int .i64 c) ∧ Below w.heap.size w w' :=
  Rck.ck_to s6 s7 s8 s9 s10 s11 s12 s13 s14 x c w hA (by rw [hu]; decide) (by rw [hu]; decide) (Lib.hid hl) (Lib.hid (sm_small hs)) hc
/-- A struct's load out of a known block, in one step, guarded or not. -/
theorem kn_load {ops : Array Oper} {rest : List Oper} {op : Oper} {a : Act} {w : World} {Q : Exit → Act → World → Prop} {g : Nat} {x : Operand} {vs : List Value} (C : Cs g w vs) (hv : vs.length = 16) (ho : op.op = .load 25 x)
    (hw : Region.wanted op (yielded ops a.tmps) = true) (hx : a.eval x = .pointer (some ⟨g, 0, none⟩)) (h : ∀ K : Act → World → Prop, (∀ a w, wpList Tryz.prog ops Q rest a w → K a w) → K (a.put op.dst (.agg vs.toArray)) w) : wpList Tryz.prog ops Q (op :: rest) a w :=
  wpList_step fun K hK => by rw [if_pos hw]; exact wp_load_mid _ x ho g 0 hx vs _ C.range Tryz.underlying25 rfl (by rw [hv]; kernel_rfl) (h K hK)
/-- A struct's store into a known block, in one step. -/
theorem kn_store {ops : Array Oper} {rest : List Oper} {op : Oper} {a : Act} {w : World} {Q : Exit → Act → World → Prop} {g : Nat} {x y : Operand} {vs us : List Value} (C : Cs g w vs) (hv : vs.length = 16) (hu : us.length = 16) (h1 : us.toArray.all (·.oneCell') = true) (ho : op.op = .store 25 x y)
    (hw : Region.wanted op (yielded ops a.tmps) = true) (hx : a.eval x = .pointer (some ⟨g, 0, none⟩)) (hy : a.eval y = .agg us.toArray) (h : ∀ K : Act → World → Prop, (∀ a w, wpList Tryz.prog ops Q rest a w → K a w) → K (a.put op.dst undef) (w.setCells g 0 us)) : wpList Tryz.prog ops Q (op :: rest) a w :=
  wpList_step fun K hK => by
    rw [if_pos hw]
    have ht := C.there
    rw [hv] at ht
    exact wp_store_mid _ x y ho g 0 us.toArray hx hy (by rw [List.size_toArray, hu]; exact ht) (by rw [List.size_toArray, hu]; kernel_rfl) h1 (h K hK)
def startsK (n : Nat) : Code → Bool
  | .region k _ _ => k == n
  | .seq a _ => startsK n a
  | .scope a => startsK n a
  | .block _ a => startsK n a
  | _ => false
def fromK (n : Nat) : Code → Option Code
  | .seq a b => if startsK n a = true then some (.seq a b) else fromK n b
  | c => if startsK n c = true then some c else none
end Rct
end Go.Proofs.YtbeefhmnoihmcaaGreatDoor
