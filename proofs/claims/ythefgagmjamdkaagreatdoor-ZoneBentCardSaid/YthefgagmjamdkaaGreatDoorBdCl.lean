/-
  Several texts in one (AppX, Cel, RcvA, CelR, RowD, HeldR, Tl).
-/
import Derived.Test.YthefgagmjamdkaaGreatDoorRows
import Derived.Deep.AppendLies
import Derived.WalkKit
import Derived.WalkSmall
import Derived.OneCell
import Derived.Below
import Derived.Laws.OwnMore
import Derived.Lib.Hide
import Derived.Deep.Draws
import Derived.Deep.QuietTactic
import Derived.Deep.MidRow
import Derived.Deep.RegionHeld3
/-
  One element, laid into a block of its own, appended to a row that the call owns: what that leaves. Rows of numbers.
-/
namespace Go.Proofs.YthefgagmjamdkaaGreatDoor
open Go.RowKit
namespace Ap
/-- What an append to v leaves: what lay below stands, rows in other blocks stand, cells of other blocks stand. -/
structure Grew (B : Nat) (v : Value) (w w' : World) : Prop where
  below : ∀ (B0 : Nat) (W0 : World), B0 ≤ B → Below B0 W0 w → B0 ≤ w.heap.size → Below B0 W0 w'
  other : ∀ (B' : Nat) (e' : TypeId) (s : Nat) (v' : Value) (n : Nat) (xs : List Value), v'.ownBlock = none ∨ v'.ownBlock ≠ v.ownBlock → w.ownsRow B' e' s v' n xs → w'.ownsRow B' e' s v' n xs
  block : ∀ k, k < w.heap.size → some k ≠ v.ownBlock → w'.heap[k]? = w.heap[k]?
  size : w.heap.size ≤ w'.heap.size
theorem Grew.cell {B : Nat} {v : Value} {w w' : World} (h : Grew B v w w') {p : Addr} (hp : p.block < w.heap.size) (hne : some p.block ≠ v.ownBlock) : w'.cell? p = w.cell? p := World.cell?_of_block (h.block _ hp hne)
theorem Grew.frozen {B : Nat} {v : Value} {w w' : World} (h : Grew B v w w') {p : Addr} (hp : p.block < w.heap.size) (hne : some p.block ≠ v.ownBlock) : w'.frozen? p = w.frozen? p := World.frozen?_of_block (h.block _ hp hne)
theorem grew_of {B : Nat} {e : TypeId} {size : Nat} {w w' : World} {v : Value} {n : Nat} {xs : List Value} {o : Obj} (hown : w.ownsRow B e size v n xs) (hg : (w.alloc o).grownBy w' v.ownBlock) : Grew B v w w' where
  below := fun B0 W0 hB hb hw => (hb.alloc hw _).grown hg (by simp; omega) (fun k hk => Nat.le_trans hB (hown.lt k hk).1)
  other := fun B' e' s v' n' xs' hne h' => (h'.alloc o).kept hg hne
  block := fun k hk hne => (hg.block k (by simp; omega) hne).trans (Below.heap_alloc w o k hk)
  size := Nat.le_trans (by simp) hg.size
theorem appX {P : Program} {w : World} {ops : Array Oper} {rest : List Oper} {o : Oper} {a : Act} {Q : Exit → Act → World → Prop} (hgd : o.guard = none) (s x : Operand) (t : TypeId)
    (ho : o.op = .call { callee := .builtin .append, args := #[s, x], argTypes := #[t, t] })
    (B : Nat) (e : TypeId) (i : TypeInfo) (z : Value) (size bytes : Nat) (ht : P.underlying t = some (.slice e)) (hi : P.info? e = some i) (hz : i.zero = some z)
    (hsize : i.size = size) (hby : i.bytes = bytes) (hzs : z.cells.size = size) (hsz : 0 < size)
    (v : Value) (n : Nat) (xs : List Value) (hs : a.eval s = v) (hown : w.ownsRow B e size v n xs) (cs : Array Value) (te : TypeId) (hcs : cs.size = size) (h1 : ∀ u ∈ cs.toList, u.oneCell' = true)
    (hx : a.eval x = .slice (some ⟨w.heap.size, 0, none⟩) 1 1) (hn : n ≤ 100000000) (hb2 : bytes ≤ 1000) (hB : B ≤ w.heap.size)
    (h : ∀ w' g cap, w'.ownsRow B e size (.slice (some ⟨g, 0, none⟩) (n + 1) cap) (n + 1) (xs ++ cs.toList) → Grew B v w w' → (v.ownBlock = some g ∨ g = w.heap.size + 1) → wpList P ops Q rest (a.put o.dst (.slice (some ⟨g, 0, none⟩) (n + 1) cap)) w') :
    wpList P ops Q (o :: rest) a (w.alloc (.cells cs te)) := by
  refine wpList_append_lies _ hgd s x t ho B e i z size bytes ht hi hz hsize hby hzs hsz v n xs hs (hown.alloc _) ⟨w.heap.size, 0, none⟩ 1 1 cs.toList hx (by simp [hcs]) (World.news_of_block (heap_alloc_new w _)) h1 (by decide) (by unfold maxLen; omega) ?_ (by simp; omega) (w.heap.size + 1) (by simp) ?_
  · have : (n + 1) * bytes ≤ 100000001 * 1000 := Nat.mul_le_mul (by omega) hb2
    omega
  · intro g cap w' r3 g3 hat _
    exact h w' g cap r3 (grew_of hown g3) hat
theorem own_at {w : World} {B : Nat} {e : TypeId} {size : Nat} {v : Value} {n : Nat} {xs : List Value} (h : w.ownsRow B e size v n xs) {g off : Nat} {sp : Option Nat} {cap m : Nat} (hv : v = .slice (some ⟨g, off, sp⟩) m cap) : off = 0 ∧ sp = none ∧ m = n ∧ B ≤ g ∧ g < w.heap.size := by
  rcases h.2 with ⟨h1, _⟩ | ⟨g', cap', cur, h1, hb, hg, _⟩
  · rw [h1] at hv; cases hv
  · rw [h1] at hv
    injection hv with e1 e2 e3
    injection e1 with e1
    injection e1 with e1 e4 e5
    subst e1 e2 e3 e4 e5
    exact ⟨rfl, rfl, rfl, hb, (Array.getElem?_eq_some_iff.1 hg).1⟩
theorem own_cap {w : World} {B : Nat} {e : TypeId} {size : Nat} {A : Option Addr} {m cap n : Nat} {xs : List Value} (h : w.ownsRow B e size (.slice A m cap) n xs) : m = n ∧ m ≤ cap ∧ cap ≤ maxLen := by
  rcases h.2 with ⟨h1, h2⟩ | ⟨g', cap', cur, h1, _, _, hn, hc, _⟩
  · injection h1 with e1 e2 e3
    subst e2 e3
    exact ⟨h2.symm, Nat.le_refl _, Nat.zero_le _⟩
  · injection h1 with e1 e2 e3
    subst e2 e3
    exact ⟨rfl, hn, hc⟩
theorem own_below {w w' : World} {B : Nat} {e : TypeId} {size : Nat} {v : Value} {n : Nat} {xs : List Value} (h : w.ownsRow B e size v n xs) (hb : Below w.heap.size w w') : w'.ownsRow B e size v n xs := by
  refine ⟨h.1, ?_⟩
  rcases h.2 with h1 | ⟨g, cap, cur, hv, hg, hh, r⟩
  · exact Or.inl h1
  · exact Or.inr ⟨g, cap, cur, hv, hg, (hb.block g (Array.getElem?_eq_some_iff.1 hh).1).trans hh, r⟩
def iv (n : Int) : Value := .int .i64 n
/-- A row of numbers that the call owns. -/
def RowI (B : Nat) (w : World) (v : Value) (L : List Int) : Prop := w.ownsRow B 3 1 v L.length (L.map iv)
theorem RowI.nil (B : Nat) (w : World) : RowI B w (.slice none 0 0) [] := World.ownsRow_nil _ _ _ _
theorem RowI.below {B : Nat} {w w' : World} {v : Value} {L : List Int} (h : RowI B w v L) (hb : Below w.heap.size w w') : RowI B w' v L := own_below h hb
theorem RowI.forms {B : Nat} {w : World} {v : Value} {L : List Int} (h : RowI B w v L) : ∃ A c, v = .slice A L.length c := by
  rcases h.2 with ⟨h1, h2⟩ | ⟨g, cap, cur, h1, _⟩
  · exact ⟨none, 0, by rw [h1, h2]⟩
  · exact ⟨_, _, h1⟩
theorem RowI.form {B : Nat} {w : World} {v : Value} {L : List Int} (h : RowI B w v L) (h0 : 0 < L.length) : ∃ g c, v = .slice (some ⟨g, 0, none⟩) L.length c ∧ B ≤ g ∧ g < w.heap.size ∧ (∀ (j : Nat) (hj : j < L.length), w.cell? ⟨g, j, none⟩ = some (.int .i64 L[j])) ∧ ∀ j, w.frozen? ⟨g, j, none⟩ = false := by
  obtain ⟨g, c, rfl, hb, hl⟩ := World.ownsRow.form h h0
  refine ⟨g, c, rfl, hb, hl, fun j hj => ?_, fun j => World.ownsRow.frozenAt h j⟩
  rw [World.ownsRow.cellAt h j (by omega), List.getElem?_map, List.getElem?_eq_getElem hj]
  rfl
theorem infoI : (Tryz.prog.info? 3).map (fun i => (i.zero, i.size, i.bytes)) = some (some (.int .i64 0), 1, 8) := by kernel_rfl
end Ap
end Go.Proofs.YthefgagmjamdkaaGreatDoor
/-
  The cells of a block that a call has laid: what they hold, and that they may be written.
-/
namespace Go.Proofs.YthefgagmjamdkaaGreatDoor
open Go.RowKit
namespace Cel
def Cs (g : Nat) (w : World) (vs : List Value) : Prop := g < w.heap.size ∧ ∀ i v, vs[i]? = some v → w.cell? ⟨g, i, none⟩ = some v ∧ w.frozen? ⟨g, i, none⟩ = false
theorem Cs.new (w : World) (vs : List Value) (t : TypeId) : Cs w.heap.size (w.alloc (Obj.cells vs.toArray t)) vs := by
  refine ⟨by simp, fun i v h => ⟨?_, ?_⟩⟩
  · rw [World.cell?_alloc_at _ _ _ _ rfl]
    simpa using h
  · go_simp
theorem Cs.below {g : Nat} {w w' : World} {vs : List Value} (h : Cs g w vs) (hb : Below w.heap.size w w') : Cs g w' vs :=
  ⟨Nat.lt_of_lt_of_le h.1 hb.size, fun i v hi => ⟨(hb.cell (p := ⟨g, i, none⟩) h.1).trans (h.2 i v hi).1, (hb.frozen (p := ⟨g, i, none⟩) h.1).trans (h.2 i v hi).2⟩⟩
theorem Cs.set {g : Nat} {w : World} {vs : List Value} (h : Cs g w vs) (i : Nat) (hi : i < vs.length) (x : Value) : Cs g (w.setCell ⟨g, i, none⟩ x) (vs.set i x) := by
  have h0 := h.2 i vs[i] (List.getElem?_eq_getElem hi)
  refine ⟨by have := h.1; simpa [World.setCell] using this, fun j v hj => ?_⟩
  by_cases e : j = i
  · subst e
    rw [List.getElem?_set_self hi] at hj
    injection hj with hj
    subst hj
    exact ⟨World.cell?_setCell_same _ _ _ h0.1, by rw [World.frozen?_setCell]; exact h0.2⟩
  · rw [List.getElem?_set_ne (fun k => e k.symm)] at hj
    exact ⟨(World.cell?_setCell_other _ _ _ _ (fun k => by injection k with _ k _; exact e k.symm)).trans (h.2 j v hj).1, by rw [World.frozen?_setCell]; exact (h.2 j v hj).2⟩
theorem Cs.other {g b i : Nat} {w : World} {vs : List Value} (h : Cs g w vs) (hne : b ≠ g) (x : Value) : Cs g (w.setCell ⟨b, i, none⟩ x) vs :=
  ⟨by have := h.1; simpa [World.setCell] using this, fun j v hj => ⟨(World.cell?_setCell_other _ _ _ _ (fun k => by injection k with k _ _; exact hne k)).trans (h.2 j v hj).1, by rw [World.frozen?_setCell]; exact (h.2 j v hj).2⟩⟩
theorem Cs.alloc {g : Nat} {w : World} {vs : List Value} (h : Cs g w vs) (o : Obj) : Cs g (w.alloc o) vs := h.below ((Below.refl _ _).alloc (Nat.le_refl _) o)
theorem Cs.drewN {g : Nat} {w : World} {vs : List Value} (h : Cs g w vs) (n : Nat) : Cs g (w.drewN n) vs := h.below ⟨rfl, rfl, rfl, Nat.le_refl _, fun _ _ => rfl⟩
theorem bstep {w a b : World} (h : Below w.heap.size w a) (k : Below a.heap.size a b) : Below w.heap.size w b := h.trans (k.mono h.size)
end Cel
end Go.Proofs.YthefgagmjamdkaaGreatDoor
/-
  Recurrence rules as values: slices of numbers and of weekdays, wherever they came from; the laws' Ints over any two.
-/
namespace Go.Proofs.YthefgagmjamdkaaGreatDoor
open Go.RowKit
namespace Rcv
open Cel
open Ap (RowI)
/-- The value reads as the numbers L. -/
def IntV (w : World) (v : Value) (L : List Int) : Prop := ∃ a n c, v = .slice a n c ∧ n = L.length ∧ ∀ (j : Nat) (hj : j < L.length), ∃ b off, a = some ⟨b, off, none⟩ ∧ b < w.heap.size ∧ w.cell? ⟨b, off + j, none⟩ = some (.int .i64 L[j])
theorem IntV.below {w w' : World} {v : Value} {L : List Int} (h : IntV w v L) (hb : Below w.heap.size w w') : IntV w' v L := by
  obtain ⟨a, n, c, hv, hn, hc⟩ := h
  refine ⟨a, n, c, hv, hn, fun j hj => ?_⟩
  obtain ⟨b, off, ha, hl, hcell⟩ := hc j hj
  exact ⟨b, off, ha, Nat.lt_of_lt_of_le hl hb.size, (hb.cell (p := ⟨b, off + j, none⟩) hl).trans hcell⟩
theorem IntV.form {w : World} {v : Value} {L : List Int} (h : IntV w v L) (h0 : 0 < L.length) : ∃ b off c, v = .slice (some ⟨b, off, none⟩) L.length c ∧ b < w.heap.size ∧ ∀ (j : Nat) (hj : j < L.length), w.cell? ⟨b, off + j, none⟩ = some (.int .i64 L[j]) := by
  obtain ⟨a, n, c, hv, rfl, hc⟩ := h
  obtain ⟨b, off, rfl, hl, _⟩ := hc 0 h0
  refine ⟨b, off, c, hv, hl, fun j hj => ?_⟩
  obtain ⟨b', off', e, _, h2⟩ := hc j hj
  injection e with e
  injection e with e1 e2
  subst e1 e2
  exact h2
theorem IntV.nil {w : World} {v : Value} (h : IntV w v []) : ∃ a c, v = .slice a 0 c := by
  obtain ⟨a, n, c, hv, hn, _⟩ := h
  exact ⟨a, c, by rw [hv, hn]; rfl⟩
theorem IntV.slice {w : World} {v : Value} {L : List Int} (h : IntV w v L) : ∃ a c, v = .slice a L.length c := by
  obtain ⟨a, n, c, hv, rfl, _⟩ := h
  exact ⟨a, c, hv⟩
theorem IntV.none (w : World) : IntV w (.slice none 0 0) [] := ⟨_, _, _, rfl, rfl, fun j hj => by simp at hj⟩
theorem IntV.drew {w : World} {v : Value} {L : List Int} (h : IntV w v L) (m : Nat) : IntV (w.drewN m) v L := h
/-- The value reads as the weekdays L. -/
def DayV (w : World) (v : Value) (L : List (Int × Int)) : Prop := ∃ a n c, v = .slice a n c ∧ n = L.length ∧ ∀ (j : Nat) (hj : j < L.length), ∃ b off, a = some ⟨b, off, none⟩ ∧ b < w.heap.size ∧ w.cell? ⟨b, off + j * 2, none⟩ = some (.int .i64 (L[j]).1) ∧ w.cell? ⟨b, off + j * 2 + 1, none⟩ = some (.int .i64 (L[j]).2)
theorem DayV.below {w w' : World} {v : Value} {L : List (Int × Int)} (h : DayV w v L) (hb : Below w.heap.size w w') : DayV w' v L := by
  obtain ⟨a, n, c, hv, hn, hc⟩ := h
  refine ⟨a, n, c, hv, hn, fun j hj => ?_⟩
  obtain ⟨b, off, ha, hl, h1, h2⟩ := hc j hj
  exact ⟨b, off, ha, Nat.lt_of_lt_of_le hl hb.size, (hb.cell (p := ⟨b, off + j * 2, none⟩) hl).trans h1, (hb.cell (p := ⟨b, off + j * 2 + 1, none⟩) hl).trans h2⟩
theorem DayV.form {w : World} {v : Value} {L : List (Int × Int)} (h : DayV w v L) (h0 : 0 < L.length) : ∃ b off c, v = .slice (some ⟨b, off, none⟩) L.length c ∧ b < w.heap.size ∧ ∀ (j : Nat) (hj : j < L.length), w.cell? ⟨b, off + j * 2, none⟩ = some (.int .i64 (L[j]).1) ∧ w.cell? ⟨b, off + j * 2 + 1, none⟩ = some (.int .i64 (L[j]).2) := by
  obtain ⟨a, n, c, hv, rfl, hc⟩ := h
  obtain ⟨b, off, rfl, hl, _⟩ := hc 0 h0
  refine ⟨b, off, c, hv, hl, fun j hj => ?_⟩
  obtain ⟨b', off', e, _, h1, h2⟩ := hc j hj
  injection e with e
  injection e with e1 e2
  subst e1 e2
  exact ⟨h1, h2⟩
theorem DayV.nil {w : World} {v : Value} (h : DayV w v []) : ∃ a c, v = .slice a 0 c := by
  obtain ⟨a, n, c, hv, hn, _⟩ := h
  exact ⟨a, c, by rw [hv, hn]; rfl⟩
theorem DayV.slice {w : World} {v : Value} {L : List (Int × Int)} (h : DayV w v L) : ∃ a c, v = .slice a L.length c := by
  obtain ⟨a, n, c, hv, rfl, _⟩ := h
  exact ⟨a, c, hv⟩
theorem DayV.none (w : World) : DayV w (.slice none 0 0) [] := ⟨_, _, _, rfl, rfl, fun j hj => by simp at hj⟩
theorem IntV.of_row {B : Nat} {w : World} {v : Value} {L : List Int} (h : RowI B w v L) : IntV w v L := by
  by_cases h0 : L.length = 0
  · have hL : L = [] := List.length_eq_zero_iff.1 h0
    subst hL
    obtain ⟨A, c, rfl⟩ := h.forms
    exact ⟨_, _, _, rfl, rfl, fun j hj => by simp at hj⟩
  · obtain ⟨g, c, rfl, _, hl, hc, _⟩ := h.form (by omega)
    exact ⟨_, _, _, rfl, rfl, fun j hj => ⟨g, 0, rfl, hl, by rw [Nat.zero_add]; exact hc j hj⟩⟩
theorem int_one {w : World} {g : Nat} {n : Int} (h : Cs g w [.int .i64 n]) : IntV w (.slice (some ⟨g, 0, none⟩) 1 1) [n] := by
  refine ⟨_, _, _, rfl, rfl, fun j hj => ?_⟩
  have : j = 0 := by simpa using hj
  subst this
  exact ⟨g, 0, rfl, h.1, (h.2 0 _ rfl).1⟩
theorem day_one {w : World} {g : Nat} {n v : Int} (h : Cs g w [.int .i64 n, .int .i64 v]) : DayV w (.slice (some ⟨g, 0, none⟩) 1 1) [(n, v)] := by
  refine ⟨_, _, _, rfl, rfl, fun j hj => ?_⟩
  have : j = 0 := by simpa using hj
  subst this
  exact ⟨g, 0, rfl, h.1, (h.2 0 _ rfl).1, (h.2 1 _ rfl).1⟩
/-! ### Recurrence rules -/
structure CV where
  fq : Int
  iv : Int
  ct : Int
  un : Bool
  ua : Int
  ut : Bool
  sc : List Int
  mi : List Int
  hr : List Int
  dy : List (Int × Int)
  md : List Int
  yd : List Int
  wn : List Int
  mo : List Int
  sp : List Int
  wk : Int
def CV.zero : CV := ⟨0, 0, 0, false, 0, false, [], [], [], [], [], [], [], [], [], 0⟩
def aggR (r : CV) (s6 s7 s8 s9 s10 s11 s12 s13 s14 : Value) : Value := .agg #[.int .i64 r.fq, .int .i64 r.iv, .int .i64 r.ct, .bool r.un, .int .i64 r.ua, .bool r.ut, s6, s7, s8, s9, s10, s11, s12, s13, s14, .int .i64 r.wk]
structure LisV (w : World) (r : CV) (s6 s7 s8 s9 s10 s11 s12 s13 s14 : Value) : Prop where
  h6 : IntV w s6 r.sc
  h7 : IntV w s7 r.mi
  h8 : IntV w s8 r.hr
  h9 : DayV w s9 r.dy
  h10 : IntV w s10 r.md
  h11 : IntV w s11 r.yd
  h12 : IntV w s12 r.wn
  h13 : IntV w s13 r.mo
  h14 : IntV w s14 r.sp
theorem LisV.below {w w' : World} {r : CV} {s6 s7 s8 s9 s10 s11 s12 s13 s14 : Value} (h : LisV w r s6 s7 s8 s9 s10 s11 s12 s13 s14) (hb : Below w.heap.size w w') : LisV w' r s6 s7 s8 s9 s10 s11 s12 s13 s14 :=
  ⟨h.h6.below hb, h.h7.below hb, h.h8.below hb, h.h9.below hb, h.h10.below hb, h.h11.below hb, h.h12.below hb, h.h13.below hb, h.h14.below hb⟩
/-- A value reads as a rule. -/
def RecV (w : World) (v : Value) (r : CV) : Prop := ∃ s6 s7 s8 s9 s10 s11 s12 s13 s14, v = aggR r s6 s7 s8 s9 s10 s11 s12 s13 s14 ∧ LisV w r s6 s7 s8 s9 s10 s11 s12 s13 s14
theorem RecV.below {w w' : World} {v : Value} {r : CV} (h : RecV w v r) (hb : Below w.heap.size w w') : RecV w' v r := by
  obtain ⟨s6, s7, s8, s9, s10, s11, s12, s13, s14, e, h⟩ := h
  exact ⟨_, _, _, _, _, _, _, _, _, e, h.below hb⟩
structure SmlC (r : CV) : Prop where
  l6 : r.sc.length ≤ 1000000
  l7 : r.mi.length ≤ 1000000
  l8 : r.hr.length ≤ 1000000
  l9 : r.dy.length ≤ 1000000
  l10 : r.md.length ≤ 1000000
  l11 : r.yd.length ≤ 1000000
  l12 : r.wn.length ≤ 1000000
  l13 : r.mo.length ≤ 1000000
  l14 : r.sp.length ≤ 1000000
end Rcv
end Go.Proofs.YthefgagmjamdkaaGreatDoor
/-
  The cells of a block, all at once: a struct's load and store as one step each (no cell by itself).
-/
namespace Go.Proofs.YthefgagmjamdkaaGreatDoor
open Go.RowKit
namespace Cel
theorem Cs.there {g : Nat} {w : World} {vs : List Value} (h : Cs g w vs) : w.there g 0 vs.length := fun j hj => by
  have := h.2 j _ (List.getElem?_eq_getElem hj)
  rw [Nat.zero_add]
  exact ⟨by rw [this.1]; rfl, this.2⟩
theorem Cs.range {g : Nat} {w : World} {vs : List Value} (h : Cs g w vs) : w.rangeAt g 0 vs := fun j v hj => by
  rw [Nat.zero_add]
  exact (h.2 j v hj).1
theorem size_setCells (b : Nat) : ∀ (vs : List Value) (o : Nat) (w : World), (w.setCells b o vs).heap.size = w.heap.size
  | [], _, _ => rfl
  | v :: r, o, w => by rw [World.setCells, size_setCells b r (o + 1)]; simp [World.setCell]
theorem below_setCells {n b : Nat} {w0 : World} (hb : n ≤ b) : ∀ (vs : List Value) (o : Nat) (w : World), Below n w0 w → Below n w0 (w.setCells b o vs)
  | [], _, _, h => h
  | v :: r, o, w, h => by
    rw [World.setCells]
    exact below_setCells hb r (o + 1) _ (h.setCell hb v)
theorem Cs.row {g : Nat} {w : World} {vs : List Value} (h : Cs g w vs) (us : List Value) (hl : us.length = vs.length) : Cs g (w.setCells g 0 us) us := by
  refine ⟨by rw [size_setCells]; exact h.1, fun j v hj => ?_⟩
  have hj' : j < us.length := (List.getElem?_eq_some_iff.1 hj).1
  have ht := h.there
  rw [World.frozen?_setCells]
  refine ⟨?_, (h.2 j _ (List.getElem?_eq_getElem (by omega))).2⟩
  have := World.rangeAt_setCells_same w g 0 us (by rw [hl]; exact ht) j v hj
  rwa [Nat.zero_add] at this
theorem Cs.rowOther {g b o : Nat} {w : World} {vs : List Value} (h : Cs g w vs) (hne : b ≠ g) (us : List Value) : Cs g (w.setCells b o us) vs := by
  refine ⟨by rw [size_setCells]; exact h.1, fun j v hj => ?_⟩
  rw [World.frozen?_setCells, World.cell?_setCells_out b us o w _ (fun e => absurd e.symm hne)]
  exact h.2 j v hj
theorem Cs.store {P : Program} {g ty : Nat} {w : World} {vs : List Value} (h : Cs g w vs) (us : List Value) (hl : us.length = vs.length) (hi : (P.info? ty).map (·.size) = some us.length) (h1 : us.toArray.all (·.oneCell') = true) :
    (Instr.storeAt ty (.pointer (some ⟨g, 0, none⟩)) (.agg us.toArray)).run P w = .ok () (w.setCells g 0 us) :=
  run_storeAt_mid w g 0 ty us.toArray (by have := h.there; rw [← hl] at this; exact this) hi h1
theorem Cs.load {P : Program} {g ty : Nat} {w : World} {vs : List Value} (h : Cs g w vs) (d : TypeDesc) (hu : P.underlying ty = some d) (hd : d.isRow = true) (hi : (P.info? ty).map (·.size) = some vs.length) :
    (Instr.loadAt ty (.pointer (some ⟨g, 0, none⟩))).run P w = .ok (.agg vs.toArray) w :=
  run_loadAt_mid w g 0 ty vs d h.range hu hd hi
end Cel
end Go.Proofs.YthefgagmjamdkaaGreatDoor
/-
  Rows of weekdays that a call owns; rows and stores elsewhere.
-/
namespace Go.Proofs.YthefgagmjamdkaaGreatDoor
open Go.RowKit
namespace Rcp
open Cel
open Ap (RowI Grew)
def dvL (L : List (Int × Int)) : List Value := L.flatMap fun d => [.int .i64 d.1, .int .i64 d.2]
theorem dv_len (L : List (Int × Int)) : (dvL L).length = L.length * 2 := by
  induction L with
  | nil => rfl
  | cons d r ih => simp only [dvL, List.flatMap_cons, List.length_append, List.length_cons, List.length_nil] at ih ⊢; omega
theorem dv_at : ∀ (L : List (Int × Int)) (j : Nat) (hj : j < L.length), (dvL L)[j * 2]? = some (.int .i64 L[j].1) ∧ (dvL L)[j * 2 + 1]? = some (.int .i64 L[j].2)
  | [], j, hj => by simp at hj
  | d :: r, 0, _ => by simp [dvL]
  | d :: r, j + 1, hj => by
    have ih := dv_at r j (by simpa using hj)
    have e : dvL (d :: r) = .int .i64 d.1 :: .int .i64 d.2 :: dvL r := rfl
    rw [e, show (j + 1) * 2 = j * 2 + 1 + 1 by omega]
    simpa using ih
theorem own_cell {w : World} {B : Nat} {e : TypeId} {size : Nat} {v : Value} {n : Nat} {xs : List Value} (h : w.ownsRow B e size v n xs) {g i : Nat} (hg : g < B) (x : Value) : (w.setCell ⟨g, i, none⟩ x).ownsRow B e size v n xs := by
  refine ⟨h.1, ?_⟩
  rcases h.2 with h1 | ⟨g', cap, cur, hv, hg', hh, r⟩
  · exact Or.inl h1
  · exact Or.inr ⟨g', cap, cur, hv, hg', (Below.heap_setCell _ _ _ _ (by show g' ≠ g; omega)).trans hh, r⟩
theorem own_less {w : World} {B B' : Nat} {e : TypeId} {size : Nat} {v : Value} {n : Nat} {xs : List Value} (h : w.ownsRow B e size v n xs) (hb : B' ≤ B) : w.ownsRow B' e size v n xs := by
  refine ⟨h.1, ?_⟩
  rcases h.2 with h1 | ⟨g', cap, cur, hv, hg', r⟩
  · exact Or.inl h1
  · exact Or.inr ⟨g', cap, cur, hv, Nat.le_trans hb hg', r⟩
end Rcp
end Go.Proofs.YthefgagmjamdkaaGreatDoor
/-
  Regions that draw their order, with a condition on the world that may change as operations come up: R tells, of what has come up so far, what the world meets.
-/
namespace Go.Proofs.YthefgagmjamdkaaGreatDoor
open Go.RowKit
namespace Hr
section
variable {P : Program} {ops : Array Oper} {Q : Exit → Act → World → Prop} {md : Region.Mode} {R : Array Bool → World → Prop}
/-- Whatever comes up next; behind it R holds of what has come up then, and the rest goes in whatever order. -/
def Walk (P : Program) (md : Region.Mode) (ops : Array Oper) (Q : Exit → Act → World → Prop) (R : Array Bool → World → Prop) : Nat → Array Bool → Act → World → Prop
  | 0, up, a, w => Region.ready md ops up = [] ∧ Q .normal a w
  | n + 1, up, a, w => (Region.ready md ops up = [] → Q .normal a w) ∧ ∀ j ∈ Region.ready md ops up, wpOp P ops Q j (fun a' w' => R (up.setIfInBounds j true) w' ∧ Walk P md ops Q R n (up.setIfInBounds j true) a' w') a w
theorem Walk.any : ∀ (n : Nat) (up : Array Bool) (a : Act) (w : World), Walk P md ops Q R n up a w → wpAny P md ops Q n up a w
  | 0, _, _, _, h => h
  | n + 1, _, _, _, h => ⟨h.1, fun j hj => wpOp_mono (fun a' w' q => Walk.any n _ a' w' q.2) (h.2 j hj)⟩
/-- An operation that may come up yields one value in every world that meets S; R gives S as long as the operation has not come up (I: what is told of the states till then). -/
theorem Walk.first {i : Nat} {oi : Oper} {v : Value} {S : World → Prop} {I : Array Bool → Prop} (hi : ops[i]? = some oi) (hsel : ∀ (j : Nat) (o : Oper) cs b, ops[j]? = some o → o.op ≠ .select cs b)
    (hQ : ∀ c a w, Q (.panic c) (a.put oi.dst v) w → Q (.panic c) a w)
    (hI : ∀ up j, I up → i ∈ Region.ready md ops up → j ∈ Region.ready md ops up → j ≠ i → I (up.setIfInBounds j true))
    (hS : ∀ up w, I up → R up w → S w) (hR : ∀ up w, R (up.setIfInBounds i true) w → R up w) :
    ∀ (n : Nat) (up : Array Bool) (a : Act) (w : World),
      (∀ j oj, ops[j]? = some oj → j ≠ i → up.getD j true = false → (∀ e ∈ oj.after, Region.binds md e = true → e.on ≠ i) → oi.apart ops oj = true) →
      i ∈ Region.ready md ops up → I up → YieldsIf P ops S oi v a → S w → R (up.setIfInBounds i true) w →
      Walk P md ops Q R n (up.setIfInBounds i true) (a.put oi.dst v) w → Walk P md ops Q R (n + 1) up a w := by
  intro n
  induction n with
  | zero =>
    intro up a w _ hr _ hy hs hrw H
    refine ⟨fun h => (by rw [h] at hr; cases hr), fun j hj => ?_⟩
    by_cases hji : j = i
    · subst hji; exact hy.wpOp hi hs ⟨hrw, H⟩
    · have := ready_mono hj hji
      rw [H.1] at this
      cases this
  | succ n ih =>
    intro up a w hfree hr hIu hy hs hrw H
    refine ⟨fun h => (by rw [h] at hr; cases hr), fun j hj => ?_⟩
    by_cases hji : j = i
    · subst hji; exact hy.wpOp hi hs ⟨hrw, H⟩
    have h1 := H.2 j (ready_mono hj hji)
    obtain ⟨hjun, oj, hoj, hall⟩ := mem_ready.1 hj
    have hnot : ∀ e ∈ oj.after, Region.binds md e = true → e.on ≠ i := fun e he hb heq => by
      have q1 := hall e he hb
      have q0 := (mem_ready.1 hr).1
      rw [heq] at q1
      rcases Nat.lt_or_ge i up.size with h' | h'
      · simp [h'] at q0 q1; rw [q0] at q1; cases q1
      · simp [Array.getElem?_eq_none h'] at q1
    have h2 := wpOp_putIf hoj (hfree j oj hoj hji hjun hnot) (fun cs b => hsel i oi cs b hi) (fun cs b => hsel j oj cs b hoj) hQ hy h1
    have hfree' : ∀ k ok, ops[k]? = some ok → k ≠ i → (up.setIfInBounds j true).getD k true = false →
        (∀ e ∈ ok.after, Region.binds md e = true → e.on ≠ i) → oi.apart ops ok = true := fun k ok hk hki hun hno => by
      refine hfree k ok hk hki ?_ hno
      by_cases hjk : j = k
      · subst hjk; exact hjun
      · rw [getD_set_ne true hjk] at hun; exact hun
    refine wpOp_mono (fun a' w' h3 => ?_) h2
    obtain ⟨hy', hr3, hw3⟩ := h3
    rw [Array.setIfInBounds_comm _ _ (Ne.symm hji)] at hr3 hw3
    have hRj := hR _ _ hr3
    have hIj := hI up j hIu hr hj hji
    exact ⟨hRj, ih (up.setIfInBounds j true) a' w' hfree' (ready_mono hr (Ne.symm hji)) hIj hy' (hS _ _ hIj hRj) hr3 hw3⟩
theorem Walk.take {i : Nat} {oi : Oper} {v : Value} {n : Nat} {up : Array Bool} {a : Act} {w : World} (S : World → Prop) (I : Array Bool → Prop) (hi : ops[i]? = some oi)
    (hs : Region.noSelect ops = true) (hf : Region.free md ops up i = true) (hr : (Region.ready md ops up).contains i = true)
    (hQ : ∀ c a w, Q (.panic c) (a.put oi.dst v) w → Q (.panic c) a w)
    (hI : ∀ up j, I up → i ∈ Region.ready md ops up → j ∈ Region.ready md ops up → j ≠ i → I (up.setIfInBounds j true))
    (hS : ∀ up w, I up → R up w → S w) (hR : ∀ up w, R (up.setIfInBounds i true) w → R up w) (hIu : I up) (hy : YieldsIf P ops S oi v a) (hSw : S w) (hRw : R (up.setIfInBounds i true) w)
    (h : Walk P md ops Q R n (up.setIfInBounds i true) (a.put oi.dst v) w) : Walk P md ops Q R (n + 1) up a w :=
  Walk.first hi (Region.noSelect_spec hs) hQ hI hS hR n up a w (Region.free_spec hi hf) (by simpa using hr) hIu hy hSw hRw h
/-- One of those that may come up, where it is the only one. -/
theorem Walk.one {i : Nat} {o : Oper} {n : Nat} {up : Array Bool} {a : Act} {w : World} (hr : Region.ready md ops up = [i]) (ho : ops[i]? = some o)
    (h : ∀ K' : Act → World → Prop, Shut (∀ a w, R (up.setIfInBounds i true) w → Walk P md ops Q R n (up.setIfInBounds i true) a w → K' a w) → if Region.wanted o (yielded ops a.tmps) = true then Oper.wp P o a w K' Q else K' (a.put o.dst undef) w) : Walk P md ops Q R (n + 1) up a w := by
  refine ⟨fun h0 => (by rw [hr] at h0; cases h0), fun j hj => ?_⟩
  rw [hr] at hj
  obtain rfl := List.mem_singleton.1 hj
  exact wpOp_step ho (fun K' hK => h K' (fun a w hS hW => hK a w ⟨hS, hW⟩))
theorem Walk.done {up : Array Bool} {a : Act} {w : World} (hr : Region.ready md ops up = []) (h : Q .normal a w) : ∀ n, Walk P md ops Q R n up a w
  | 0 => ⟨hr, h⟩
  | n + 1 => ⟨fun _ => h, fun j hj => by rw [hr] at hj; cases hj⟩
theorem Walk.region {id : Nat} {a : Act} {w : World} (hm : P.follows .mixedOrders = true) (h : Walk P .any ops Q R ops.size (Array.replicate ops.size false) a w.drew) : (Code.region id ops true).wp P Q a w :=
  wp_region_any hm (Walk.any _ _ _ _ h)
/-- Number s waits for number i: it does not come up while i has not. -/
theorem keepI {s i : Nat} {os : Oper} (hs : ops[s]? = some os) (he : (os.after.any fun e => e.on == i && Region.binds md e) = true) (up : Array Bool) (j : Nat) (hI : up.getD s false = false) (hi : i ∈ Region.ready md ops up) (hj : j ∈ Region.ready md ops up) (_ : j ≠ i) : (up.setIfInBounds j true).getD s false = false := by
  have hjs : j ≠ s := by
    rintro rfl
    obtain ⟨_, oj, hoj, hall⟩ := mem_ready.1 hj
    obtain rfl : os = oj := Option.some.inj (hs.symm.trans hoj)
    obtain ⟨k, hk, hb⟩ := Array.any_eq_true.1 he
    rw [Bool.and_eq_true] at hb
    have q1 := hall _ (Array.getElem_mem hk) hb.2
    have q0 := (mem_ready.1 hi).1
    rw [eq_of_beq hb.1] at q1
    rcases Nat.lt_or_ge i up.size with h' | h'
    · simp [h'] at q0 q1; rw [q0] at q1; cases q1
    · simp [Array.getElem?_eq_none h'] at q1
  rw [getD_set_ne false hjs]; exact hI
theorem keepR {s i : Nat} {S : World → Prop} (h : i ≠ s) (up : Array Bool) (w : World) (hr : (up.setIfInBounds i true).getD s false = false → S w) : up.getD s false = false → S w := fun hu => hr (by rw [getD_set_ne false h]; exact hu)
end
end Hr
end Go.Proofs.YthefgagmjamdkaaGreatDoor
/-
  A body's tail: the code from a region on.
-/
namespace Go.Proofs.YthefgagmjamdkaaGreatDoor
open Go.RowKit
namespace Tl
def starts (n : Nat) : Code → Bool
  | .region k _ _ => k == n
  | .seq a _ => starts n a
  | .scope a => starts n a
  | .block _ a => starts n a
  | _ => false
def from_ (n : Nat) : Code → Option Code
  | .seq a b => if starts n a = true then some (.seq a b) else from_ n b
  | c => if starts n c = true then some c else none
/-- The same within arms and loops. -/
def find_ (n : Nat) : Code → Option Code
  | .seq a b => if starts n a = true then some (.seq a b) else (find_ n a).orElse (fun _ => find_ n b)
  | .cond _ a b => (find_ n a).orElse (fun _ => find_ n b)
  | .block _ a => find_ n a
  | .scope a => find_ n a
  | c => if starts n c = true then some c else none
end Tl
end Go.Proofs.YthefgagmjamdkaaGreatDoor
