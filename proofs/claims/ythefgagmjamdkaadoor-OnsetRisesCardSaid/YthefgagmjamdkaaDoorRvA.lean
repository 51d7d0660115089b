/-
  Lists of rules: values that read as one; those that came in, opened.
-/
import Derived.Test.YthefgagmjamdkaaDoorRsA
import Derived.Test.YthefgagmjamdkaaDoorOnsA
import Derived.Test.YthefgagmjamdkaaDoorBdFl
namespace Go.Proofs.YthefgagmjamdkaaDoor
open Go.RowKit Go.Deep Go.ChangeShapes Go.WideShapes
namespace Ons
open Rul Rs
/-- A rule's cells. -/
def rvC (r : RV) : List Value := [.string ⟨r.nm.toArray⟩, .int .i64 r.fr, .int .i64 r.tu, .int .i64 r.mo, .int .i64 r.k, .int .i64 r.v, .int .i64 r.d, .int .i64 r.n, .int .i64 r.c, .int .i64 r.sv, .string ⟨r.lt.toArray⟩]
theorem rvC_len (r : RV) : (rvC r).length = 11 := rfl
def RulV : World → Value → List RV → Prop := RowV rvC 11
/-- An onset's cells. -/
def ovC (o : OV) : List Value := [.int .i64 o.1, .int .i64 o.2.1, .int .i64 o.2.2]
theorem ovC_len (o : OV) : (ovC o).length = 3 := rfl
theorem ovC_one (o : OV) : ∀ u ∈ ovC o, u.oneCell' = true := by
  intro u hu
  simp only [ovC, List.mem_cons, List.not_mem_nil, or_false] at hu
  rcases hu with rfl | rfl | rfl <;> rfl
theorem rvC_one (r : RV) : ∀ u ∈ rvC r, u.oneCell' = true := by
  intro u hu
  simp only [rvC, List.mem_cons, List.not_mem_nil, or_false] at hu
  rcases hu with rfl | rfl | rfl | rfl | rfl | rfl | rfl | rfl | rfl | rfl | rfl <;> rfl
def i64B (n : Int) : Prop := -9223372036854775808 ≤ n ∧ n ≤ 9223372036854775807
/-- What is known of a rule that came in. -/
structure BdV (r : RV) : Prop where
  nm : r.nm.length ≤ maxLen
  lt : r.lt.length ≤ maxLen
  fr : i64B r.fr
  tu : i64B r.tu
theorem list_of {α : Type} {Q : Nat → α → Prop} : ∀ (n : Nat), (∀ j, j < n → ∃ a, Q j a) → ∃ L : List α, L.length = n ∧ ∀ (j : Nat) (hj : j < L.length), Q j L[j]
  | 0, _ => ⟨[], rfl, fun j hj => by simp at hj⟩
  | n + 1, h => by
    obtain ⟨L, hl, hL⟩ := list_of n (fun j hj => h j (Nat.lt_succ_of_lt hj))
    obtain ⟨a, ha⟩ := h n (Nat.lt_succ_self n)
    refine ⟨L ++ [a], by simp [hl], fun j hj => ?_⟩
    by_cases q : j < L.length
    · rw [List.getElem_append_left q]; exact hL j q
    · have : j = n := by simp at hj; omega
      subst this
      have : (L ++ [a])[j] = a := by simp [← hl]
      rw [this]; exact ha
section
variable {H : Type} {enc : TypeId × Value → H} {W : World} {base : Nat} {spare : Nat → Bool} {held : Bool}
theorem open_rules {fuel : Nat} {v : Value} {x : DataW H × List MemPlace} (h : DataW.trod enc Tryd.prog W base spare held fuel 22 [v] = some x) : ∃ L, RulV W v L ∧ (∀ r ∈ L, BdV r) ∧ L.length ≤ maxLen := by
  obtain ⟨A, n, c, rfl, hn, hj⟩ := Flat.open_rows Tryd.underlying22 (of_decide_eq_true (by kernel_rfl)) h
  have ke : Tryd.prog.cellsOf 43 = 11 := by kernel_rfl
  rw [ke] at hj
  obtain ⟨L, hl, hL⟩ := list_of (Q := fun j (r : RV) => BdV r ∧ ∃ b off, A = some ⟨b, off, none⟩ ∧ b < W.heap.size ∧ W.rangeAt b (off + j * 11) (rvC r)) n (fun j hjn => by
    obtain ⟨b, off, cs, hA, hb, hlen, hc, m, y, hy⟩ := hj j hjn
    match cs, hlen with
    | [c0, c1, c2, c3, c4, c5, c6, c7, c8, c9, c10], _ =>
      have lv := (Flat.leaves_at 4 43 [9, 3, 3, 3, 3, 3, 3, 3, 3, 3, 9] (by kernel_rfl) m [c0, c1, c2, c3, c4, c5, c6, c7, c8, c9, c10] _ hy).2
      obtain ⟨_, _, h0⟩ := lv 0 _ _ rfl rfl
      obtain ⟨_, _, h1⟩ := lv 1 _ _ rfl rfl
      obtain ⟨_, _, h2⟩ := lv 2 _ _ rfl rfl
      obtain ⟨_, _, h3⟩ := lv 3 _ _ rfl rfl
      obtain ⟨_, _, h4⟩ := lv 4 _ _ rfl rfl
      obtain ⟨_, _, h5⟩ := lv 5 _ _ rfl rfl
      obtain ⟨_, _, h6⟩ := lv 6 _ _ rfl rfl
      obtain ⟨_, _, h7⟩ := lv 7 _ _ rfl rfl
      obtain ⟨_, _, h8⟩ := lv 8 _ _ rfl rfl
      obtain ⟨_, _, h9⟩ := lv 9 _ _ rfl rfl
      obtain ⟨_, _, h10⟩ := lv 10 _ _ rfl rfl
      obtain ⟨s0, rfl, b0⟩ := Flat.leaf_s Tryd.underlying9 h0
      obtain ⟨n1, rfl, b1⟩ := Flat.leaf_i Tryd.underlying3 h1
      obtain ⟨n2, rfl, b2⟩ := Flat.leaf_i Tryd.underlying3 h2
      obtain ⟨n3, rfl, b3⟩ := Flat.leaf_i Tryd.underlying3 h3
      obtain ⟨n4, rfl, b4⟩ := Flat.leaf_i Tryd.underlying3 h4
      obtain ⟨n5, rfl, b5⟩ := Flat.leaf_i Tryd.underlying3 h5
      obtain ⟨n6, rfl, b6⟩ := Flat.leaf_i Tryd.underlying3 h6
      obtain ⟨n7, rfl, b7⟩ := Flat.leaf_i Tryd.underlying3 h7
      obtain ⟨n8, rfl, b8⟩ := Flat.leaf_i Tryd.underlying3 h8
      obtain ⟨n9, rfl, b9⟩ := Flat.leaf_i Tryd.underlying3 h9
      obtain ⟨s10, rfl, b10⟩ := Flat.leaf_s Tryd.underlying9 h10
      exact ⟨⟨s0, n1, n2, n3, n4, n5, n6, n7, n8, n9, s10⟩, ⟨b0, b10, bounds_i64 b1, bounds_i64 b2⟩, b, off, hA, hb, fun i u hu => hc i u hu⟩)
  refine ⟨L, ⟨A, n, c, rfl, hl.symm, fun j hj => (hL j hj).2⟩, fun r hr => ?_, by omega⟩
  obtain ⟨j, hj, rfl⟩ := List.mem_iff_getElem.1 hr
  exact (hL j hj).1
end
/-- A rule's load in one step. -/
theorem ldV {ops : Array Oper} {rest : List Oper} {op : Oper} {a : Act} {w : World} {Q : Exit → Act → World → Prop} {g o : Nat} {x : Operand} {vs : List Value} (C : w.rangeAt g o vs) (hv : vs.length = 11) (ho : op.op = .load 43 x)
    (hw : Region.wanted op (yielded ops a.tmps) = true) (hx : a.eval x = .pointer (some ⟨g, o, none⟩)) (h : ∀ K : Act → World → Prop, (∀ a w, wpList Tryd.prog ops Q rest a w → K a w) → K (a.put op.dst (.agg vs.toArray)) w) : wpList Tryd.prog ops Q (op :: rest) a w :=
  ldR C Tryd.underlying43 rfl (by rw [hv]; kernel_rfl) ho hw hx h
theorem infoO : (Tryd.prog.info? 37).map (fun i => (i.zero, i.size, i.bytes)) = some (some (.agg #[.int .i64 0, .int .i64 0, .int .i64 0]), 3, 24) := by kernel_rfl
/-- A row of onsets that the call owns. -/
def RowO (B : Nat) (w : World) (v : Value) (L : List OV) : Prop := RowT 37 ovC 3 B w v L
theorem RowO.below {B : Nat} {w w' : World} {v : Value} {L : List OV} (h : RowO B w v L) (hb : Below w.heap.size w w') : RowO B w' v L := RowT.below h hb
theorem RowO.nil (B : Nat) (w : World) : RowO B w (.slice none 0 0) [] := RowT.nil _ _ _ _ _
open Ap (Grew) in
theorem appO {w : World} {ops : Array Oper} {rest : List Oper} {o : Oper} {a : Act} {Q : Exit → Act → World → Prop} (hgd : o.guard = none) (s x : Operand)
    (ho : o.op = .call { callee := .builtin .append, args := #[s, x], argTypes := #[24, 24] })
    (B : Nat) (v : Value) (L : List OV) (n : Nat) (hLn : L.length = n) (hs : a.eval s = v) (hown : RowO B w v L) (i y t : Int)
    (hx : a.eval x = .slice (some ⟨w.heap.size, 0, none⟩) 1 1) (hn : n ≤ 100000000) (hB : B ≤ w.heap.size)
    (h : ∀ w' g cap, RowO B w' (.slice (some ⟨g, 0, none⟩) (n + 1) cap) (L ++ [(i, y, t)]) → Grew B v w w' → (v.ownBlock = some g ∨ g = w.heap.size + 1) → wpList Tryd.prog ops Q rest (a.put o.dst (.slice (some ⟨g, 0, none⟩) (n + 1) cap)) w') :
    wpList Tryd.prog ops Q (o :: rest) a (w.alloc (.cells #[.int .i64 i, .int .i64 y, .int .i64 t] 37)) := by
  subst hLn
  exact appR ovC_len ovC_one (by decide) (by decide) Tryd.underlying24 infoO rfl hgd s x ho B v L hs hown (i, y, t) _ 37 rfl hx hn hB h
theorem ret_i {a b : Int} (h : a = b) : Ending.returned (.int .i64 a) = .returned (.int .i64 b) := by rw [h]
theorem ret_b {a b : Bool} (h : a = b) : Ending.returned (.bool a) = .returned (.bool b) := by rw [h]
end Ons
end Go.Proofs.YthefgagmjamdkaaDoor
