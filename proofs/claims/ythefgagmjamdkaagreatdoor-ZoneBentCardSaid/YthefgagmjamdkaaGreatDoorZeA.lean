/-
  Lists of eras: values that read as one; those that came in, opened.
-/
import Derived.Test.YthefgagmjamdkaaGreatDoorRsA
import Derived.Test.YthefgagmjamdkaaGreatDoorBdFl
import Derived.Test.YthefgagmjamdkaaGreatDoorBdK
namespace Go.Proofs.YthefgagmjamdkaaGreatDoor
open Go.RowKit Go.Deep Go.ChangeShapes Go.WideShapes
namespace Zon
open Rul Rs
/-- An era's cells. -/
def erC (e : EV) : List Value := [.int .i64 e.st, .int .i64 e.kd, .int .i64 e.sv, .string ⟨e.ru.toArray⟩, .string ⟨e.fm.toArray⟩, .bool e.un, .int .i64 e.yr, .int .i64 e.mo, .int .i64 e.k, .int .i64 e.v, .int .i64 e.d, .int .i64 e.n, .int .i64 e.c]
theorem erC_len (e : EV) : (erC e).length = 13 := rfl
theorem erC_val (e : EV) : Value.agg (erC e).toArray = e.val := rfl
theorem erC_one (e : EV) : ∀ u ∈ erC e, u.oneCell' = true := by
  intro u hu
  simp only [erC, List.mem_cons, List.not_mem_nil, or_false] at hu
  rcases hu with rfl | rfl | rfl | rfl | rfl | rfl | rfl | rfl | rfl | rfl | rfl | rfl | rfl <;> rfl
def ErV : World → Value → List EV → Prop := RowV erC 13
/-- What is known of an era that came in. -/
structure BdE (e : EV) : Prop where
  ru : e.ru.length ≤ maxLen
  fm : e.fm.length ≤ maxLen
theorem list_of {α : Type} {Q : Nat → α → Prop} : ∀ (n : Nat), (∀ j, j < n → ∃ a, Q j a) → ∃ L : List α, L.length = n ∧ ∀ (j : Nat) (hj : j < L.length), Q j L[j]
  | 0, _ => ⟨[], rfl, fun j hj => by simp at hj⟩
  | n + 1, h => by
    obtain ⟨L, hl, hL⟩ := list_of n (fun j hj => h j (Nat.lt_succ_of_lt hj))
    obtain ⟨a, ha⟩ := h n (Nat.lt_succ_self n)
    refine ⟨L ++ [a], by simp [hl], fun j hj => ?_⟩
    by_cases q : j < L.length
    · rw [List.getElem_append_left q]; exact hL j q
    · have : j = n := by simp at hj; omega
      subst this
      have : (L ++ [a])[j] = a := by simp [← hl]
      rw [this]; exact ha
section
variable {H : Type} {enc : TypeId × Value → H} {W : World} {base : Nat} {spare : Nat → Bool} {held : Bool}
theorem open_eras {fuel : Nat} {v : Value} {x : DataW H × List MemPlace} (h : DataW.trod enc Tryz.prog W base spare held fuel 22 [v] = some x) : ∃ L, ErV W v L ∧ ((∀ r ∈ L, BdE r) ∧ L.length ≤ maxLen) := by
  obtain ⟨A, n, c, rfl, hn, hj⟩ := Flat.open_rows Tryz.underlying22 (of_decide_eq_true (by kernel_rfl)) h
  have ke : Tryz.prog.cellsOf 30 = 13 := by kernel_rfl
  rw [ke] at hj
  obtain ⟨L, hl, hL⟩ := list_of (Q := fun j (r : EV) => BdE r ∧ ∃ b off, A = some ⟨b, off, none⟩ ∧ b < W.heap.size ∧ W.rangeAt b (off + j * 13) (erC r)) n (fun j hjn => by
    obtain ⟨b, off, cs, hA, hb, hlen, hc, m, y, hy⟩ := hj j hjn
    match cs, hlen with
    | [c0, c1, c2, c3, c4, c5, c6, c7, c8, c9, c10, c11, c12], _ =>
      have lv := (Flat.leaves_at 4 30 [3, 3, 3, 9, 9, 4, 3, 3, 3, 3, 3, 3, 3] (by kernel_rfl) m [c0, c1, c2, c3, c4, c5, c6, c7, c8, c9, c10, c11, c12] _ hy).2
      obtain ⟨_, _, h0⟩ := lv 0 _ _ rfl rfl
      obtain ⟨_, _, h1⟩ := lv 1 _ _ rfl rfl
      obtain ⟨_, _, h2⟩ := lv 2 _ _ rfl rfl
      obtain ⟨_, _, h3⟩ := lv 3 _ _ rfl rfl
      obtain ⟨_, _, h4⟩ := lv 4 _ _ rfl rfl
      obtain ⟨_, _, h5⟩ := lv 5 _ _ rfl rfl
      obtain ⟨_, _, h6⟩ := lv 6 _ _ rfl rfl
      obtain ⟨_, _, h7⟩ := lv 7 _ _ rfl rfl
      obtain ⟨_, _, h8⟩ := lv 8 _ _ rfl rfl
      obtain ⟨_, _, h9⟩ := lv 9 _ _ rfl rfl
      obtain ⟨_, _, h10⟩ := lv 10 _ _ rfl rfl
      obtain ⟨_, _, h11⟩ := lv 11 _ _ rfl rfl
      obtain ⟨_, _, h12⟩ := lv 12 _ _ rfl rfl
      obtain ⟨n0, rfl, b0⟩ := Flat.leaf_i Tryz.underlying3 h0
      obtain ⟨n1, rfl, b1⟩ := Flat.leaf_i Tryz.underlying3 h1
      obtain ⟨n2, rfl, b2⟩ := Flat.leaf_i Tryz.underlying3 h2
      obtain ⟨n3, rfl, b3⟩ := Flat.leaf_s Tryz.underlying9 h3
      obtain ⟨n4, rfl, b4⟩ := Flat.leaf_s Tryz.underlying9 h4
      obtain ⟨n5, rfl⟩ := Flat.leaf_b Tryz.underlying4 h5
      obtain ⟨n6, rfl, b6⟩ := Flat.leaf_i Tryz.underlying3 h6
      obtain ⟨n7, rfl, b7⟩ := Flat.leaf_i Tryz.underlying3 h7
      obtain ⟨n8, rfl, b8⟩ := Flat.leaf_i Tryz.underlying3 h8
      obtain ⟨n9, rfl, b9⟩ := Flat.leaf_i Tryz.underlying3 h9
      obtain ⟨n10, rfl, b10⟩ := Flat.leaf_i Tryz.underlying3 h10
      obtain ⟨n11, rfl, b11⟩ := Flat.leaf_i Tryz.underlying3 h11
      obtain ⟨n12, rfl, b12⟩ := Flat.leaf_i Tryz.underlying3 h12
      exact ⟨⟨n0, n1, n2, n3, n4, n5, n6, n7, n8, n9, n10, n11, n12⟩, ⟨b3, b4⟩, b, off, hA, hb, fun i u hu => hc i u hu⟩)
  refine ⟨L, ⟨A, n, c, rfl, hl.symm, fun j hj => (hL j hj).2⟩, fun r hr => ?_, by omega⟩
  obtain ⟨j, hj, rfl⟩ := List.mem_iff_getElem.1 hr
  exact (hL j hj).1
end
/-- An era's load in one step. -/
theorem ldE {ops : Array Oper} {rest : List Oper} {op : Oper} {a : Act} {w : World} {Q : Exit → Act → World → Prop} {g o : Nat} {x : Operand} {vs : List Value} (C : w.rangeAt g o vs) (hv : vs.length = 13) (ho : op.op = .load 30 x)
    (hw : Region.wanted op (yielded ops a.tmps) = true) (hx : a.eval x = .pointer (some ⟨g, o, none⟩)) (h : ∀ K : Act → World → Prop, (∀ a w, wpList Tryz.prog ops Q rest a w → K a w) → K (a.put op.dst (.agg vs.toArray)) w) : wpList Tryz.prog ops Q (op :: rest) a w :=
  ldR C Tryz.underlying30 rfl (by rw [hv]; kernel_rfl) ho hw hx h
/-- A zone's load in one step. -/
theorem ldZ {ops : Array Oper} {rest : List Oper} {op : Oper} {a : Act} {w : World} {Q : Exit → Act → World → Prop} {g o : Nat} {x : Operand} {vs : List Value} (C : w.rangeAt g o vs) (hv : vs.length = 2) (ho : op.op = .load 24 x)
    (hw : Region.wanted op (yielded ops a.tmps) = true) (hx : a.eval x = .pointer (some ⟨g, o, none⟩)) (h : ∀ K : Act → World → Prop, (∀ a w, wpList Tryz.prog ops Q rest a w → K a w) → K (a.put op.dst (.agg vs.toArray)) w) : wpList Tryz.prog ops Q (op :: rest) a w :=
  ldR C Tryz.underlying24 rfl (by rw [hv]; kernel_rfl) ho hw hx h
theorem ret_b {a b : Bool} (h : a = b) : Ending.returned (.bool a) = .returned (.bool b) := by rw [h]
/-- An era of a zone is in order at its place. -/
def eAt (L : List EV) (i : Nat) (e : EV) : Bool := rgB e && (e.un != decide (i + 1 = L.length))
/-- The zone's eras, up to one, are in order. -/
def erG (L : List EV) (k : Nat) : Bool := (List.range k).all (fun i => match L[i]? with | some e => eAt L i e | none => true)
theorem erG_zero (L : List EV) : erG L 0 = true := rfl
theorem erG_succ {L : List EV} {k : Nat} (hk : k < L.length) : erG L (k + 1) = (erG L k && eAt L k L[k]) := by
  rw [erG, List.range_succ, List.all_append, ← erG, List.all_cons, List.all_nil, Bool.and_true, List.getElem?_eq_getElem hk]
theorem erG_no {L : List EV} {k m : Nat} (hk : k < L.length) (hm : k < m) (h : eAt L k L[k] = false) : erG L m = false := by
  rw [erG, List.all_eq_false]
  exact ⟨k, List.mem_range.2 hm, by rw [List.getElem?_eq_getElem hk]; simp [h]⟩
/-- A zone is right. -/
def znB (N : List UInt8) (L : List EV) : Bool := nameB N && (decide (1 ≤ L.length ∧ L.length ≤ 30) && erG L L.length)
/-- What the laws take. -/
structure LightE (N : List UInt8) (L : List EV) : Prop where
  nm : N.length ≤ 200
  ln : L.length ≤ 60
  es : ∀ e ∈ L, e.ru.length ≤ 200 ∧ e.fm.length ≤ 200
end Zon
end Go.Proofs.YthefgagmjamdkaaGreatDoor
