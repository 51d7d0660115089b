/-
  Lists of structs of plain cells: a value that reads as one, a row of them that a call owns, one append, one load.
-/
import Derived.Test.YthefgagmjamdkaaGreatDoorBdCl
namespace Go.Proofs.YthefgagmjamdkaaGreatDoor
open Go.RowKit
namespace Rs
open Cel
open Ap (Grew)
def flt {α : Type} (enc : α → List Value) (L : List α) : List Value := L.flatMap enc
theorem flt_len {α : Type} {enc : α → List Value} {k : Nat} (hk : ∀ x, (enc x).length = k) (L : List α) : (flt enc L).length = L.length * k := by
  induction L with
  | nil => simp [flt]
  | cons a r ih =>
    have e : flt enc (a :: r) = enc a ++ flt enc r := rfl
    rw [e, List.length_append, ih, hk, List.length_cons, Nat.succ_mul, Nat.add_comm]
theorem flt_at {α : Type} {enc : α → List Value} {k : Nat} (hk : ∀ x, (enc x).length = k) : ∀ (L : List α) (j : Nat) (hj : j < L.length) (i : Nat), i < k → (flt enc L)[j * k + i]? = (enc L[j])[i]?
  | [], j, hj, _, _ => by simp at hj
  | a :: r, 0, _, i, hi => by
    have e : flt enc (a :: r) = enc a ++ flt enc r := rfl
    rw [e, Nat.zero_mul, Nat.zero_add, List.getElem?_append_left (by rw [hk]; exact hi)]
    rfl
  | a :: r, j + 1, hj, i, hi => by
    have e : flt enc (a :: r) = enc a ++ flt enc r := rfl
    rw [e, List.getElem?_append_right (by rw [hk, Nat.succ_mul]; omega), hk, show (j + 1) * k + i - k = j * k + i by rw [Nat.succ_mul]; omega]
    exact flt_at hk r j (by simpa using hj) i hi
/-- A value reads as a list of structs, wherever it came from. -/
def RowV {α : Type} (enc : α → List Value) (k : Nat) (w : World) (v : Value) (L : List α) : Prop := ∃ a n c, v = .slice a n c ∧ n = L.length ∧ ∀ (j : Nat) (hj : j < L.length), ∃ b off, a = some ⟨b, off, none⟩ ∧ b < w.heap.size ∧ w.rangeAt b (off + j * k) (enc L[j])
theorem range_below {w w' : World} {b o : Nat} {vs : List Value} (hb : b < w.heap.size) (h : w.rangeAt b o vs) (k : Below w.heap.size w w') : w'.rangeAt b o vs := fun j v hj => (k.cell (p := ⟨b, o + j, none⟩) hb).trans (h j v hj)
theorem RowV.below {α : Type} {enc : α → List Value} {k : Nat} {w w' : World} {v : Value} {L : List α} (h : RowV enc k w v L) (hb : Below w.heap.size w w') : RowV enc k w' v L := by
  obtain ⟨a, n, c, rfl, hn, h⟩ := h
  refine ⟨a, n, c, rfl, hn, fun j hj => ?_⟩
  obtain ⟨b, off, h1, h2, h3⟩ := h j hj
  exact ⟨b, off, h1, Nat.lt_of_lt_of_le h2 hb.size, range_below h2 h3 hb⟩
theorem RowV.slice {α : Type} {enc : α → List Value} {k : Nat} {w : World} {v : Value} {L : List α} (h : RowV enc k w v L) : ∃ a c, v = .slice a L.length c := by
  obtain ⟨a, n, c, rfl, rfl, _⟩ := h
  exact ⟨a, c, rfl⟩
theorem RowV.form {α : Type} {enc : α → List Value} {k : Nat} {w : World} {v : Value} {L : List α} (h : RowV enc k w v L) (h0 : 0 < L.length) : ∃ b off c, v = .slice (some ⟨b, off, none⟩) L.length c ∧ b < w.heap.size ∧ ∀ (j : Nat) (hj : j < L.length), w.rangeAt b (off + j * k) (enc L[j]) := by
  obtain ⟨a, n, c, rfl, rfl, h⟩ := h
  obtain ⟨b, off, rfl, h2, _⟩ := h 0 h0
  refine ⟨b, off, c, rfl, h2, fun j hj => ?_⟩
  obtain ⟨b', off', e, _, h3⟩ := h j hj
  injection e with e
  injection e with e1 e2 _
  subst e1 e2
  exact h3
theorem RowV.nil {α : Type} (enc : α → List Value) (k : Nat) (w : World) : RowV enc k w (.slice none 0 0) [] := ⟨_, _, _, rfl, rfl, fun j hj => by simp at hj⟩
/-- A row of structs that the call owns. -/
def RowT {α : Type} (e : TypeId) (enc : α → List Value) (k B : Nat) (w : World) (v : Value) (L : List α) : Prop := w.ownsRow B e k v L.length (flt enc L)
theorem RowT.nil {α : Type} (e : TypeId) (enc : α → List Value) (k B : Nat) (w : World) : RowT e enc k B w (.slice none 0 0) [] := World.ownsRow_nil _ _ _ _
theorem RowT.below {α : Type} {e : TypeId} {enc : α → List Value} {k B : Nat} {w w' : World} {v : Value} {L : List α} (h : RowT e enc k B w v L) (hb : Below w.heap.size w w') : RowT e enc k B w' v L := Ap.own_below h hb
theorem RowT.forms {α : Type} {e : TypeId} {enc : α → List Value} {k B : Nat} {w : World} {v : Value} {L : List α} (h : RowT e enc k B w v L) : ∃ A c, v = .slice A L.length c := by
  rcases h.2 with ⟨h1, h2⟩ | ⟨g, cap, cur, h1, _⟩
  · exact ⟨none, 0, by rw [h1, h2]⟩
  · exact ⟨_, _, h1⟩
theorem RowT.form {α : Type} {e : TypeId} {enc : α → List Value} {k B : Nat} (hk : ∀ x, (enc x).length = k) {w : World} {v : Value} {L : List α} (h : RowT e enc k B w v L) (h0 : 0 < L.length) : ∃ g c, v = .slice (some ⟨g, 0, none⟩) L.length c ∧ B ≤ g ∧ g < w.heap.size ∧ (∀ (j : Nat) (hj : j < L.length), w.rangeAt g (j * k) (enc L[j])) ∧ ∀ j, w.frozen? ⟨g, j, none⟩ = false := by
  obtain ⟨g, c, rfl, hb, hl⟩ := World.ownsRow.form h h0
  refine ⟨g, c, rfl, hb, hl, fun j hj i v hv => ?_, fun j => World.ownsRow.frozenAt h j⟩
  have hi : i < k := by rw [← hk L[j]]; exact (List.getElem?_eq_some_iff.1 hv).1
  have hlt : j * k + i < L.length * k := by
    have : (j + 1) * k ≤ L.length * k := Nat.mul_le_mul_right k hj
    rw [Nat.succ_mul] at this
    omega
  rw [World.ownsRow.cellAt h (j * k + i) hlt, flt_at hk L j hj i hi, hv]
theorem RowT.val {α : Type} {e : TypeId} {enc : α → List Value} {k B : Nat} (hk : ∀ x, (enc x).length = k) {w : World} {v : Value} {L : List α} (h : RowT e enc k B w v L) : RowV enc k w v L := by
  by_cases h0 : 0 < L.length
  · obtain ⟨g, c, rfl, _, hl, hr, _⟩ := h.form hk h0
    exact ⟨_, _, c, rfl, rfl, fun j hj => ⟨g, 0, rfl, hl, by rw [Nat.zero_add]; exact hr j hj⟩⟩
  · obtain ⟨A, c, rfl⟩ := h.forms
    exact ⟨A, _, c, rfl, rfl, fun j hj => absurd hj (by omega)⟩
theorem RowT.less {α : Type} {e : TypeId} {enc : α → List Value} {k B B' : Nat} {w : World} {v : Value} {L : List α} (h : RowT e enc k B w v L) (hb : B' ≤ B) : RowT e enc k B' w v L := by
  refine ⟨h.1, ?_⟩
  rcases h.2 with h1 | ⟨g', cap, cur, hv, hg', r⟩
  · exact Or.inl h1
  · exact Or.inr ⟨g', cap, cur, hv, Nat.le_trans hb hg', r⟩
/-- One struct, laid into a block of its own, appended to a row that the call owns. -/
theorem appR {α : Type} {P : Program} {e ts : TypeId} {k bytes : Nat} {enc : α → List Value} {z : Value} (hk : ∀ x, (enc x).length = k) (h1 : ∀ x, ∀ u ∈ enc x, u.oneCell' = true) (hk0 : 0 < k) (hby : bytes ≤ 1000)
    (hu : P.underlying ts = some (.slice e)) (info : (P.info? e).map (fun i => (i.zero, i.size, i.bytes)) = some (some z, k, bytes)) (hz : z.cells.size = k)
    {w : World} {ops : Array Oper} {rest : List Oper} {o : Oper} {a : Act} {Q : Exit → Act → World → Prop} (hgd : o.guard = none) (s x : Operand)
    (ho : o.op = .call { callee := .builtin .append, args := #[s, x], argTypes := #[ts, ts] })
    (B : Nat) (v : Value) (L : List α) (hs : a.eval s = v) (hown : RowT e enc k B w v L) (y : α) (cs : Array Value) (te : TypeId) (hcs : cs = (enc y).toArray)
    (hx : a.eval x = .slice (some ⟨w.heap.size, 0, none⟩) 1 1) (hn : L.length ≤ 100000000) (hB : B ≤ w.heap.size)
    (h : ∀ w' g cap, RowT e enc k B w' (.slice (some ⟨g, 0, none⟩) (L.length + 1) cap) (L ++ [y]) → Grew B v w w' → (v.ownBlock = some g ∨ g = w.heap.size + 1) → wpList P ops Q rest (a.put o.dst (.slice (some ⟨g, 0, none⟩) (L.length + 1) cap)) w') :
    wpList P ops Q (o :: rest) a (w.alloc (.cells cs te)) := by
  obtain ⟨i0, hi0, hz0, hz1, hz2⟩ := info_parts info
  subst hcs
  refine Ap.appX hgd s x ts ho B e i0 z k bytes hu hi0 hz0 hz1 hz2 hz hk0 v L.length _ hs hown (enc y).toArray te (by simp [hk]) (fun u hu => h1 y u (by simpa using hu)) hx hn hby hB ?_
  intro w' g cap r3 g3 k3
  refine h w' g cap ?_ g3 k3
  unfold RowT
  have e1 : flt enc (L ++ [y]) = flt enc L ++ enc y := by simp [flt]
  rw [List.length_append, e1]
  exact r3
/-- A struct's load out of known cells, in one step, guarded or not. -/
theorem ldR {P : Program} {ty : TypeId} {d : TypeDesc} {ops : Array Oper} {rest : List Oper} {op : Oper} {a : Act} {w : World} {Q : Exit → Act → World → Prop} {g o : Nat} {x : Operand} {vs : List Value} (C : w.rangeAt g o vs) (hu : P.underlying ty = some d) (hd : d.isRow = true) (hi : (P.info? ty).map (·.size) = some vs.length) (ho : op.op = .load ty x)
    (hw : Region.wanted op (yielded ops a.tmps) = true) (hx : a.eval x = .pointer (some ⟨g, o, none⟩)) (h : ∀ K : Act → World → Prop, (∀ a w, wpList P ops Q rest a w → K a w) → K (a.put op.dst (.agg vs.toArray)) w) : wpList P ops Q (op :: rest) a w :=
  wpList_step fun K hK => by rw [if_pos hw]; exact wp_load_mid _ x ho g o hx vs d C hu hd hi (h K hK)
end Rs
end Go.Proofs.YthefgagmjamdkaaGreatDoor
