/-
  One element, laid into a block of its own, appended to a row that the call owns: what that leaves. Rows of numbers.
-/
import Derived.Test.YtpbdlgmkkbccmaaDoorRows
import Derived.Deep.AppendLies
import Derived.WalkKit
import Derived.WalkSmall
import Derived.OneCell
import Derived.Below
import Derived.Laws.OwnMore
namespace Go.Proofs.YtpbdlgmkkbccmaaDoor
open Go.RowKit
namespace Ap
/-- What an append to v leaves: what lay below stands, rows in other blocks stand, cells of other blocks stand. -/
structure Grew (B : Nat) (v : Value) (w w' : World) : Prop where
  below : ∀ (B0 : Nat) (W0 : World), B0 ≤ B → Below B0 W0 w → B0 ≤ w.heap.size → Below B0 W0 w'
  other : ∀ (B' : Nat) (e' : TypeId) (s : Nat) (v' : Value) (n : Nat) (xs : List Value), v'.ownBlock = none ∨ v'.ownBlock ≠ v.ownBlock → w.ownsRow B' e' s v' n xs → w'.ownsRow B' e' s v' n xs
  block : ∀ k, k < w.heap.size → some k ≠ v.ownBlock → w'.heap[k]? = w.heap[k]?
  size : w.heap.size ≤ w'.heap.size
theorem Grew.cell {B : Nat} {v : Value} {w w' : World} (h : Grew B v w w') {p : Addr} (hp : p.block < w.heap.size) (hne : some p.block ≠ v.ownBlock) : w'.cell? p = w.cell? p := World.cell?_of_block (h.block _ hp hne)
theorem Grew.frozen {B : Nat} {v : Value} {w w' : World} (h : Grew B v w w') {p : Addr} (hp : p.block < w.heap.size) (hne : some p.block ≠ v.ownBlock) : w'.frozen? p = w.frozen? p := World.frozen?_of_block (h.block _ hp hne)
theorem grew_of {B : Nat} {e : TypeId} {size : Nat} {w w' : World} {v : Value} {n : Nat} {xs : List Value} {o : Obj} (hown : w.ownsRow B e size v n xs) (hg : (w.alloc o).grownBy w' v.ownBlock) : Grew B v w w' where
  below := fun B0 W0 hB hb hw => (hb.alloc hw _).grown hg (by simp; omega) (fun k hk => Nat.le_trans hB (hown.lt k hk).1)
  other := fun B' e' s v' n' xs' hne h' => (h'.alloc o).kept hg hne
  block := fun k hk hne => (hg.block k (by simp; omega) hne).trans (Below.heap_alloc w o k hk)
  size := Nat.le_trans (by simp) hg.size
theorem appX {P : Program} {w : World} {ops : Array Oper} {rest : List Oper} {o : Oper} {a : Act} {Q : Exit → Act → World → Prop} (hgd : o.guard = none) (s x : Operand) (t : TypeId)
    (ho : o.op = .call { callee := .builtin .append, args := #[s, x], argTypes := #[t, t] })
    (B : Nat) (e : TypeId) (i : TypeInfo) (z : Value) (size bytes : Nat) (ht : P.underlying t = some (.slice e)) (hi : P.info? e = some i) (hz : i.zero = some z)
    (hsize : i.size = size) (hby : i.bytes = bytes) (hzs : z.cells.size = size) (hsz : 0 < size)
    (v : Value) (n : Nat) (xs : List Value) (hs : a.eval s = v) (hown : w.ownsRow B e size v n xs) (cs : Array Value) (te : TypeId) (hcs : cs.size = size) (h1 : ∀ u ∈ cs.toList, u.oneCell' = true)
    (hx : a.eval x = .slice (some ⟨w.heap.size, 0, none⟩) 1 1) (hn : n ≤ 100000000) (hb2 : bytes ≤ 1000) (hB : B ≤ w.heap.size)
    (h : ∀ w' g cap, w'.ownsRow B e size (.slice (some ⟨g, 0, none⟩) (n + 1) cap) (n + 1) (xs ++ cs.toList) → Grew B v w w' → (v.ownBlock = some g ∨ g = w.heap.size + 1) → wpList P ops Q rest (a.put o.dst (.slice (some ⟨g, 0, none⟩) (n + 1) cap)) w') :
    wpList P ops Q (o :: rest) a (w.alloc (.cells cs te)) := by
  refine wpList_append_lies _ hgd s x t ho B e i z size bytes ht hi hz hsize hby hzs hsz v n xs hs (hown.alloc _) ⟨w.heap.size, 0, none⟩ 1 1 cs.toList hx (by simp [hcs]) (World.news_of_block (heap_alloc_new w _)) h1 (by decide) (by unfold maxLen; omega) ?_ (by simp; omega) (w.heap.size + 1) (by simp) ?_
  · have : (n + 1) * bytes ≤ 100000001 * 1000 := Nat.mul_le_mul (by omega) hb2
    omega
  · intro g cap w' r3 g3 hat _
    exact h w' g cap r3 (grew_of hown g3) hat
theorem own_at {w : World} {B : Nat} {e : TypeId} {size : Nat} {v : Value} {n : Nat} {xs : List Value} (h : w.ownsRow B e size v n xs) {g off : Nat} {sp : Option Nat} {cap m : Nat} (hv : v = .slice (some ⟨g, off, sp⟩) m cap) : off = 0 ∧ sp = none ∧ m = n ∧ B ≤ g ∧ g < w.heap.size := by
  rcases h.2 with ⟨h1, _⟩ | ⟨g', cap', cur, h1, hb, hg, _⟩
  · rw [h1] at hv; cases hv
  · rw [h1] at hv
    injection hv with e1 e2 e3
    injection e1 with e1
    injection e1 with e1 e4 e5
    subst e1 e2 e3 e4 e5
    exact ⟨rfl, rfl, rfl, hb, (Array.getElem?_eq_some_iff.1 hg).1⟩
theorem own_cap {w : World} {B : Nat} {e : TypeId} {size : Nat} {A : Option Addr} {m cap n : Nat} {xs : List Value} (h : w.ownsRow B e size (.slice A m cap) n xs) : m = n ∧ m ≤ cap ∧ cap ≤ maxLen := by
  rcases h.2 with ⟨h1, h2⟩ | ⟨g', cap', cur, h1, _, _, hn, hc, _⟩
  · injection h1 with e1 e2 e3
    subst e2 e3
    exact ⟨h2.symm, Nat.le_refl _, Nat.zero_le _⟩
  · injection h1 with e1 e2 e3
    subst e2 e3
    exact ⟨rfl, hn, hc⟩
theorem own_below {w w' : World} {B : Nat} {e : TypeId} {size : Nat} {v : Value} {n : Nat} {xs : List Value} (h : w.ownsRow B e size v n xs) (hb : Below w.heap.size w w') : w'.ownsRow B e size v n xs := by
  refine ⟨h.1, ?_⟩
  rcases h.2 with h1 | ⟨g, cap, cur, hv, hg, hh, r⟩
  · exact Or.inl h1
  · exact Or.inr ⟨g, cap, cur, hv, hg, (hb.block g (Array.getElem?_eq_some_iff.1 hh).1).trans hh, r⟩
def iv (n : Int) : Value := .int .i64 n
/-- A row of numbers that the call owns. -/
def RowI (B : Nat) (w : World) (v : Value) (L : List Int) : Prop := w.ownsRow B 3 1 v L.length (L.map iv)
theorem RowI.nil (B : Nat) (w : World) : RowI B w (.slice none 0 0) [] := World.ownsRow_nil _ _ _ _
theorem RowI.below {B : Nat} {w w' : World} {v : Value} {L : List Int} (h : RowI B w v L) (hb : Below w.heap.size w w') : RowI B w' v L := own_below h hb
theorem RowI.forms {B : Nat} {w : World} {v : Value} {L : List Int} (h : RowI B w v L) : ∃ A c, v = .slice A L.length c := by
  rcases h.2 with ⟨h1, h2⟩ | ⟨g, cap, cur, h1, _⟩
  · exact ⟨none, 0, by rw [h1, h2]⟩
  · exact ⟨_, _, h1⟩
theorem RowI.form {B : Nat} {w : World} {v : Value} {L : List Int} (h : RowI B w v L) (h0 : 0 < L.length) : ∃ g c, v = .slice (some ⟨g, 0, none⟩) L.length c ∧ B ≤ g ∧ g < w.heap.size ∧ (∀ (j : Nat) (hj : j < L.length), w.cell? ⟨g, j, none⟩ = some (.int .i64 L[j])) ∧ ∀ j, w.frozen? ⟨g, j, none⟩ = false := by
  obtain ⟨g, c, rfl, hb, hl⟩ := World.ownsRow.form h h0
  refine ⟨g, c, rfl, hb, hl, fun j hj => ?_, fun j => World.ownsRow.frozenAt h j⟩
  rw [World.ownsRow.cellAt h j (by omega), List.getElem?_map, List.getElem?_eq_getElem hj]
  rfl
theorem infoI : (Tryd.prog.info? 3).map (fun i => (i.zero, i.size, i.bytes)) = some (some (.int .i64 0), 1, 8) := by kernel_rfl
theorem appI {w : World} {ops : Array Oper} {rest : List Oper} {o : Oper} {a : Act} {Q : Exit → Act → World → Prop} (hgd : o.guard = none) (s x : Operand)
    (ho : o.op = .call { callee := .builtin .append, args := #[s, x], argTypes := #[22, 22] })
    (B : Nat) (v : Value) (L : List Int) (hs : a.eval s = v) (hown : RowI B w v L) (y : Int)
    (hx : a.eval x = .slice (some ⟨w.heap.size, 0, none⟩) 1 1) (hn : L.length ≤ 100000000) (hB : B ≤ w.heap.size)
    (h : ∀ w' g cap, RowI B w' (.slice (some ⟨g, 0, none⟩) (L.length + 1) cap) (L ++ [y]) → Grew B v w w' → wpList Tryd.prog ops Q rest (a.put o.dst (.slice (some ⟨g, 0, none⟩) (L.length + 1) cap)) w') :
    wpList Tryd.prog ops Q (o :: rest) a (w.alloc (.cells #[.int .i64 y] 3)) := by
  obtain ⟨i0, hi0, hz0, hz1, hz2⟩ := info_parts infoI
  refine appX hgd s x 22 ho B 3 i0 (.int .i64 0) 1 8 (by kernel_rfl) hi0 hz0 hz1 hz2 rfl (by decide) v L.length _ hs hown #[.int .i64 y] 3 rfl (by simp; rfl) hx hn (by decide) hB ?_
  intro w' g cap r3 g3 _
  refine h w' g cap ?_ g3
  unfold RowI
  rw [List.length_append, List.map_append]
  exact r3
end Ap
end Go.Proofs.YtpbdlgmkkbccmaaDoor
