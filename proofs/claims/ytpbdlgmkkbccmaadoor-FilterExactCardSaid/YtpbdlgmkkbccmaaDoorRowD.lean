/-
  Rows of weekdays that a call owns; rows and stores elsewhere.
-/
import Derived.Test.YtpbdlgmkkbccmaaDoorRcvA
import Derived.Test.YtpbdlgmkkbccmaaDoorAppX
import Derived.Laws.OwnMore
namespace Go.Proofs.YtpbdlgmkkbccmaaDoor
open Go.RowKit
namespace Rcp
open Cel
open Ap (RowI Grew)
theorem infoD : (Tryd.prog.info? 63).map (fun i => (i.zero, i.size, i.bytes)) = some (some (.agg #[.int .i64 0, .int .i64 0]), 2, 16) := by kernel_rfl
def dvL (L : List (Int × Int)) : List Value := L.flatMap fun d => [.int .i64 d.1, .int .i64 d.2]
theorem dv_len (L : List (Int × Int)) : (dvL L).length = L.length * 2 := by
  induction L with
  | nil => rfl
  | cons d r ih => simp only [dvL, List.flatMap_cons, List.length_append, List.length_cons, List.length_nil] at ih ⊢; omega
theorem dv_at : ∀ (L : List (Int × Int)) (j : Nat) (hj : j < L.length), (dvL L)[j * 2]? = some (.int .i64 L[j].1) ∧ (dvL L)[j * 2 + 1]? = some (.int .i64 L[j].2)
  | [], j, hj => by simp at hj
  | d :: r, 0, _ => by simp [dvL]
  | d :: r, j + 1, hj => by
    have ih := dv_at r j (by simpa using hj)
    have e : dvL (d :: r) = .int .i64 d.1 :: .int .i64 d.2 :: dvL r := rfl
    rw [e, show (j + 1) * 2 = j * 2 + 1 + 1 by omega]
    simpa using ih
/-- A row of weekdays that the call owns. -/
def RowD (B : Nat) (w : World) (v : Value) (L : List (Int × Int)) : Prop := w.ownsRow B 63 2 v L.length (dvL L)
theorem RowD.nil (B : Nat) (w : World) : RowD B w (.slice none 0 0) [] := World.ownsRow_nil _ _ _ _
theorem RowD.below {B : Nat} {w w' : World} {v : Value} {L : List (Int × Int)} (h : RowD B w v L) (hb : Below w.heap.size w w') : RowD B w' v L := Ap.own_below h hb
theorem RowD.days {B : Nat} {w : World} {v : Value} {L : List (Int × Int)} (h : RowD B w v L) : Rcv.DayV w v L := by
  by_cases h0 : L.length = 0
  · rcases h.2 with ⟨h1, h2⟩ | ⟨g, cap, cur, h1, _⟩
    · exact ⟨none, 0, 0, h1, h2.symm, fun j hj => by omega⟩
    · exact ⟨_, _, _, h1, rfl, fun j hj => by omega⟩
  · obtain ⟨g, c, rfl, hb, hl⟩ := World.ownsRow.form h (by omega)
    refine ⟨_, _, _, rfl, rfl, fun j hj => ⟨g, 0, rfl, hl, ?_, ?_⟩⟩
    · rw [Nat.zero_add, World.ownsRow.cellAt h (j * 2) (by omega), (dv_at L j hj).1]
    · rw [Nat.zero_add, World.ownsRow.cellAt h (j * 2 + 1) (by omega), (dv_at L j hj).2]
theorem appD {w : World} {ops : Array Oper} {rest : List Oper} {o : Oper} {a : Act} {Q : Exit → Act → World → Prop} (hgd : o.guard = none) (s x : Operand)
    (ho : o.op = .call { callee := .builtin .append, args := #[s, x], argTypes := #[23, 23] })
    (B : Nat) (v : Value) (L : List (Int × Int)) (hs : a.eval s = v) (hown : RowD B w v L) (y z : Int)
    (hx : a.eval x = .slice (some ⟨w.heap.size, 0, none⟩) 1 1) (hn : L.length ≤ 100000000) (hB : B ≤ w.heap.size)
    (h : ∀ w' g cap, RowD B w' (.slice (some ⟨g, 0, none⟩) (L.length + 1) cap) (L ++ [(y, z)]) → Grew B v w w' → wpList Tryd.prog ops Q rest (a.put o.dst (.slice (some ⟨g, 0, none⟩) (L.length + 1) cap)) w') :
    wpList Tryd.prog ops Q (o :: rest) a (w.alloc (.cells #[.int .i64 y, .int .i64 z] 63)) := by
  obtain ⟨i0, hi0, hz0, hz1, hz2⟩ := info_parts infoD
  refine Ap.appX hgd s x 23 ho B 63 i0 (.agg #[.int .i64 0, .int .i64 0]) 2 16 (by kernel_rfl) hi0 hz0 hz1 hz2 rfl (by decide) v L.length _ hs hown #[.int .i64 y, .int .i64 z] 63 rfl (by intro u hu; simp at hu; rcases hu with rfl | rfl <;> rfl) hx hn (by decide) hB ?_
  intro w' g cap r g' _
  refine h w' g cap ?_ g'
  have e : dvL (L ++ [(y, z)]) = dvL L ++ [.int .i64 y, .int .i64 z] := by simp [dvL]
  unfold RowD
  rw [e, List.length_append]
  exact r
theorem own_cell {w : World} {B : Nat} {e : TypeId} {size : Nat} {v : Value} {n : Nat} {xs : List Value} (h : w.ownsRow B e size v n xs) {g i : Nat} (hg : g < B) (x : Value) : (w.setCell ⟨g, i, none⟩ x).ownsRow B e size v n xs := by
  refine ⟨h.1, ?_⟩
  rcases h.2 with h1 | ⟨g', cap, cur, hv, hg', hh, r⟩
  · exact Or.inl h1
  · exact Or.inr ⟨g', cap, cur, hv, hg', (Below.heap_setCell _ _ _ _ (by show g' ≠ g; omega)).trans hh, r⟩
theorem own_less {w : World} {B B' : Nat} {e : TypeId} {size : Nat} {v : Value} {n : Nat} {xs : List Value} (h : w.ownsRow B e size v n xs) (hb : B' ≤ B) : w.ownsRow B' e size v n xs := by
  refine ⟨h.1, ?_⟩
  rcases h.2 with h1 | ⟨g', cap, cur, hv, hg', r⟩
  · exact Or.inl h1
  · exact Or.inr ⟨g', cap, cur, hv, Nat.le_trans hb hg', r⟩
end Rcp
end Go.Proofs.YtpbdlgmkkbccmaaDoor
