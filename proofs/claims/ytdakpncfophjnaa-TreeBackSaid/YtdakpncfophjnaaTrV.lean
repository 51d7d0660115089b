/-
  Package tree: rows of lines and of components that a call owns.
-/
import Derived.Test.YtdakpncfophjnaaTrC
namespace Go.Proofs.Ytdakpncfophjnaa
open Go.RowKit
namespace Tre
open Lin CutB Cel Ap
open Opn (TxtV)
def lc : List LV → List Value → List Value
  | l :: L, u :: us => .string ⟨l.nm.toArray⟩ :: u :: .string ⟨l.vl.toArray⟩ :: lc L us
  | _, _ => []
def cc : List CV → List Value → List Value
  | c :: C, u :: us => .string ⟨c.nm.toArray⟩ :: u :: .int .i64 c.own :: cc C us
  | _, _ => []
theorem lc_len : ∀ (L : List LV) (us : List Value), us.length = L.length → (lc L us).length = L.length * 3
  | [], _, _ => by simp [lc]
  | l :: L, [], h => by simp at h
  | l :: L, u :: us, h => by
    have := lc_len L us (by simpa using h)
    simp only [lc, List.length_cons, this]; omega
theorem cc_len : ∀ (C : List CV) (us : List Value), us.length = C.length → (cc C us).length = C.length * 3
  | [], _, _ => by simp [cc]
  | l :: L, [], h => by simp at h
  | l :: L, u :: us, h => by
    have := cc_len L us (by simpa using h)
    simp only [cc, List.length_cons, this]; omega
theorem lc_app : ∀ (L : List LV) (us : List Value) (l : LV) (u : Value), us.length = L.length → lc (L ++ [l]) (us ++ [u]) = lc L us ++ [.string ⟨l.nm.toArray⟩, u, .string ⟨l.vl.toArray⟩]
  | [], [], _, _, _ => rfl
  | [], _ :: _, _, _, h => by simp at h
  | _ :: _, [], _, _, h => by simp at h
  | l :: L, u :: us, x, v, h => by
    have := lc_app L us x v (by simpa using h)
    simp only [List.cons_append, lc, this]
theorem cc_app : ∀ (C : List CV) (us : List Value) (c : CV) (u : Value), us.length = C.length → cc (C ++ [c]) (us ++ [u]) = cc C us ++ [.string ⟨c.nm.toArray⟩, u, .int .i64 c.own]
  | [], [], _, _, _ => rfl
  | [], _ :: _, _, _, h => by simp at h
  | _ :: _, [], _, _, h => by simp at h
  | l :: L, u :: us, x, v, h => by
    have := cc_app L us x v (by simpa using h)
    simp only [List.cons_append, cc, this]
theorem lc_get : ∀ (L : List LV) (us : List Value) (j : Nat) (hj : j < L.length) (_ : us.length = L.length), (lc L us)[j * 3]? = some (.string ⟨(L[j]).nm.toArray⟩) ∧ (lc L us)[j * 3 + 1]? = us[j]? ∧ (lc L us)[j * 3 + 2]? = some (.string ⟨(L[j]).vl.toArray⟩)
  | [], _, _, hj, _ => by simp at hj
  | _ :: _, [], _, _, h => by simp at h
  | l :: L, u :: us, 0, _, _ => ⟨rfl, rfl, rfl⟩
  | l :: L, u :: us, j + 1, hj, h => by
    have ih := lc_get L us j (by simpa using hj) (by simpa using h)
    rw [show (j + 1) * 3 = j * 3 + 1 + 1 + 1 by omega]
    exact ih
theorem cc_get : ∀ (C : List CV) (us : List Value) (j : Nat) (hj : j < C.length) (_ : us.length = C.length), (cc C us)[j * 3]? = some (.string ⟨(C[j]).nm.toArray⟩) ∧ (cc C us)[j * 3 + 1]? = us[j]? ∧ (cc C us)[j * 3 + 2]? = some (.int .i64 (C[j]).own)
  | [], _, _, hj, _ => by simp at hj
  | _ :: _, [], _, _, h => by simp at h
  | l :: L, u :: us, 0, _, _ => ⟨rfl, rfl, rfl⟩
  | l :: L, u :: us, j + 1, hj, h => by
    have ih := cc_get L us j (by simpa using hj) (by simpa using h)
    rw [show (j + 1) * 3 = j * 3 + 1 + 1 + 1 by omega]
    exact ih
theorem cc_own : ∀ (C : List CV) (us : List Value) (j : Nat) (n : Int), us.length = C.length → (cc C us).set (j * 3 + 2) (.int .i64 n) = cc (C.modify j (setO n)) us
  | [], us, j, n, _ => by cases us <;> simp [cc]
  | _ :: _, [], _, _, h => by simp at h
  | l :: L, u :: us, 0, _, _ => rfl
  | l :: L, u :: us, j + 1, n, h => by
    have ih := cc_own L us j n (by simpa using h)
    rw [show (j + 1) * 3 + 2 = j * 3 + 2 + 1 + 1 + 1 by omega, List.modify_succ_cons, cc, cc, ← ih]
    rfl
theorem cc_ls : ∀ (C : List CV) (us : List Value) (j : Nat) (x : LV) (v : Value), us.length = C.length → (cc C us).set (j * 3 + 1) v = cc (C.modify j (addL x)) (us.set j v)
  | [], us, j, n, _, _ => by cases us <;> simp [cc]
  | _ :: _, [], _, _, _, h => by simp at h
  | l :: L, u :: us, 0, _, _, _ => rfl
  | l :: L, u :: us, j + 1, n, v, h => by
    have ih := cc_ls L us j n v (by simpa using h)
    rw [show (j + 1) * 3 + 1 = j * 3 + 1 + 1 + 1 + 1 by omega, List.modify_succ_cons, List.set_cons_succ, cc, cc, ← ih]
    rfl
/-- A row of lines of the call's own; their parameters lie where they lay when it began. -/
def LinR (B : Nat) (w0 w : World) (v : Value) (L : List LV) : Prop := ∃ us, us.length = L.length ∧ w.ownsRow B 24 3 v L.length (lc L us) ∧ ∀ (j : Nat) (hj : j < L.length) (u : Value), us[j]? = some u → ParsV w0 u (L[j]).ps
theorem LinR.nil (B : Nat) (w0 w : World) : LinR B w0 w (.slice none 0 0) [] := ⟨[], rfl, World.ownsRow_nil _ _ _ _, fun j hj => by simp at hj⟩
theorem LinR.below {B : Nat} {w0 w w' : World} {v : Value} {L : List LV} (h : LinR B w0 w v L) (hb : Below w.heap.size w w') : LinR B w0 w' v L := by
  obtain ⟨us, h1, h2, h3⟩ := h
  exact ⟨us, h1, own_below h2 hb, h3⟩
theorem LinR.lins {B : Nat} {w0 w : World} {v : Value} {L : List LV} (h : LinR B w0 w v L) (hb : Below w0.heap.size w0 w) : LinsV w v L := by
  obtain ⟨us, h1, h2, h3⟩ := h
  rcases h2.2 with ⟨rfl, hn⟩ | ⟨g, cap, cur, rfl, _, _⟩
  · obtain rfl := List.eq_nil_of_length_eq_zero hn
    exact LinsV.none w
  · refine ⟨_, _, _, rfl, rfl, fun j hj => ?_⟩
    obtain ⟨a, b, c⟩ := lc_get L us j hj h1
    have hju : j < us.length := by rw [h1]; exact hj
    have k0 := h2.cellAt (j * 3) (by omega)
    have k1 := h2.cellAt (j * 3 + 1) (by omega)
    have k2 := h2.cellAt (j * 3 + 2) (by omega)
    refine ⟨g, 0, us[j], rfl, (h2.lt g rfl).2, by rw [Nat.zero_add, k0, a], by rw [Nat.zero_add, k1, b, List.getElem?_eq_getElem hju], by rw [Nat.zero_add, k2, c], (h3 j hj _ (List.getElem?_eq_getElem hju)).below hb⟩
theorem LinR.forms {B : Nat} {w0 w : World} {v : Value} {L : List LV} (h : LinR B w0 w v L) : ∃ A c, v = .slice A L.length c := by
  obtain ⟨us, _, h2, _⟩ := h
  rcases h2.2 with ⟨e1, e2⟩ | ⟨g, cap, cur, e1, _⟩
  · exact ⟨none, 0, by rw [e1, e2]⟩
  · exact ⟨_, _, e1⟩
/-- A row of components of the call's own; no two hold their lines in one block. -/
def CmpR (B : Nat) (w0 w : World) (v : Value) (C : List CV) : Prop := ∃ us, us.length = C.length ∧ w.ownsRow B 63 3 v C.length (cc C us) ∧ (∀ (j : Nat) (hj : j < C.length) (u : Value), us[j]? = some u → LinR B w0 w u (C[j]).ls) ∧ ∀ (i j : Nat) (u v : Value), i ≠ j → us[i]? = some u → us[j]? = some v → u.ownBlock = none ∨ u.ownBlock ≠ v.ownBlock
theorem CmpR.nil (B : Nat) (w0 w : World) : CmpR B w0 w (.slice none 0 0) [] := ⟨[], rfl, World.ownsRow_nil _ _ _ _, fun j hj => by simp at hj, fun i j u v _ h => by simp at h⟩
theorem CmpR.below {B : Nat} {w0 w w' : World} {v : Value} {C : List CV} (h : CmpR B w0 w v C) (hb : Below w.heap.size w w') : CmpR B w0 w' v C := by
  obtain ⟨us, h1, h2, h3, h4⟩ := h
  exact ⟨us, h1, own_below h2 hb, fun j hj u hu => (h3 j hj u hu).below hb, h4⟩
theorem CmpR.forms {B : Nat} {w0 w : World} {v : Value} {C : List CV} (h : CmpR B w0 w v C) : ∃ A c, v = .slice A C.length c := by
  obtain ⟨us, _, h2, _⟩ := h
  rcases h2.2 with ⟨e1, e2⟩ | ⟨g, cap, cur, e1, _⟩
  · exact ⟨none, 0, by rw [e1, e2]⟩
  · exact ⟨_, _, e1⟩
theorem CmpR.cmps {B : Nat} {w0 w : World} {v : Value} {C : List CV} (h : CmpR B w0 w v C) (hb : Below w0.heap.size w0 w) : CmpsV w v C := by
  obtain ⟨us, h1, h2, h3, _⟩ := h
  rcases h2.2 with ⟨rfl, hn⟩ | ⟨g, cap, cur, rfl, _, _⟩
  · obtain rfl := List.eq_nil_of_length_eq_zero hn
    exact CmpsV.none w
  · refine ⟨_, _, _, rfl, rfl, fun j hj => ?_⟩
    obtain ⟨a, b, c⟩ := cc_get C us j hj h1
    have hju : j < us.length := by rw [h1]; exact hj
    have k0 := h2.cellAt (j * 3) (by omega)
    have k1 := h2.cellAt (j * 3 + 1) (by omega)
    have k2 := h2.cellAt (j * 3 + 2) (by omega)
    refine ⟨g, 0, us[j], rfl, (h2.lt g rfl).2, by rw [Nat.zero_add, k0, a], by rw [Nat.zero_add, k1, b, List.getElem?_eq_getElem hju], by rw [Nat.zero_add, k2, c], (h3 j hj _ (List.getElem?_eq_getElem hju)).lins hb⟩
/-- One component's cells, where it lies. -/
theorem CmpR.at {B : Nat} {w0 w : World} {v : Value} {C : List CV} (h : CmpR B w0 w v C) {k : Nat} (hk : k < C.length) : ∃ g c la ln lc', v = .slice (some ⟨g, 0, none⟩) C.length c ∧ B ≤ g ∧ g < w.heap.size ∧ w.cell? ⟨g, k * 3, none⟩ = some (.string ⟨(C[k]).nm.toArray⟩) ∧ w.cell? ⟨g, k * 3 + 1, none⟩ = some (.slice la ln lc') ∧ w.cell? ⟨g, k * 3 + 2, none⟩ = some (.int .i64 (C[k]).own) ∧ (∀ i, w.frozen? ⟨g, i, none⟩ = false) ∧ LinR B w0 w (.slice la ln lc') (C[k]).ls := by
  obtain ⟨us, h1, h2, h3, _⟩ := h
  obtain ⟨g, c, rfl, hb, hl⟩ := World.ownsRow.form h2 (by omega)
  have hku : k < us.length := by rw [h1]; exact hk
  obtain ⟨a, b, d⟩ := cc_get C us k hk h1
  have hlin := h3 k hk _ (List.getElem?_eq_getElem hku)
  obtain ⟨A, c', e⟩ := hlin.forms
  refine ⟨g, c, A, _, c', rfl, hb, hl, by rw [h2.cellAt (k * 3) (by omega), a], by rw [h2.cellAt (k * 3 + 1) (by omega), b, List.getElem?_eq_getElem hku, e], by rw [h2.cellAt (k * 3 + 2) (by omega), d], fun i => h2.frozenAt i, by rw [← e]; exact hlin⟩
theorem LinR.grown {B : Nat} {w0 w w' : World} {v : Value} {L : List LV} {row : Option Nat} (h : LinR B w0 w v L) (hg : w.grownBy w' row) (hne : v.ownBlock = none ∨ v.ownBlock ≠ row) : LinR B w0 w' v L := by
  obtain ⟨us, h1, h2, h3⟩ := h
  exact ⟨us, h1, h2.kept hg hne, h3⟩
/-- Its own is set. -/
theorem CmpR.setOwn {B g c : Nat} {w0 w : World} {C : List CV} (k : Nat) (n : Int) (h : CmpR B w0 w (.slice (some ⟨g, 0, none⟩) C.length c) C) : CmpR B w0 (w.setCell ⟨g, k * 3 + 2, none⟩ (.int .i64 n)) (.slice (some ⟨g, 0, none⟩) (C.modify k (setO n)).length c) (C.modify k (setO n)) := by
  obtain ⟨us, h1, h2, h3, h4⟩ := h
  obtain ⟨r1, r2⟩ := h2.stored (k * 3 + 2) (.int .i64 n)
  rw [cc_own C us k n h1] at r1
  refine ⟨us, by rw [List.length_modify]; exact h1, by rw [List.length_modify]; exact r1, fun j hj u hu => ?_, h4⟩
  have hj' : j < C.length := by rwa [List.length_modify] at hj
  have hl := h3 j hj' u hu
  have e : ((C.modify k (setO n))[j]).ls = (C[j]).ls := by
    rw [List.getElem_modify]
    split <;> rfl
  rw [e]
  obtain ⟨us', _, q2, _⟩ := id hl
  exact hl.grown r2 (Rws.apart q2 h2 (by decide))
end Tre
end Go.Proofs.Ytdakpncfophjnaa
