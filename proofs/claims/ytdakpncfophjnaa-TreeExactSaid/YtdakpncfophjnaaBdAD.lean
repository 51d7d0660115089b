/-
  Several texts in one (TrV, TrX).
-/
import Derived.Test.YtdakpncfophjnaaTrC
/-
  Package tree: rows of lines and of components that a call owns.
-/
namespace Go.Proofs.Ytdakpncfophjnaa
open Go.RowKit
namespace Tre
open Lin CutB Cel Ap
open Opn (TxtV)
def lc : List LV → List Value → List Value
  | l :: L, u :: us => .string ⟨l.nm.toArray⟩ :: u :: .string ⟨l.vl.toArray⟩ :: lc L us
  | _, _ => []
def cc : List CV → List Value → List Value
  | c :: C, u :: us => .string ⟨c.nm.toArray⟩ :: u :: .int .i64 c.own :: cc C us
  | _, _ => []
theorem lc_len : ∀ (L : List LV) (us : List Value), us.length = L.length → (lc L us).length = L.length * 3
  | [], _, _ => by simp [lc]
  | l :: L, [], h => by simp at h
  | l :: L, u :: us, h => by
    have := lc_len L us (by simpa using h)
    simp only [lc, List.length_cons, this]; omega
theorem cc_len : ∀ (C : List CV) (us : List Value), us.length = C.length → (cc C us).length = C.length * 3
  | [], _, _ => by simp [cc]
  | l :: L, [], h => by simp at h
  | l :: L, u :: us, h => by
    have := cc_len L us (by simpa using h)
    simp only [cc, List.length_cons, this]; omega
theorem lc_app : ∀ (L : List LV) (us : List Value) (l : LV) (u : Value), us.length = L.length → lc (L ++ [l]) (us ++ [u]) = lc L us ++ [.string ⟨l.nm.toArray⟩, u, .string ⟨l.vl.toArray⟩]
  | [], [], _, _, _ => rfl
  | [], _ :: _, _, _, h => by simp at h
  | _ :: _, [], _, _, h => by simp at h
  | l :: L, u :: us, x, v, h => by
    have := lc_app L us x v (by simpa using h)
    simp only [List.cons_append, lc, this]
theorem cc_app : ∀ (C : List CV) (us : List Value) (c : CV) (u : Value), us.length = C.length → cc (C ++ [c]) (us ++ [u]) = cc C us ++ [.string ⟨c.nm.toArray⟩, u, .int .i64 c.own]
  | [], [], _, _, _ => rfl
  | [], _ :: _, _, _, h => by simp at h
  | _ :: _, [], _, _, h => by simp at h
  | l :: L, u :: us, x, v, h => by
    have := cc_app L us x v (by simpa using h)
    simp only [List.cons_append, cc, this]
theorem lc_get : ∀ (L : List LV) (us : List Value) (j : Nat) (hj : j < L.length) (_ : us.length = L.length), (lc L us)[j * 3]? = some (.string ⟨(L[j]).nm.toArray⟩) ∧ (lc L us)[j * 3 + 1]? = us[j]? ∧ (lc L us)[j * 3 + 2]? = some (.string ⟨(L[j]).vl.toArray⟩)
  | [], _, _, hj, _ => by simp at hj
  | _ :: _, [], _, _, h => by simp at h
  | l :: L, u :: us, 0, _, _ => ⟨rfl, rfl, rfl⟩
  | l :: L, u :: us, j + 1, hj, h => by
    have ih := lc_get L us j (by simpa using hj) (by simpa using h)
    rw [show (j + 1) * 3 = j * 3 + 1 + 1 + 1 by omega]
    exact ih
theorem cc_get : ∀ (C : List CV) (us : List Value) (j : Nat) (hj : j < C.length) (_ : us.length = C.length), (cc C us)[j * 3]? = some (.string ⟨(C[j]).nm.toArray⟩) ∧ (cc C us)[j * 3 + 1]? = us[j]? ∧ (cc C us)[j * 3 + 2]? = some (.int .i64 (C[j]).own)
  | [], _, _, hj, _ => by simp at hj
  | _ :: _, [], _, _, h => by simp at h
  | l :: L, u :: us, 0, _, _ => ⟨rfl, rfl, rfl⟩
  | l :: L, u :: us, j + 1, hj, h => by
    have ih := cc_get L us j (by simpa using hj) (by simpa using h)
    rw [show (j + 1) * 3 = j * 3 + 1 + 1 + 1 by omega]
    exact ih
theorem cc_own : ∀ (C : List CV) (us : List Value) (j : Nat) (n : Int), us.length = C.length → (cc C us).set (j * 3 + 2) (.int .i64 n) = cc (C.modify j (setO n)) us
  | [], us, j, n, _ => by cases us <;> simp [cc]
  | _ :: _, [], _, _, h => by simp at h
  | l :: L, u :: us, 0, _, _ => rfl
  | l :: L, u :: us, j + 1, n, h => by
    have ih := cc_own L us j n (by simpa using h)
    rw [show (j + 1) * 3 + 2 = j * 3 + 2 + 1 + 1 + 1 by omega, List.modify_succ_cons, cc, cc, ← ih]
    rfl
theorem cc_ls : ∀ (C : List CV) (us : List Value) (j : Nat) (x : LV) (v : Value), us.length = C.length → (cc C us).set (j * 3 + 1) v = cc (C.modify j (addL x)) (us.set j v)
  | [], us, j, n, _, _ => by cases us <;> simp [cc]
  | _ :: _, [], _, _, _, h => by simp at h
  | l :: L, u :: us, 0, _, _, _ => rfl
  | l :: L, u :: us, j + 1, n, v, h => by
    have ih := cc_ls L us j n v (by simpa using h)
    rw [show (j + 1) * 3 + 1 = j * 3 + 1 + 1 + 1 + 1 by omega, List.modify_succ_cons, List.set_cons_succ, cc, cc, ← ih]
    rfl
/-- A row of lines of the call's own; their parameters lie where they lay when it began. -/
def LinR (B : Nat) (w0 w : World) (v : Value) (L : List LV) : Prop := ∃ us, us.length = L.length ∧ w.ownsRow B 24 3 v L.length (lc L us) ∧ ∀ (j : Nat) (hj : j < L.length) (u : Value), us[j]? = some u → ParsV w0 u (L[j]).ps
theorem LinR.nil (B : Nat) (w0 w : World) : LinR B w0 w (.slice none 0 0) [] := ⟨[], rfl, World.ownsRow_nil _ _ _ _, fun j hj => by simp at hj⟩
theorem LinR.below {B : Nat} {w0 w w' : World} {v : Value} {L : List LV} (h : LinR B w0 w v L) (hb : Below w.heap.size w w') : LinR B w0 w' v L := by
  obtain ⟨us, h1, h2, h3⟩ := h
  exact ⟨us, h1, own_below h2 hb, h3⟩
theorem LinR.lins {B : Nat} {w0 w : World} {v : Value} {L : List LV} (h : LinR B w0 w v L) (hb : Below w0.heap.size w0 w) : LinsV w v L := by
  obtain ⟨us, h1, h2, h3⟩ := h
  rcases h2.2 with ⟨rfl, hn⟩ | ⟨g, cap, cur, rfl, _, _⟩
  · obtain rfl := List.eq_nil_of_length_eq_zero hn
    exact LinsV.none w
  · refine ⟨_, _, _, rfl, rfl, fun j hj => ?_⟩
    obtain ⟨a, b, c⟩ := lc_get L us j hj h1
    have hju : j < us.length := by rw [h1]; exact hj
    have k0 := h2.cellAt (j * 3) (by omega)
    have k1 := h2.cellAt (j * 3 + 1) (by omega)
    have k2 := h2.cellAt (j * 3 + 2) (by omega)
    refine ⟨g, 0, us[j], rfl, (h2.lt g rfl).2, by rw [Nat.zero_add, k0, a], by rw [Nat.zero_add, k1, b, List.getElem?_eq_getElem hju], by rw [Nat.zero_add, k2, c], (h3 j hj _ (List.getElem?_eq_getElem hju)).below hb⟩
theorem LinR.forms {B : Nat} {w0 w : World} {v : Value} {L : List LV} (h : LinR B w0 w v L) : ∃ A c, v = .slice A L.length c := by
  obtain ⟨us, _, h2, _⟩ := h
  rcases h2.2 with ⟨e1, e2⟩ | ⟨g, cap, cur, e1, _⟩
  · exact ⟨none, 0, by rw [e1, e2]⟩
  · exact ⟨_, _, e1⟩
/-- A row of components of the call's own; no two hold their lines in one block. -/
def CmpR (B : Nat) (w0 w : World) (v : Value) (C : List CV) : Prop := ∃ us, us.length = C.length ∧ w.ownsRow B 63 3 v C.length (cc C us) ∧ (∀ (j : Nat) (hj : j < C.length) (u : Value), us[j]? = some u → LinR B w0 w u (C[j]).ls) ∧ ∀ (i j : Nat) (u v : Value), i ≠ j → us[i]? = some u → us[j]? = some v → u.ownBlock = none ∨ u.ownBlock ≠ v.ownBlock
theorem CmpR.nil (B : Nat) (w0 w : World) : CmpR B w0 w (.slice none 0 0) [] := ⟨[], rfl, World.ownsRow_nil _ _ _ _, fun j hj => by simp at hj, fun i j u v _ h => by simp at h⟩
theorem CmpR.below {B : Nat} {w0 w w' : World} {v : Value} {C : List CV} (h : CmpR B w0 w v C) (hb : Below w.heap.size w w') : CmpR B w0 w' v C := by
  obtain ⟨us, h1, h2, h3, h4⟩ := h
  exact ⟨us, h1, own_below h2 hb, fun j hj u hu => (h3 j hj u hu).below hb, h4⟩
theorem CmpR.forms {B : Nat} {w0 w : World} {v : Value} {C : List CV} (h : CmpR B w0 w v C) : ∃ A c, v = .slice A C.length c := by
  obtain ⟨us, _, h2, _⟩ := h
  rcases h2.2 with ⟨e1, e2⟩ | ⟨g, cap, cur, e1, _⟩
  · exact ⟨none, 0, by rw [e1, e2]⟩
  · exact ⟨_, _, e1⟩
theorem CmpR.cmps {B : Nat} {w0 w : World} {v : Value} {C : List CV} (h : CmpR B w0 w v C) (hb : Below w0.heap.size w0 w) : CmpsV w v C := by
  obtain ⟨us, h1, h2, h3, _⟩ := h
  rcases h2.2 with ⟨rfl, hn⟩ | ⟨g, cap, cur, rfl, _, _⟩
  · obtain rfl := List.eq_nil_of_length_eq_zero hn
    exact CmpsV.none w
  · refine ⟨_, _, _, rfl, rfl, fun j hj => ?_⟩
    obtain ⟨a, b, c⟩ := cc_get C us j hj h1
    have hju : j < us.length := by rw [h1]; exact hj
    have k0 := h2.cellAt (j * 3) (by omega)
    have k1 := h2.cellAt (j * 3 + 1) (by omega)
    have k2 := h2.cellAt (j * 3 + 2) (by omega)
    refine ⟨g, 0, us[j], rfl, (h2.lt g rfl).2, by rw [Nat.zero_add, k0, a], by rw [Nat.zero_add, k1, b, List.getElem?_eq_getElem hju], by rw [Nat.zero_add, k2, c], (h3 j hj _ (List.getElem?_eq_getElem hju)).lins hb⟩
/-- One component's cells, where it lies. -/
theorem CmpR.at {B : Nat} {w0 w : World} {v : Value} {C : List CV} (h : CmpR B w0 w v C) {k : Nat} (hk : k < C.length) : ∃ g c la ln lc', v = .slice (some ⟨g, 0, none⟩) C.length c ∧ B ≤ g ∧ g < w.heap.size ∧ w.cell? ⟨g, k * 3, none⟩ = some (.string ⟨(C[k]).nm.toArray⟩) ∧ w.cell? ⟨g, k * 3 + 1, none⟩ = some (.slice la ln lc') ∧ w.cell? ⟨g, k * 3 + 2, none⟩ = some (.int .i64 (C[k]).own) ∧ (∀ i, w.frozen? ⟨g, i, none⟩ = false) ∧ LinR B w0 w (.slice la ln lc') (C[k]).ls := by
  obtain ⟨us, h1, h2, h3, _⟩ := h
  obtain ⟨g, c, rfl, hb, hl⟩ := World.ownsRow.form h2 (by omega)
  have hku : k < us.length := by rw [h1]; exact hk
  obtain ⟨a, b, d⟩ := cc_get C us k hk h1
  have hlin := h3 k hk _ (List.getElem?_eq_getElem hku)
  obtain ⟨A, c', e⟩ := hlin.forms
  refine ⟨g, c, A, _, c', rfl, hb, hl, by rw [h2.cellAt (k * 3) (by omega), a], by rw [h2.cellAt (k * 3 + 1) (by omega), b, List.getElem?_eq_getElem hku, e], by rw [h2.cellAt (k * 3 + 2) (by omega), d], fun i => h2.frozenAt i, by rw [← e]; exact hlin⟩
theorem LinR.grown {B : Nat} {w0 w w' : World} {v : Value} {L : List LV} {row : Option Nat} (h : LinR B w0 w v L) (hg : w.grownBy w' row) (hne : v.ownBlock = none ∨ v.ownBlock ≠ row) : LinR B w0 w' v L := by
  obtain ⟨us, h1, h2, h3⟩ := h
  exact ⟨us, h1, h2.kept hg hne, h3⟩
/-- Its own is set. -/
theorem CmpR.setOwn {B g c : Nat} {w0 w : World} {C : List CV} (k : Nat) (n : Int) (h : CmpR B w0 w (.slice (some ⟨g, 0, none⟩) C.length c) C) : CmpR B w0 (w.setCell ⟨g, k * 3 + 2, none⟩ (.int .i64 n)) (.slice (some ⟨g, 0, none⟩) (C.modify k (setO n)).length c) (C.modify k (setO n)) := by
  obtain ⟨us, h1, h2, h3, h4⟩ := h
  obtain ⟨r1, r2⟩ := h2.stored (k * 3 + 2) (.int .i64 n)
  rw [cc_own C us k n h1] at r1
  refine ⟨us, by rw [List.length_modify]; exact h1, by rw [List.length_modify]; exact r1, fun j hj u hu => ?_, h4⟩
  have hj' : j < C.length := by rwa [List.length_modify] at hj
  have hl := h3 j hj' u hu
  have e : ((C.modify k (setO n))[j]).ls = (C[j]).ls := by
    rw [List.getElem_modify]
    split <;> rfl
  rw [e]
  obtain ⟨us', _, q2, _⟩ := id hl
  exact hl.grown r2 (Rws.apart q2 h2 (by decide))
end Tre
end Go.Proofs.Ytdakpncfophjnaa
/-
  Package tree: a component is put behind the others, a line behind a component's lines.
-/
namespace Go.Proofs.Ytdakpncfophjnaa
open Go.RowKit
namespace Tre
open Lin CutB Cel Ap
open Opn (TxtV)
theorem infoC : (Try.prog.info? 63).map (fun i => (i.zero, i.size, i.bytes)) = some (some (.agg #[.string ⟨#[]⟩, .slice none 0 0, .int .i64 0]), 3, 48) := by kernel_rfl
theorem infoL : (Try.prog.info? 24).map (fun i => (i.zero, i.size, i.bytes)) = some (some (.agg #[.string ⟨#[]⟩, .slice none 0 0, .string ⟨#[]⟩]), 3, 56) := by kernel_rfl
theorem appC {w : World} {ops : Array Oper} {rest : List Oper} {o : Oper} {a : Act} {Q : Exit → Act → World → Prop} (hgd : o.guard = none) (s x : Operand)
    (ho : o.op = .call { callee := .builtin .append, args := #[s, x], argTypes := #[49, 49] })
    (B : Nat) (w0 : World) (v : Value) (C : List CV) (hs : a.eval s = v) (hown : CmpR B w0 w v C) (T : List UInt8) (y : ByteArray) (hy : y = ⟨T.toArray⟩)
    (hx : a.eval x = .slice (some ⟨w.heap.size, 0, none⟩) 1 1) (hn : C.length ≤ 100000000) (hB : B ≤ w.heap.size)
    (h : ∀ w' g cap, CmpR B w0 w' (.slice (some ⟨g, 0, none⟩) (C.length + 1) cap) (C ++ [⟨T, [], 0⟩]) → Grew B v w w' → wpList Try.prog ops Q rest (a.put o.dst (.slice (some ⟨g, 0, none⟩) (C.length + 1) cap)) w') :
    wpList Try.prog ops Q (o :: rest) a (w.alloc (.cells #[.string y, .slice none 0 0, .int .i64 0] 63)) := by
  obtain ⟨i0, hi0, hz0, hz1, hz2⟩ := info_parts infoC
  obtain ⟨us, h1, h2, h3, h4⟩ := hown
  refine appX hgd s x 49 ho B 63 i0 (.agg #[.string ⟨#[]⟩, .slice none 0 0, .int .i64 0]) 3 48 (by kernel_rfl) hi0 hz0 hz1 hz2 rfl (by decide) v C.length _ hs h2 #[.string y, .slice none 0 0, .int .i64 0] 63 rfl (by intro u hu; simp at hu; rcases hu with rfl | rfl | rfl <;> rfl) hx hn (by decide) hB ?_
  intro w' g cap r3 g3 _
  have hl : (C ++ [(⟨T, [], 0⟩ : CV)]).length = C.length + 1 := by simp
  refine h w' g cap ⟨us ++ [.slice none 0 0], by simp [h1], ?_, ?_, ?_⟩ g3
  · rw [hl, cc_app C us _ _ h1]
    subst hy
    exact r3
  · intro j hj u hu
    by_cases hjc : j < C.length
    · have e : (C ++ [(⟨T, [], 0⟩ : CV)])[j] = C[j] := List.getElem_append_left hjc
      rw [List.getElem?_append_left (by omega)] at hu
      rw [e]
      obtain ⟨us', q1, q2, q3⟩ := h3 j hjc u hu
      exact ⟨us', q1, g3.other _ _ _ _ _ _ (Rws.apart q2 h2 (by decide)) q2, q3⟩
    · obtain rfl : j = C.length := by rw [hl] at hj; omega
      have e : (C ++ [(⟨T, [], 0⟩ : CV)])[C.length] = ⟨T, [], 0⟩ := by simp
      rw [List.getElem?_append_right (by omega), h1, Nat.sub_self] at hu
      injection hu with hu
      subst hu
      rw [e]
      exact LinR.nil _ _ _
  · intro i j u v' hij hu hv
    by_cases hi : i < us.length
    · rw [List.getElem?_append_left hi] at hu
      by_cases hj : j < us.length
      · rw [List.getElem?_append_left hj] at hv
        exact h4 i j u v' hij hu hv
      · rw [List.getElem?_append_right (by omega)] at hv
        have : j - us.length = 0 := by
          rcases Nat.eq_zero_or_pos (j - us.length) with q | q
          · exact q
          · rw [List.getElem?_eq_none (by simp; omega)] at hv; cases hv
        rw [this] at hv
        injection hv with hv
        subst hv
        cases hq : u.ownBlock with
        | none => exact Or.inl rfl
        | some _ => exact Or.inr (by simp [Value.ownBlock])
    · rw [List.getElem?_append_right (by omega)] at hu
      have : i - us.length = 0 := by
        rcases Nat.eq_zero_or_pos (i - us.length) with q | q
        · exact q
        · rw [List.getElem?_eq_none (by simp; omega)] at hu; cases hu
      rw [this] at hu
      injection hu with hu
      subst hu
      exact Or.inl rfl
/-- append(c.Lines, x), at a step of a region that draws its order. -/
theorem stepL {w : World} {ops : Array Oper} {o : Oper} {a : Act} {K : Act → World → Prop} {Q : Exit → Act → World → Prop} {E : Prop} (hgd : o.guard = none) (s x : Operand)
    (ho : o.op = .call { callee := .builtin .append, args := #[s, x], argTypes := #[61, 61] })
    (B : Nat) (w0 : World) (v : Value) (L : List LV) (hs : a.eval s = v) (hown : LinR B w0 w v L) (l : LV) (y z u : Value) (hy : y = .string ⟨l.nm.toArray⟩) (hz : z = .string ⟨l.vl.toArray⟩) (hu : ParsV w0 u l.ps) (hx : a.eval x = .slice (some ⟨w.heap.size, 0, none⟩) 1 1)
    (hlen : L.length ≤ 100000000) (hB : B ≤ w.heap.size)
    (h : ∀ w' g cap, LinR B w0 w' (.slice (some ⟨g, 0, none⟩) (L.length + 1) cap) (L ++ [l]) → (w.alloc (.cells #[y, u, z] 24)).grownBy w' v.ownBlock → (v.ownBlock = some g ∨ g = w.heap.size + 1) → K (a.put o.dst (.slice (some ⟨g, 0, none⟩) (L.length + 1) cap)) w') :
    if Region.wanted o (yielded ops a.tmps) = true then Oper.wp Try.prog o a (w.alloc (.cells #[y, u, z] 24)) K Q else E := by
  obtain ⟨i0, hi0, hz0, hz1, hz2⟩ := info_parts infoL
  obtain ⟨us, h1, h2, h3⟩ := hown
  have huf : u.oneCell' = true := by
    obtain ⟨_, _, _, rfl, _⟩ := hu
    rfl
  subst hy hz
  refine step_append_lies _ hgd s x 61 ho B 24 i0 (.agg #[.string ⟨#[]⟩, .slice none 0 0, .string ⟨#[]⟩]) 3 56 (by kernel_rfl) hi0 hz0 hz1 hz2 rfl (by decide) v L.length _ hs (h2.alloc _) ⟨w.heap.size, 0, none⟩ 1 1 [.string ⟨l.nm.toArray⟩, u, .string ⟨l.vl.toArray⟩] hx rfl (World.news_of_block (heap_alloc_new w (Obj.cells #[.string ⟨l.nm.toArray⟩, u, .string ⟨l.vl.toArray⟩] 24))) ?_ (by decide) (by unfold maxLen; omega) (by omega) (by simp; omega) (w.heap.size + 1) (by simp) ?_
  · intro q hq
    simp only [List.mem_cons, List.mem_nil_iff, or_false] at hq
    rcases hq with rfl | rfl | rfl
    · rfl
    · exact huf
    · rfl
  · intro g cap w' r3 g3 hat _
    have hl : (L ++ [l]).length = L.length + 1 := by simp
    refine h w' g cap ⟨us ++ [u], by simp [h1], by rw [hl, lc_app L us _ _ h1]; exact r3, fun j hj q hq => ?_⟩ g3 hat
    by_cases hjl : j < L.length
    · have e : (L ++ [l])[j] = L[j] := List.getElem_append_left hjl
      rw [List.getElem?_append_left (by omega)] at hq
      rw [e]
      exact h3 j hjl q hq
    · obtain rfl : j = L.length := by rw [hl] at hj; omega
      have e : (L ++ [l])[L.length] = l := by simp
      rw [List.getElem?_append_right (by omega), h1, Nat.sub_self] at hq
      injection hq with hq
      subst hq
      rw [e]; exact hu
/-- The new lines, stored. -/
theorem CmpR.addLn {B g c k : Nat} {w0 w w' : World} {C : List CV} {x : LV} {u u' : Value} {o : Obj} (h : CmpR B w0 w (.slice (some ⟨g, 0, none⟩) C.length c) C) (hk : k < C.length) (hu : w.cell? ⟨g, k * 3 + 1, none⟩ = some u)
    (hg : (w.alloc o).grownBy w' u.ownBlock) (hr : LinR B w0 w' u' ((C[k]).ls ++ [x])) (hat : u.ownBlock = u'.ownBlock ∨ u'.ownBlock = some (w.heap.size + 1)) :
    CmpR B w0 (w'.setCell ⟨g, k * 3 + 1, none⟩ u') (.slice (some ⟨g, 0, none⟩) (C.modify k (addL x)).length c) (C.modify k (addL x)) := by
  obtain ⟨us, h1, h2, h3, h4⟩ := h
  have hku : k < us.length := by rw [h1]; exact hk
  have huk : us[k]? = some u := by
    rw [h2.cellAt (k * 3 + 1) (by omega), (cc_get C us k hk h1).2.1] at hu
    exact hu
  obtain ⟨us0, q1, q2, q3⟩ := h3 k hk u huk
  have r0 : w'.ownsRow B 63 3 (.slice (some ⟨g, 0, none⟩) C.length c) C.length (cc C us) := (h2.alloc o).kept hg (Rws.apart h2 q2 (by decide))
  obtain ⟨r1, r2⟩ := r0.stored (k * 3 + 1) u'
  rw [cc_ls C us k x u' h1] at r1
  refine ⟨us.set k u', by rw [List.length_modify, List.length_set]; exact h1, by rw [List.length_modify]; exact r1, fun j hj q hq => ?_, fun i j p q hij hp hq => ?_⟩
  · have hj' : j < C.length := by rwa [List.length_modify] at hj
    by_cases hjk : j = k
    · subst hjk
      rw [List.getElem?_set_self hku] at hq
      injection hq with hq
      subst hq
      have e : ((C.modify j (addL x))[j]).ls = (C[j]).ls ++ [x] := by rw [List.getElem_modify, if_pos rfl]; rfl
      rw [e]
      obtain ⟨_, _, t2, _⟩ := id hr
      exact hr.grown r2 (Rws.apart t2 r0 (by decide))
    · rw [List.getElem?_set_ne (fun e => hjk e.symm)] at hq
      have e : ((C.modify k (addL x))[j]).ls = (C[j]).ls := by rw [List.getElem_modify, if_neg (fun e => hjk e.symm)]
      rw [e]
      obtain ⟨us1, t1, t2, t3⟩ := h3 j hj' q hq
      have t4 : w'.ownsRow B 24 3 q (C[j]).ls.length (lc (C[j]).ls us1) := (t2.alloc o).kept hg (h4 j k q u hjk hq huk)
      exact ⟨us1, t1, t4.kept r2 (Rws.apart t4 r0 (by decide)), t3⟩
  · have old : ∀ (j : Nat) (q : Value), us[j]? = some q → q.ownBlock ≠ some (w.heap.size + 1) := fun j q hq e => by
      have hjl : j < C.length := by
        rcases Nat.lt_or_ge j us.length with z | z
        · omega
        · rw [List.getElem?_eq_none z] at hq; cases hq
      obtain ⟨_, _, t2, _⟩ := h3 j hjl q hq
      have := (t2.lt _ e).2
      omega
    by_cases hik : i = k
    · subst hik
      rw [List.getElem?_set_self hku] at hp
      injection hp with hp
      subst hp
      rw [List.getElem?_set_ne (fun e => hij e)] at hq
      rcases hat with e | e
      · rcases h4 i j u q hij huk hq with z | z
        · exact Or.inl (by rw [← e]; exact z)
        · exact Or.inr (by rw [← e]; exact z)
      · exact Or.inr (fun z => old j q hq (by rw [← z, e]))
    · rw [List.getElem?_set_ne (fun e => hik e.symm)] at hp
      by_cases hjk : j = k
      · subst hjk
        rw [List.getElem?_set_self hku] at hq
        injection hq with hq
        subst hq
        rcases hat with e | e
        · rcases h4 i j p u hij hp huk with z | z
          · exact Or.inl z
          · exact Or.inr (by rw [← e]; exact z)
        · exact Or.inr (fun z => old i p hp (by rw [z, e]))
      · rw [List.getElem?_set_ne (fun e => hjk e.symm)] at hq
        exact h4 i j p q hij hp hq
end Tre
end Go.Proofs.Ytdakpncfophjnaa
