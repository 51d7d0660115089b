/-
  Package tree: rows of lines and of components that a call owns whole, their parameters too; one more of each.
-/
import Derived.Test.YtdakpncfophjnaaBdAD
import Derived.Test.YtdakpncfophjnaaLnRE
namespace Go.Proofs.Ytdakpncfophjnaa
open Go.RowKit
namespace Tre
open Lin CutB Cel Ap
open Opn (TxtV)
def LinO (B : Nat) (w : World) (v : Value) (L : List LV) : Prop := ∃ us, us.length = L.length ∧ w.ownsRow B 24 3 v L.length (lc L us) ∧ ∀ (j : Nat) (hj : j < L.length) (u : Value), us[j]? = some u → ParR B w u (L[j]).ps
theorem LinO.nil (B : Nat) (w : World) : LinO B w (.slice none 0 0) [] := ⟨[], rfl, World.ownsRow_nil _ _ _ _, fun j hj => by simp at hj⟩
theorem LinO.below {B : Nat} {w w' : World} {v : Value} {L : List LV} (h : LinO B w v L) (hb : Below w.heap.size w w') : LinO B w' v L := by
  obtain ⟨us, h1, h2, h3⟩ := h
  exact ⟨us, h1, own_below h2 hb, fun j hj u hu => (h3 j hj u hu).below hb⟩
theorem LinO.low {B B' : Nat} {w : World} {v : Value} {L : List LV} (hB : B' ≤ B) (h : LinO B w v L) : LinO B' w v L := by
  obtain ⟨us, h1, h2, h3⟩ := h
  exact ⟨us, h1, h2.mono hB, fun j hj u hu => parLow hB (h3 j hj u hu)⟩
theorem LinO.set {B g : Nat} {w : World} {v : Value} {L : List LV} (h : LinO B w v L) (hg : g < B) (i : Nat) (x : Value) : LinO B (w.setCell ⟨g, i, none⟩ x) v L := by
  obtain ⟨us, h1, h2, h3⟩ := h
  exact ⟨us, h1, own_set h2 hg i x, fun j hj u hu => (h3 j hj u hu).set hg i x⟩
theorem LinO.forms {B : Nat} {w : World} {v : Value} {L : List LV} (h : LinO B w v L) : ∃ A c, v = .slice A L.length c := by
  obtain ⟨us, _, h2, _⟩ := h
  rcases h2.2 with ⟨e1, e2⟩ | ⟨g, cap, cur, e1, _⟩
  · exact ⟨none, 0, by rw [e1, e2]⟩
  · exact ⟨_, _, e1⟩
theorem LinO.lins {B : Nat} {w : World} {v : Value} {L : List LV} (h : LinO B w v L) : LinsV w v L := by
  obtain ⟨us, h1, h2, h3⟩ := h
  rcases h2.2 with ⟨rfl, hn⟩ | ⟨g, cap, cur, rfl, hg, hh, _⟩
  · obtain rfl : L = [] := List.eq_nil_of_length_eq_zero hn
    exact LinsV.none w
  · refine ⟨_, _, _, rfl, rfl, fun j hj => ?_⟩
    obtain ⟨e0, e1, e2⟩ := lc_get L us j hj h1
    have hju : j < us.length := by omega
    have hlt : g < w.heap.size := (h2.lt g rfl).2
    refine ⟨g, 0, us[j], rfl, hlt, ?_, ?_, ?_, (h3 j hj _ (List.getElem?_eq_getElem hju)).pars⟩
    · rw [Nat.zero_add, h2.cellAt (j * 3) (by omega), e0]
    · rw [Nat.zero_add, h2.cellAt (j * 3 + 1) (by omega), e1, List.getElem?_eq_getElem hju]
    · rw [Nat.zero_add, h2.cellAt (j * 3 + 2) (by omega), e2]
theorem parR_kept {B B' : Nat} {w w' : World} {v u : Value} {ps : List PV} {n : Nat} {xs : List Value} (h : ParR B w v ps) (ho : w.ownsRow B' 24 3 u n xs) (hg : w.grownBy w' u.ownBlock) : ParR B w' v ps := by
  obtain ⟨ys, h1, h2⟩ := h
  refine ⟨ys, h1.kept hg (Rws.apart h1 ho (by decide)), fun j hj => ?_⟩
  obtain ⟨sv, a, b, c⟩ := h2 j hj
  exact ⟨sv, a, b, World.ownsRow.kept c hg (Rws.apart c ho (by decide))⟩
theorem parR_grewL {B B' : Nat} {w w' : World} {v u : Value} {ps : List PV} {n : Nat} {xs : List Value} (h : ParR B w v ps) (ho : w.ownsRow B' 24 3 u n xs) (hg : Grew B' u w w') : ParR B w' v ps := by
  obtain ⟨ys, h1, h2⟩ := h
  refine ⟨ys, hg.other _ _ _ _ _ _ (Rws.apart h1 ho (by decide)) h1, fun j hj => ?_⟩
  obtain ⟨sv, a, b, c⟩ := h2 j hj
  exact ⟨sv, a, b, hg.other _ _ _ _ _ _ (Rws.apart c ho (by decide)) c⟩
theorem parR_grewC {B B' : Nat} {w w' : World} {v u : Value} {ps : List PV} {n : Nat} {xs : List Value} (h : ParR B w v ps) (ho : w.ownsRow B' 63 3 u n xs) (hg : Grew B' u w w') : ParR B w' v ps := by
  obtain ⟨ys, h1, h2⟩ := h
  refine ⟨ys, hg.other _ _ _ _ _ _ (Rws.apart h1 ho (by decide)) h1, fun j hj => ?_⟩
  obtain ⟨sv, a, b, c⟩ := h2 j hj
  exact ⟨sv, a, b, hg.other _ _ _ _ _ _ (Rws.apart c ho (by decide)) c⟩
theorem LinO.grewC {B B' : Nat} {w w' : World} {v u : Value} {L : List LV} {n : Nat} {xs : List Value} (h : LinO B w v L) (ho : w.ownsRow B' 63 3 u n xs) (hg : Grew B' u w w') : LinO B w' v L := by
  obtain ⟨us, h1, h2, h3⟩ := h
  exact ⟨us, h1, hg.other _ _ _ _ _ _ (Rws.apart h2 ho (by decide)) h2, fun j hj q hq => parR_grewC (h3 j hj q hq) ho hg⟩
theorem linO_snoc {B : Nat} {w : World} {v : Value} {L : List LV} {us : List Value} {l : LV} {u : Value} (h1 : us.length = L.length) (hr : w.ownsRow B 24 3 v (L.length + 1) (lc L us ++ [.string ⟨l.nm.toArray⟩, u, .string ⟨l.vl.toArray⟩])) (h3 : ∀ (j : Nat) (hj : j < L.length) (q : Value), us[j]? = some q → ParR B w q (L[j]).ps) (hu : ParR B w u l.ps) : LinO B w v (L ++ [l]) := by
  have hl : (L ++ [l]).length = L.length + 1 := by simp
  refine ⟨us ++ [u], by simp [h1], by rw [hl, lc_app L us _ _ h1]; exact hr, fun j hj q hq => ?_⟩
  by_cases hjl : j < L.length
  · have e : (L ++ [l])[j] = L[j] := List.getElem_append_left hjl
    rw [List.getElem?_append_left (by omega)] at hq
    rw [e]
    exact h3 j hjl q hq
  · obtain rfl : j = L.length := by rw [hl] at hj; omega
    have e : (L ++ [l])[L.length] = l := by simp
    rw [List.getElem?_append_right (by omega), h1, Nat.sub_self] at hq
    injection hq with hq
    subst hq
    rw [e]; exact hu
theorem parR_one {B : Nat} {w : World} {u : Value} {ps : List PV} (h : ParR B w u ps) : u.oneCell' = true := by
  obtain ⟨_, h1, _⟩ := h
  rcases h1.2 with ⟨rfl, _⟩ | ⟨g, cap, cur, rfl, _⟩ <;> rfl
/-- append(lines, x), at a step of a region that draws its order. -/
theorem stepLO {w : World} {ops : Array Oper} {o : Oper} {a : Act} {K : Act → World → Prop} {Q : Exit → Act → World → Prop} {E : Prop} (hgd : o.guard = none) (s x : Operand)
    (ho : o.op = .call { callee := .builtin .append, args := #[s, x], argTypes := #[61, 61] })
    (B : Nat) (v : Value) (L : List LV) (hs : a.eval s = v) (hown : LinO B w v L) (l : LV) (y z u : Value) (hy : y = .string ⟨l.nm.toArray⟩) (hz : z = .string ⟨l.vl.toArray⟩) (hu : ParR B w u l.ps) (hx : a.eval x = .slice (some ⟨w.heap.size, 0, none⟩) 1 1)
    (hlen : L.length ≤ 100000000) (hB : B ≤ w.heap.size)
    (h : ∀ w' g cap, LinO B w' (.slice (some ⟨g, 0, none⟩) (L.length + 1) cap) (L ++ [l]) → (∀ (B0 : Nat) (W0 : World), B0 ≤ B → Below B0 W0 w → B0 ≤ w.heap.size → Below B0 W0 w') → w.heap.size ≤ w'.heap.size → K (a.put o.dst (.slice (some ⟨g, 0, none⟩) (L.length + 1) cap)) w') :
    if Region.wanted o (yielded ops a.tmps) = true then Oper.wp Try.prog o a (w.alloc (.cells #[y, u, z] 24)) K Q else E := by
  obtain ⟨i0, hi0, hz0, hz1, hz2⟩ := info_parts infoL
  obtain ⟨us, h1, h2, h3⟩ := hown
  have huf := parR_one hu
  subst hy hz
  refine step_append_lies _ hgd s x 61 ho B 24 i0 (.agg #[.string ⟨#[]⟩, .slice none 0 0, .string ⟨#[]⟩]) 3 56 (by kernel_rfl) hi0 hz0 hz1 hz2 rfl (by decide) v L.length _ hs (h2.alloc _) ⟨w.heap.size, 0, none⟩ 1 1 [.string ⟨l.nm.toArray⟩, u, .string ⟨l.vl.toArray⟩] hx rfl (World.news_of_block (heap_alloc_new w (Obj.cells #[.string ⟨l.nm.toArray⟩, u, .string ⟨l.vl.toArray⟩] 24))) ?_ (by decide) (by unfold maxLen; omega) (by omega) (by simp; omega) (w.heap.size + 1) (by simp) ?_
  · intro q hq
    simp only [List.mem_cons, List.mem_nil_iff, or_false] at hq
    rcases hq with rfl | rfl | rfl
    · rfl
    · exact huf
    · rfl
  · intro g cap w' r3 g3 hat _
    refine h w' g cap (linO_snoc h1 r3 (fun j hj q hq => parR_kept (ParR.alloc (h3 j hj q hq) _) (h2.alloc _) g3) (parR_kept (ParR.alloc hu _) (h2.alloc _) g3)) (fun B0 W0 hB0 hb hw => (hb.alloc hw _).grown g3 (by simp; omega) (fun k hk => Nat.le_trans hB0 (h2.lt k hk).1)) (Nat.le_trans (by simp) g3.size)
/-- append(lines, x). -/
theorem appLO {w : World} {ops : Array Oper} {rest : List Oper} {o : Oper} {a : Act} {Q : Exit → Act → World → Prop} (hgd : o.guard = none) (s x : Operand)
    (ho : o.op = .call { callee := .builtin .append, args := #[s, x], argTypes := #[61, 61] })
    (B : Nat) (v : Value) (L : List LV) (hs : a.eval s = v) (hown : LinO B w v L) (l : LV) (y z u : Value) (hy : y = .string ⟨l.nm.toArray⟩) (hz : z = .string ⟨l.vl.toArray⟩) (hu : ParR B w u l.ps)
    (hx : a.eval x = .slice (some ⟨w.heap.size, 0, none⟩) 1 1) (hn : L.length ≤ 100000000) (hB : B ≤ w.heap.size)
    (h : ∀ w' g cap, LinO B w' (.slice (some ⟨g, 0, none⟩) (L.length + 1) cap) (L ++ [l]) → Grew B v w w' → wpList Try.prog ops Q rest (a.put o.dst (.slice (some ⟨g, 0, none⟩) (L.length + 1) cap)) w') :
    wpList Try.prog ops Q (o :: rest) a (w.alloc (.cells #[y, u, z] 24)) := by
  obtain ⟨i0, hi0, hz0, hz1, hz2⟩ := info_parts infoL
  obtain ⟨us, h1, h2, h3⟩ := hown
  have huf := parR_one hu
  subst hy hz
  refine appX hgd s x 61 ho B 24 i0 (.agg #[.string ⟨#[]⟩, .slice none 0 0, .string ⟨#[]⟩]) 3 56 (by kernel_rfl) hi0 hz0 hz1 hz2 rfl (by decide) v L.length _ hs h2 #[.string ⟨l.nm.toArray⟩, u, .string ⟨l.vl.toArray⟩] 24 rfl ?_ hx hn (by decide) hB ?_
  · intro q hq
    simp only [List.mem_cons, List.mem_nil_iff, or_false] at hq
    rcases hq with rfl | rfl | rfl
    · rfl
    · exact huf
    · rfl
  · intro w' g cap r3 g3 _
    exact h w' g cap (linO_snoc h1 r3 (fun j hj q hq => parR_grewL (h3 j hj q hq) h2 g3) (parR_grewL hu h2 g3)) g3
def CmpO (B : Nat) (w : World) (v : Value) (C : List CV) : Prop := ∃ us, us.length = C.length ∧ w.ownsRow B 63 3 v C.length (cc C us) ∧ ∀ (j : Nat) (hj : j < C.length) (u : Value), us[j]? = some u → LinO B w u (C[j]).ls
theorem CmpO.nil (B : Nat) (w : World) : CmpO B w (.slice none 0 0) [] := ⟨[], rfl, World.ownsRow_nil _ _ _ _, fun j hj => by simp at hj⟩
theorem CmpO.below {B : Nat} {w w' : World} {v : Value} {C : List CV} (h : CmpO B w v C) (hb : Below w.heap.size w w') : CmpO B w' v C := by
  obtain ⟨us, h1, h2, h3⟩ := h
  exact ⟨us, h1, own_below h2 hb, fun j hj u hu => (h3 j hj u hu).below hb⟩
theorem CmpO.cmps {B : Nat} {w : World} {v : Value} {C : List CV} (h : CmpO B w v C) : CmpsV w v C := by
  obtain ⟨us, h1, h2, h3⟩ := h
  rcases h2.2 with ⟨rfl, hn⟩ | ⟨g, cap, cur, rfl, hg, hh, _⟩
  · obtain rfl : C = [] := List.eq_nil_of_length_eq_zero hn
    exact CmpsV.none w
  · refine ⟨_, _, _, rfl, rfl, fun j hj => ?_⟩
    obtain ⟨e0, e1, e2⟩ := cc_get C us j hj h1
    have hju : j < us.length := by omega
    have hlt : g < w.heap.size := (h2.lt g rfl).2
    refine ⟨g, 0, us[j], rfl, hlt, ?_, ?_, ?_, (h3 j hj _ (List.getElem?_eq_getElem hju)).lins⟩
    · rw [Nat.zero_add, h2.cellAt (j * 3) (by omega), e0]
    · rw [Nat.zero_add, h2.cellAt (j * 3 + 1) (by omega), e1, List.getElem?_eq_getElem hju]
    · rw [Nat.zero_add, h2.cellAt (j * 3 + 2) (by omega), e2]
/-- append(comps, c). -/
theorem appCO {w : World} {ops : Array Oper} {rest : List Oper} {o : Oper} {a : Act} {Q : Exit → Act → World → Prop} (hgd : o.guard = none) (s x : Operand)
    (ho : o.op = .call { callee := .builtin .append, args := #[s, x], argTypes := #[49, 49] })
    (B : Nat) (v : Value) (C : List CV) (hs : a.eval s = v) (hown : CmpO B w v C) (c : CV) (y z u : Value) (hy : y = .string ⟨c.nm.toArray⟩) (hz : z = .int .i64 c.own) (hu : LinO B w u c.ls)
    (hx : a.eval x = .slice (some ⟨w.heap.size, 0, none⟩) 1 1) (hn : C.length ≤ 100000000) (hB : B ≤ w.heap.size)
    (h : ∀ w' g cap, CmpO B w' (.slice (some ⟨g, 0, none⟩) (C.length + 1) cap) (C ++ [c]) → Grew B v w w' → wpList Try.prog ops Q rest (a.put o.dst (.slice (some ⟨g, 0, none⟩) (C.length + 1) cap)) w') :
    wpList Try.prog ops Q (o :: rest) a (w.alloc (.cells #[y, u, z] 63)) := by
  obtain ⟨i0, hi0, hz0, hz1, hz2⟩ := info_parts infoC
  obtain ⟨us, h1, h2, h3⟩ := hown
  have huf : u.oneCell' = true := by
    obtain ⟨A, cc', rfl⟩ := hu.forms
    rfl
  subst hy hz
  refine appX hgd s x 49 ho B 63 i0 (.agg #[.string ⟨#[]⟩, .slice none 0 0, .int .i64 0]) 3 48 (by kernel_rfl) hi0 hz0 hz1 hz2 rfl (by decide) v C.length _ hs h2 #[.string ⟨c.nm.toArray⟩, u, .int .i64 c.own] 63 rfl ?_ hx hn (by decide) hB ?_
  · intro q hq
    simp only [List.mem_cons, List.mem_nil_iff, or_false] at hq
    rcases hq with rfl | rfl | rfl
    · rfl
    · exact huf
    · rfl
  · intro w' g cap r3 g3 _
    have hl : (C ++ [c]).length = C.length + 1 := by simp
    refine h w' g cap ⟨us ++ [u], by simp [h1], by rw [hl, cc_app C us _ _ h1]; exact r3, fun j hj q hq => ?_⟩ g3
    by_cases hjl : j < C.length
    · have e : (C ++ [c])[j] = C[j] := List.getElem_append_left hjl
      rw [List.getElem?_append_left (by omega)] at hq
      rw [e]
      exact (h3 j hjl q hq).grewC h2 g3
    · obtain rfl : j = C.length := by rw [hl] at hj; omega
      have e : (C ++ [c])[C.length] = c := by simp
      rw [List.getElem?_append_right (by omega), h1, Nat.sub_self] at hq
      injection hq with hq
      subst hq
      rw [e]; exact hu.grewC h2 g3
end Tre
end Go.Proofs.Ytdakpncfophjnaa
