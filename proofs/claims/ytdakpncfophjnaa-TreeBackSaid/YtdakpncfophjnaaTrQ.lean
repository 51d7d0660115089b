/-
  Package tree: what stands while a tree is written; plain words on a tree's text.
-/
import Derived.Test.YtdakpncfophjnaaTrP
namespace Go.Proofs.Ytdakpncfophjnaa
open Go.RowKit
namespace Tre
open Lin CutB Cel Ap
open Opn (TxtV)
/-- A block that is known whole. -/
def Ob (q : Nat) (w : World) (vs : List Value) (t : TypeId) : Prop := w.heap[q]? = some (.cells vs.toArray t (0, 0))
theorem Ob.new (w : World) (vs : List Value) (t : TypeId) : Ob w.heap.size (w.alloc (.cells vs.toArray t)) vs t := heap_alloc_new w _
theorem Ob.lt {q : Nat} {w : World} {vs : List Value} {t : TypeId} (h : Ob q w vs t) : q < w.heap.size := blk_lt h
theorem Ob.cell {q : Nat} {w : World} {vs : List Value} {t : TypeId} (h : Ob q w vs t) {i : Nat} {v : Value} (hv : vs[i]? = some v) : w.cell? ⟨q, i, none⟩ = some v := by
  rw [Lib.cell_of_heap h]; simpa using hv
theorem Ob.below {q : Nat} {w w' : World} {vs : List Value} {t : TypeId} (h : Ob q w vs t) (hb : Below w.heap.size w w') : Ob q w' vs t := (hb.block q h.lt).trans h
theorem Ob.kept {q b : Nat} {w w' : World} {vs : List Value} {t : TypeId} (h : Ob q w vs t) (ht : t ≠ 5) (hq : q ≠ b) (k : Lib.OthersKept 5 (some b) w w') : Ob q w' vs t :=
  k q _ h (fun e => hq (by injection e)) (fun c fz e => ht (by injection e with _ e _))
theorem own_far {w : World} {B : Nat} {e T : TypeId} {size : Nat} {v : Value} {n : Nat} {xs : List Value} {b : Nat} {cs : Array Value} {fr : Nat × Nat} (hown : w.ownsRow B e size v n xs) (hb : w.heap[b]? = some (.cells cs T fr)) (hTe : T ≠ e) : v.ownBlock ≠ some b := by
  rcases hown.2 with ⟨rfl, _⟩ | ⟨g, cap, cur, rfl, _, hg, _⟩
  · simp [Value.ownBlock]
  · intro h
    simp only [Value.ownBlock, Option.some.injEq] at h
    subst h
    rw [hg] at hb
    simp only [Option.some.injEq, Obj.cells.injEq] at hb
    exact hTe hb.2.1.symm
theorem RowO.kept {B b : Nat} {w w' : World} {v : Value} {K : Stk} (h : RowO B w v K) (hb : v.ownBlock ≠ some b) (k : Lib.OthersKept 5 (some b) w w') : RowO B w' v K := by
  refine ⟨h.1, ?_⟩
  rcases h.2 with h1 | ⟨g, cap, cur, hv, hg, hh, r⟩
  · exact Or.inl h1
  · subst hv
    exact Or.inr ⟨g, cap, cur, rfl, hg, k g _ hh (fun e => hb (by injection e with e; subst e; rfl)) (fun c fz e => absurd (by injection e with _ e _) (show 88 ≠ 5 by decide)), r⟩
theorem Ob.grew {B q : Nat} {v : Value} {w w' : World} {vs : List Value} {t : TypeId} (h : Ob q w vs t) (hg : Grew B v w w') (hne : v.ownBlock ≠ some q) : Ob q w' vs t := (hg.block q h.lt (fun e => hne e.symm)).trans h
theorem Wrt.grew {B B' b : Nat} {l : List UInt8} {e : Int} {v : Value} {n : Nat} {xs : List Value} {w w' : World} (h : Wrt B b l e w) (hg : Grew B' v w w') (hown : w.ownsRow B' 88 2 v n xs) : Wrt B b l e w' := by
  have key : ∀ p, WrtP B b p l e w → WrtP B b p l e w' := fun p ⟨hB, u, h1, h2⟩ => by
    refine ⟨hB, u, (hg.block b (blk_lt h1) (fun e => own_far hown h1 (by decide) e.symm)).trans h1, hg.other _ _ _ _ _ _ ?_ h2⟩
    exact Rws.apart h2 hown (by decide)
  rcases h with h | h
  · exact Or.inl (key _ h)
  · exact Or.inr (key _ h)
/-- What stands while a component is written. -/
def TxS (w : World) (b q : Nat) (s : WS) (v : Value) (K : Stk) (cs : List Value) (wr : World) : Prop := Wrt b b s.1 s.2 wr ∧ RowO b wr v K ∧ Ob q wr cs 63 ∧ Below w.heap.size w wr ∧ w.heap.size ≤ b
theorem TxS.alloc {w : World} {b q : Nat} {s : WS} {v : Value} {K : Stk} {cs : List Value} {wr : World} (h : TxS w b q s v K cs wr) (o : Obj) : TxS w b q s v K cs (wr.alloc o) := by
  have hb := (Below.refl wr.heap.size wr).alloc (Nat.le_refl _) o
  exact ⟨h.1.below hb, h.2.1.below hb, h.2.2.1.below hb, bstep h.2.2.2.1 hb, h.2.2.2.2⟩
theorem TxS.put {w : World} {b q : Nat} {s s' : WS} {v : Value} {K : Stk} {cs : List Value} {wr w' : World} (h : TxS w b q s v K cs wr) (hq : WrtQ b b s' wr w') : TxS w b q s' v K cs w' := by
  obtain ⟨h1, h2, h3, h4, h5⟩ := h
  obtain ⟨p, u, _, hbk, _⟩ := h1.any
  refine ⟨hq.1, h2.kept (own_far h2 hbk (by decide)) hq.2.2, h3.kept (by decide) ?_ hq.2.2, h4.trans (hq.2.1.mono h5), h5⟩
  rintro rfl
  rw [Ob] at h3
  rw [h3] at hbk
  injection hbk with e
  injection e with _ e _
  revert e
  decide
theorem TxS.app {w : World} {b q : Nat} {s : WS} {v v' : Value} {K K' : Stk} {cs : List Value} {wr w' : World} (h : TxS w b q s v K cs wr) (hg : Grew b v wr w') (hr : RowO b w' v' K') : TxS w b q s v' K' cs w' := by
  obtain ⟨h1, h2, h3, h4, h5⟩ := h
  exact ⟨h1.grew hg h2, hr, h3.grew hg (own_far h2 h3 (by decide)), hg.below _ _ h5 h4 h4.size, h5⟩
/-! ### Plain words -/
theorem foldR_ne (S : List UInt8) (room : Nat) : ∀ f, Fld.foldG f S room ≠ []
  | 0 => by simp [Fld.foldG]
  | f + 1 => by rw [Fld.foldG]; split <;> simp
/-- Written, or told why not. -/
def WrOk (s : WS) : Prop := s.2 = 0 → s.1 ≠ []
theorem put_ok (s : WS) (l : LV) : WrOk (putW s l) := by
  intro h
  rw [putW] at h ⊢
  split at h
  · rename_i hs; exact absurd h hs
  · rename_i hs
    rw [if_neg hs]
    split at h
    · exact absurd h (by simp)
    · rename_i h2
      rw [if_neg h2]
      split at h
      · exact absurd h (by simp)
      · rename_i h3
        rw [if_neg h3]
        split at h
        · exact absurd h (by simp)
        · rename_i h4
          rw [if_neg h4]
          have : Fld.foldL (lineF l) ≠ [] := foldR_ne _ _ _
          simp [this]
theorem foldl_ok {α : Type} (f : WS → α → WS) (hf : ∀ s x, WrOk (f s x)) : ∀ (xs : List α) (s : WS), WrOk s → WrOk (xs.foldl f s)
  | [], _, h => h
  | x :: xs, s, _ => foldl_ok f hf xs _ (hf s x)
theorem foldl_len {α : Type} (f : WS → α → WS) (hf : ∀ s x, s.1.length ≤ 600000 → (f s x).1.length ≤ 600000) : ∀ (xs : List α) (s : WS), s.1.length ≤ 600000 → (xs.foldl f s).1.length ≤ 600000
  | [], _, h => h
  | x :: xs, s, h => foldl_len f hf xs _ (hf s x h)
theorem cmp_ok (L : List CV) (i : Int) (K : Stk) (s : WS) (c : CV) : WrOk (cmpW L i K s c) :=
  foldl_ok _ (fun s _ => put_ok s _) _ _ (foldl_ok _ put_ok _ _ (put_ok _ _))
theorem cmp_len (L : List CV) (i : Int) (K : Stk) (s : WS) (c : CV) (h : s.1.length ≤ 600000) : (cmpW L i K s c).1.length ≤ 600000 :=
  foldl_len _ (fun s _ hs => put_len s _ hs) _ _ (foldl_len _ (fun s x hs => put_len s x hs) _ _ (put_len _ _ h))
/-- What holds ahead of each component. -/
def TxI (L : List CV) (n k : Nat) (K : Stk) (s R : WS) : Prop := (∃ Kc, lvK Kc k = K ∧ chkG k Kc (L.drop k) = true) ∧ K.length ≤ 8 ∧ (∀ x ∈ K, (∃ a : Nat, x.1 = a ∧ a < n) ∧ 0 ≤ x.2 ∧ x.2 ≤ n) ∧ s.2 = 0 ∧ s.1.length ≤ 600000 ∧ (0 < k → s.1 ≠ []) ∧ txG L k K s (L.drop k) = R
theorem top_le {n : Nat} {K : Stk} (h : ∀ x ∈ K, (∃ a : Nat, x.1 = a ∧ a < n) ∧ 0 ≤ x.2 ∧ x.2 ≤ n) : topE K ≤ n := by
  cases K with
  | nil => show (0 : Int) ≤ n; omega
  | cons x K => exact (h x (by simp)).2.2
theorem TxI.step {L : List CV} {n k : Nat} {K : Stk} {s R : WS} (h : TxI L n k K s R) (hn : L.length = n) (hk : k < L.length) (h0 : k = 0 → L[k].own = (n : Int) - 1) :
    (0 ≤ L[k].own ∧ L[k].own ≤ n) ∧ K.length ≤ 7 ∧ ((cmpW L k K s L[k]).2 ≠ 0 → R = ([], (cmpW L k K s L[k]).2)) ∧ ((cmpW L k K s L[k]).2 = 0 → TxI L n (k + 1) (lvK (((k : Int), (k : Int) + 1 + L[k].own) :: K) ((k : Int) + 1)) (cmpW L k K s L[k]) R) := by
  obtain ⟨⟨Kc, hKc, hchk⟩, hm, hx, he, hl, hne, hR⟩ := h
  rw [chk_drop hk, Bool.and_eq_true] at hchk
  obtain ⟨hst, hnx⟩ := hchk
  rw [hKc] at hnx
  rw [stpB, hKc, Bool.and_eq_true, Bool.and_eq_true, Bool.and_eq_true] at hst
  obtain ⟨hs1, hs2, hs3, _⟩ := hst
  have ho : 0 ≤ L[k].own := of_decide_eq_true hs1
  have h8 : ¬ K.length = 8 := by simpa using hs3
  have htop := top_le hx
  have hle : L[k].own ≤ (n : Int) - k - 1 := by
    by_cases hk0 : k = 0
    · have := h0 hk0; omega
    · have : L[k].own ≤ topE K - k - 1 := by
        rw [Bool.or_eq_true] at hs2
        rcases hs2 with q | q
        · have := of_decide_eq_true q; omega
        · exact of_decide_eq_true q
      omega
  rw [List.drop_eq_getElem_cons hk, txG] at hR
  refine ⟨⟨ho, by omega⟩, by omega, fun q => by rw [← hR, if_pos q], fun q => ?_⟩
  rw [if_neg (by simpa using q)] at hR
  refine ⟨⟨_, rfl, hnx⟩, ?_, ?_, q, cmp_len L k K s _ hl, fun _ => cmp_ok L k K s _ q, hR⟩
  · have := lv_len (((k : Int), (k : Int) + 1 + L[k].own) :: K) ((k : Int) + 1)
    simp only [List.length_cons] at this
    omega
  · intro x hx'
    rcases List.mem_cons.1 ((List.dropWhile_sublist _).subset hx') with rfl | h'
    · exact ⟨⟨k, rfl, by omega⟩, by simp only; omega, by simp only; omega⟩
    · exact hx x h'
end Tre
end Go.Proofs.Ytdakpncfophjnaa
