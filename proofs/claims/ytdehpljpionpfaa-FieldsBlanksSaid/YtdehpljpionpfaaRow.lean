/-
  Rows of bytes and of texts that a call owns: append, cut to nothing, made a text; each keeps the other.
-/
import Derived.Test.YtdehpljpionpfaaEscA
import Derived.Test.YtdehpljpionpfaaEscC
import Derived.Test.YtdehpljpionpfaaTxt
import Derived.Lib.Builder
import Derived.Lib.AppendStr
namespace Go.Proofs.Ytdehpljpionpfaa
open Go.RowKit
namespace Rws
open Opn (sv TxtV)
open Esc (bv)
def RowB (B : Nat) (w : World) (v : Value) (P : List UInt8) : Prop := w.ownsRow B 5 1 v P.length (P.map bv)
def RowS (B : Nat) (w : World) (v : Value) (L : List (List UInt8)) : Prop := w.ownsRow B 9 1 v L.length (L.map sv)
theorem RowB.nil (B : Nat) (w : World) : RowB B w (.slice none 0 0) [] := World.ownsRow_nil _ _ _ _
theorem RowS.nil (B : Nat) (w : World) : RowS B w (.slice none 0 0) [] := World.ownsRow_nil _ _ _ _
theorem RowB.below {B : Nat} {w w' : World} {v : Value} {P : List UInt8} (h : RowB B w v P) (hb : Below w.heap.size w w') : RowB B w' v P := Esc.owns_below h hb
theorem RowS.below {B : Nat} {w w' : World} {v : Value} {P : List (List UInt8)} (h : RowS B w v P) (hb : Below w.heap.size w w') : RowS B w' v P := Esc.owns_below h hb
theorem RowS.txt {B : Nat} {w : World} {v : Value} {L : List (List UInt8)} (h : RowS B w v L) : TxtV w v L := TxtV.of_owns h
theorem RowB.cases {B : Nat} {w : World} {v : Value} {P : List UInt8} (h : RowB B w v P) : (v = .slice none 0 0 ∧ P = []) ∨ ∃ g cap, v = .slice (some ⟨g, 0, none⟩) P.length cap := by
  rcases h.2 with ⟨h1, h2⟩ | ⟨g, cap, cur, hv, _⟩
  · exact Or.inl ⟨h1, List.length_eq_zero_iff.1 h2⟩
  · exact Or.inr ⟨g, cap, hv⟩
theorem RowS.cases {B : Nat} {w : World} {v : Value} {P : List (List UInt8)} (h : RowS B w v P) : (v = .slice none 0 0 ∧ P = []) ∨ ∃ g cap, v = .slice (some ⟨g, 0, none⟩) P.length cap := by
  rcases h.2 with ⟨h1, h2⟩ | ⟨g, cap, cur, hv, _⟩
  · exact Or.inl ⟨h1, List.length_eq_zero_iff.1 h2⟩
  · exact Or.inr ⟨g, cap, hv⟩
/-- Rows of unlike elements lie in unlike blocks. -/
theorem apart {w : World} {B B' : Nat} {e e' : TypeId} {s s' : Nat} {v v' : Value} {n n' : Nat} {xs xs' : List Value} (h : w.ownsRow B e s v n xs) (h' : w.ownsRow B' e' s' v' n' xs') (hne : e ≠ e') : v.ownBlock = none ∨ v.ownBlock ≠ v'.ownBlock := by
  rcases h.2 with ⟨rfl, _⟩ | ⟨g, cap, cur, rfl, _, hg, _⟩
  · exact Or.inl rfl
  · refine Or.inr ?_
    rcases h'.2 with ⟨rfl, _⟩ | ⟨g', cap', cur', rfl, _, hg', _⟩
    · simp [Value.ownBlock]
    · intro e
      simp only [Value.ownBlock, Option.some.injEq] at e
      subst e
      rw [hg] at hg'
      injection hg' with e
      injection e with _ e _
      exact hne e
/-- What an append leaves: what lay below stands; rows of other elements stand. -/
structure Grew (B : Nat) (e : TypeId) (w w' : World) : Prop where
  below : ∀ (B0 : Nat) (W0 : World), B0 ≤ B → Below B0 W0 w → B0 ≤ w.heap.size → Below B0 W0 w'
  other : ∀ (B' : Nat) (e' : TypeId) (s : Nat) (v : Value) (n : Nat) (xs : List Value), e' ≠ e → w.ownsRow B' e' s v n xs → w'.ownsRow B' e' s v n xs
  size : w.heap.size ≤ w'.heap.size
theorem grew_of {B : Nat} {e : TypeId} {w w' : World} {v : Value} {n : Nat} {xs : List Value} {o : Obj} (hown : w.ownsRow B e 1 v n xs) (hg : (w.alloc o).grownBy w' v.ownBlock) : Grew B e w w' where
  below := fun B0 W0 hB hb hw => (hb.alloc hw _).grown hg (by simp; omega) (fun k hk => Nat.le_trans hB (hown.lt k hk).1)
  other := fun B' e' s v' n' xs' hne h' => (h'.alloc o).kept hg (apart h' hown hne)
  size := Nat.le_trans (by simp) hg.size
theorem appB {w : World} {ops : Array Oper} {rest : List Oper} {o : Oper} {a : Act} {Q : Exit → Act → World → Prop} (hgd : o.guard = none) (s x : Operand)
    (ho : o.op = .call { callee := .builtin .append, args := #[s, x], argTypes := #[35, 35] })
    (B : Nat) (v : Value) (P : List UInt8) (hs : a.eval s = v) (hown : RowB B w v P) (c : UInt8) (hx : a.eval x = .slice (some ⟨w.heap.size, 0, none⟩) 1 1)
    (hlen : P.length ≤ 1000000000) (hB : B ≤ w.heap.size)
    (h : ∀ w' g cap, RowB B w' (.slice (some ⟨g, 0, none⟩) (P.length + 1) cap) (P ++ [c]) → Grew B 5 w w' → wpList Try.prog ops Q rest (a.put o.dst (.slice (some ⟨g, 0, none⟩) (P.length + 1) cap)) w') :
    wpList Try.prog ops Q (o :: rest) a (w.alloc (.cells #[.int .u8 (c.toNat : Int)] 5)) := by
  obtain ⟨i0, hi0, hz0, hz1, hz2⟩ := info_parts Esc.iu
  refine wpList_append_own _ hgd s x 35 ho B 5 i0 (.int .u8 0) 1 1 (by kernel_rfl) hi0 hz0 hz1 hz2 rfl (by decide) v P.length _ hs (hown.alloc _) ⟨w.heap.size, 0, none⟩ 1 1 [.int .u8 (c.toNat : Int)] hx rfl ?_ ?_ (by unfold maxLen; omega) (by omega) (by simp; omega) ?_
  · intro j u hj
    match j, hj with
    | 0, hj =>
      simp at hj; subst hj
      rw [show (⟨w.heap.size, 0, none⟩ : Addr).add 0 = ⟨w.heap.size, 0, none⟩ from by simp [Addr.add], World.cell?_alloc_new]
      rfl
  · intro u hu; simp at hu; subst hu; rfl
  · intro v' w' r3 g3 hne
    have r4 : RowB B w' v' (P ++ [c]) := by
      unfold RowB
      rw [List.length_append, List.map_append]
      exact r3
    rcases r4.cases with ⟨_, e⟩ | ⟨g, cap, rfl⟩
    · simp at e
    · rw [List.length_append] at r4
      rw [List.length_append]
      exact h w' g cap r4 (grew_of hown g3)
theorem appS {w : World} {ops : Array Oper} {rest : List Oper} {o : Oper} {a : Act} {Q : Exit → Act → World → Prop} (hgd : o.guard = none) (s x : Operand)
    (ho : o.op = .call { callee := .builtin .append, args := #[s, x], argTypes := #[22, 22] })
    (B : Nat) (v : Value) (L : List (List UInt8)) (hs : a.eval s = v) (hown : RowS B w v L) (t : List UInt8) (y : ByteArray) (hy : y = ⟨t.toArray⟩) (hx : a.eval x = .slice (some ⟨w.heap.size, 0, none⟩) 1 1)
    (hlen : L.length ≤ 1000000000) (hB : B ≤ w.heap.size)
    (h : ∀ w' g cap, RowS B w' (.slice (some ⟨g, 0, none⟩) (L.length + 1) cap) (L ++ [t]) → Grew B 9 w w' → wpList Try.prog ops Q rest (a.put o.dst (.slice (some ⟨g, 0, none⟩) (L.length + 1) cap)) w') :
    wpList Try.prog ops Q (o :: rest) a (w.alloc (.cells #[.string y] 9)) := by
  obtain ⟨i0, hi0, hz0, hz1, hz2⟩ := info_parts Esc.is
  refine wpList_append_own _ hgd s x 22 ho B 9 i0 (.string ⟨#[]⟩) 1 16 (by kernel_rfl) hi0 hz0 hz1 hz2 rfl (by decide) v L.length _ hs (hown.alloc _) ⟨w.heap.size, 0, none⟩ 1 1 [.string y] hx rfl ?_ ?_ (by unfold maxLen; omega) (by omega) (by simp; omega) ?_
  · intro j u hj
    match j, hj with
    | 0, hj =>
      simp at hj; subst hj
      rw [show (⟨w.heap.size, 0, none⟩ : Addr).add 0 = ⟨w.heap.size, 0, none⟩ from by simp [Addr.add], World.cell?_alloc_new]
      rfl
  · intro u hu; simp at hu; subst hu; rfl
  · intro v' w' r3 g3 hne
    have r4 : RowS B w' v' (L ++ [t]) := by
      unfold RowS
      rw [List.length_append, List.map_append]
      subst hy
      exact r3
    rcases r4.cases with ⟨_, e⟩ | ⟨g, cap, rfl⟩
    · simp at e
    · rw [List.length_append] at r4
      rw [List.length_append]
      exact h w' g cap r4 (grew_of hown g3)
theorem grew_of0 {B : Nat} {e : TypeId} {w w' : World} {v : Value} {n : Nat} {xs : List Value} (hown : w.ownsRow B e 1 v n xs) (hg : w.grownBy w' v.ownBlock) : Grew B e w w' where
  below := fun _ _ hB hb hw => hb.grown hg hw (fun k hk => Nat.le_trans hB (hown.lt k hk).1)
  other := fun _ _ _ _ _ _ hne h' => h'.kept hg (apart h' hown hne)
  size := hg.size
/-- append(b, s...). -/
theorem appT {w : World} {ops : Array Oper} {rest : List Oper} {o : Oper} {a : Act} {Q : Exit → Act → World → Prop} (hgd : o.guard = none) (sl x : Operand)
    (ho : o.op = .call { callee := .builtin .append, args := #[sl, x], argTypes := #[35, 9] })
    (B : Nat) (v : Value) (P : List UInt8) (hs : a.eval sl = v) (hown : RowB B w v P) (y : ByteArray) (hx : a.eval x = .string y)
    (hlen : P.length + y.size ≤ 1000000000) (hB : B ≤ w.heap.size)
    (h : ∀ v' w', RowB B w' v' (P ++ y.data.toList) → Grew B 5 w w' → wpList Try.prog ops Q rest (a.put o.dst v') w') :
    wpList Try.prog ops Q (o :: rest) a w := by
  obtain ⟨i0, hi0, hz0, hz1, hz2⟩ := info_parts Esc.iu
  refine Lib.wpList_append_own_string w hgd sl x 35 9 ho B 5 i0 (by kernel_rfl) (by kernel_rfl) hi0 hz0 hz1 hz2 v P.length _ hs hown y hx (by unfold maxLen; omega) (by omega) hB ?_
  intro v' w' r3 g3 _
  have r4 : RowB B w' v' (P ++ y.data.toList) := by
    unfold RowB
    rw [List.length_append, List.map_append]
    have e : y.data.toList.length = y.size := by simp
    rw [e]
    exact r3
  exact h v' w' r4 (grew_of0 hown g3)
/-- A row cut to nothing is still owned. -/
theorem RowB.cut {B g n cap : Nat} {w : World} {P : List UInt8} (h : RowB B w (.slice (some ⟨g, 0, none⟩) n cap) P) : RowB B w (.slice (some ⟨g, 0, none⟩) 0 cap) [] := by
  rcases h.2 with ⟨h1, _⟩ | ⟨g', cap', cur, hv, hB, hg, _, hc, hs, _⟩
  · cases h1
  · injection hv with e1 e2 e3
    injection e1 with e1
    injection e1 with e1
    subst e1 e3
    exact ⟨rfl, Or.inr ⟨g, cap, cur, rfl, hB, hg, Nat.zero_le _, hc, hs, by simp⟩⟩
theorem RowB.empty (B : Nat) (w : World) (hB : B ≤ w.heap.size) : RowB B (w.alloc (.cells #[] 5)) (.slice (some ⟨w.heap.size, 0, none⟩) 0 0) [] :=
  ⟨rfl, Or.inr ⟨w.heap.size, 0, #[], rfl, hB, heap_alloc_new w _, Nat.le_refl _, Nat.zero_le _, rfl, rfl⟩⟩
/-- A row of bytes, made a text. -/
theorem RowB.conv {B : Nat} {w : World} {v : Value} {P : List UInt8} (h : RowB B w v P) : (convert 35 9 v).run Try.prog w = .ok (.string ⟨P.toArray⟩) w := by
  rcases h.cases with ⟨rfl, rfl⟩ | ⟨g, cap, rfl⟩
  · rw [run_convert_bytes_string w 35 9 5 none 0 0 (by kernel_rfl) (by kernel_rfl) (by kernel_rfl)]
    first | rfl | (simp; done) | (simp [loadCells]; done)
  · exact run_convert_bytes_back (P := Try.prog) w 35 9 5 ⟨g, 0, none⟩ cap P (by kernel_rfl) (by kernel_rfl) (by kernel_rfl) (Esc.own_cells h rfl)
theorem bapp (A B : List UInt8) : (⟨A.toArray⟩ : ByteArray) ++ ⟨B.toArray⟩ = ⟨(A ++ B).toArray⟩ := ByteArray.ext (by simp)
theorem cat_data (a b : ByteArray) : (a ++ b).data.toList = a.data.toList ++ b.data.toList := by simp
theorem ba_eq {s : ByteArray} {S : List UInt8} (h : s.data.toList = S) : s = ⟨S.toArray⟩ := ByteArray.ext (Array.toList_inj.1 (by rw [h]))
end Rws
end Go.Proofs.Ytdehpljpionpfaa
