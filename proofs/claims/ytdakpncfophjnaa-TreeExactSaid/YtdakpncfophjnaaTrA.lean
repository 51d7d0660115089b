/-
  Package tree: lists of lines and of components, what they read as; stacks that a call owns; leave, Kids.
-/
import Derived.Test.YtdakpncfophjnaaTrM
import Derived.Test.YtdakpncfophjnaaAppX
namespace Go.Proofs.Ytdakpncfophjnaa
open Go.RowKit
namespace Tre
open Lin CutB Cel Ap
open Opn (TxtV)
def LinsV (w : World) (v : Value) (L : List LV) : Prop := ∃ a n c, v = .slice a n c ∧ n = L.length ∧ ∀ (j : Nat) (hj : j < L.length), ∃ b off sv, a = some ⟨b, off, none⟩ ∧ b < w.heap.size ∧ w.cell? ⟨b, off + j * 3, none⟩ = some (.string ⟨(L[j]).nm.toArray⟩) ∧ w.cell? ⟨b, off + j * 3 + 1, none⟩ = some sv ∧ w.cell? ⟨b, off + j * 3 + 2, none⟩ = some (.string ⟨(L[j]).vl.toArray⟩) ∧ ParsV w sv (L[j]).ps
theorem LinsV.below {w w' : World} {v : Value} {L : List LV} (h : LinsV w v L) (hb : Below w.heap.size w w') : LinsV w' v L := by
  obtain ⟨a, n, c, rfl, hn, h⟩ := h
  refine ⟨a, n, c, rfl, hn, fun j hj => ?_⟩
  obtain ⟨b, off, sv, h1, h2, h3, h4, h5, h6⟩ := h j hj
  exact ⟨b, off, sv, h1, Nat.lt_of_lt_of_le h2 hb.size, (hb.cell (p := ⟨b, _, none⟩) h2).trans h3, (hb.cell (p := ⟨b, _, none⟩) h2).trans h4, (hb.cell (p := ⟨b, _, none⟩) h2).trans h5, h6.below hb⟩
theorem LinsV.form {w : World} {v : Value} {L : List LV} (h : LinsV w v L) (h0 : 0 < L.length) : ∃ b off c, v = .slice (some ⟨b, off, none⟩) L.length c ∧ b < w.heap.size ∧ ∀ (j : Nat) (hj : j < L.length), ∃ sv, w.cell? ⟨b, off + j * 3, none⟩ = some (.string ⟨(L[j]).nm.toArray⟩) ∧ w.cell? ⟨b, off + j * 3 + 1, none⟩ = some sv ∧ w.cell? ⟨b, off + j * 3 + 2, none⟩ = some (.string ⟨(L[j]).vl.toArray⟩) ∧ ParsV w sv (L[j]).ps := by
  obtain ⟨a, n, c, rfl, rfl, h⟩ := h
  obtain ⟨b, off, sv, rfl, h2, _⟩ := h 0 h0
  refine ⟨b, off, c, rfl, h2, fun j hj => ?_⟩
  obtain ⟨b', off', sv', e, _, h3, h4, h5, h6⟩ := h j hj
  injection e with e
  injection e with e1 e2 _
  subst e1 e2
  exact ⟨sv', h3, h4, h5, h6⟩
theorem LinsV.slice {w : World} {v : Value} {L : List LV} (h : LinsV w v L) : ∃ a c, v = .slice a L.length c := by
  obtain ⟨a, n, c, rfl, rfl, _⟩ := h
  exact ⟨a, c, rfl⟩
theorem LinsV.none (w : World) : LinsV w (.slice none 0 0) [] := ⟨_, _, _, rfl, rfl, fun j hj => by simp at hj⟩
def CmpsV (w : World) (v : Value) (L : List CV) : Prop := ∃ a n c, v = .slice a n c ∧ n = L.length ∧ ∀ (j : Nat) (hj : j < L.length), ∃ b off sv, a = some ⟨b, off, none⟩ ∧ b < w.heap.size ∧ w.cell? ⟨b, off + j * 3, none⟩ = some (.string ⟨(L[j]).nm.toArray⟩) ∧ w.cell? ⟨b, off + j * 3 + 1, none⟩ = some sv ∧ w.cell? ⟨b, off + j * 3 + 2, none⟩ = some (.int .i64 (L[j]).own) ∧ LinsV w sv (L[j]).ls
theorem CmpsV.below {w w' : World} {v : Value} {L : List CV} (h : CmpsV w v L) (hb : Below w.heap.size w w') : CmpsV w' v L := by
  obtain ⟨a, n, c, rfl, hn, h⟩ := h
  refine ⟨a, n, c, rfl, hn, fun j hj => ?_⟩
  obtain ⟨b, off, sv, h1, h2, h3, h4, h5, h6⟩ := h j hj
  exact ⟨b, off, sv, h1, Nat.lt_of_lt_of_le h2 hb.size, (hb.cell (p := ⟨b, _, none⟩) h2).trans h3, (hb.cell (p := ⟨b, _, none⟩) h2).trans h4, (hb.cell (p := ⟨b, _, none⟩) h2).trans h5, h6.below hb⟩
/-- What the cells of a list of components hold. -/
def CmpC (w : World) (b off : Nat) (L : List CV) : Prop := ∀ (j : Nat) (hj : j < L.length), ∃ sv, w.cell? ⟨b, off + j * 3, none⟩ = some (.string ⟨(L[j]).nm.toArray⟩) ∧ w.cell? ⟨b, off + j * 3 + 1, none⟩ = some sv ∧ w.cell? ⟨b, off + j * 3 + 2, none⟩ = some (.int .i64 (L[j]).own) ∧ LinsV w sv (L[j]).ls
theorem CmpsV.form {w : World} {v : Value} {L : List CV} (h : CmpsV w v L) (h0 : 0 < L.length) : ∃ b off c, v = .slice (some ⟨b, off, none⟩) L.length c ∧ b < w.heap.size ∧ CmpC w b off L := by
  obtain ⟨a, n, c, rfl, rfl, h⟩ := h
  obtain ⟨b, off, sv, rfl, h2, _⟩ := h 0 h0
  refine ⟨b, off, c, rfl, h2, fun j hj => ?_⟩
  obtain ⟨b', off', sv', e, _, h3, h4, h5, h6⟩ := h j hj
  injection e with e
  injection e with e1 e2 _
  subst e1 e2
  exact ⟨sv', h3, h4, h5, h6⟩
theorem CmpsV.slice {w : World} {v : Value} {L : List CV} (h : CmpsV w v L) : ∃ a c, v = .slice a L.length c := by
  obtain ⟨a, n, c, rfl, rfl, _⟩ := h
  exact ⟨a, c, rfl⟩
theorem CmpsV.none (w : World) : CmpsV w (.slice none 0 0) [] := ⟨_, _, _, rfl, rfl, fun j hj => by simp at hj⟩
/-! ### Stacks -/
def ov (x : Int × Int) : List Value := [.int .i64 x.1, .int .i64 x.2]
def RowO (B : Nat) (w : World) (v : Value) (K : Stk) : Prop := w.ownsRow B 88 2 v K.length (K.reverse.flatMap ov)
theorem RowO.nil (B : Nat) (w : World) : RowO B w (.slice none 0 0) [] := World.ownsRow_nil _ _ _ _
theorem RowO.below {B : Nat} {w w' : World} {v : Value} {K : Stk} (h : RowO B w v K) (hb : Below w.heap.size w w') : RowO B w' v K := own_below h hb
theorem RowO.forms {B : Nat} {w : World} {v : Value} {K : Stk} (h : RowO B w v K) : ∃ A c, v = .slice A K.length c := by
  rcases h.2 with ⟨h1, h2⟩ | ⟨g, cap, cur, h1, _⟩
  · exact ⟨none, 0, by rw [h1, h2]⟩
  · exact ⟨_, _, h1⟩
theorem ov_get : ∀ (L : List (Int × Int)) (j : Nat) (hj : j < L.length), (L.flatMap ov)[j * 2]? = some (.int .i64 (L[j]).1) ∧ (L.flatMap ov)[j * 2 + 1]? = some (.int .i64 (L[j]).2)
  | x :: L, 0, _ => ⟨rfl, rfl⟩
  | x :: L, j + 1, hj => by
    have h := ov_get L j (by simpa using hj)
    have e1 : (j + 1) * 2 = j * 2 + 1 + 1 := by omega
    rw [e1]
    exact h
theorem RowO.at {B : Nat} {w : World} {v : Value} {K : Stk} (h : RowO B w v K) (h0 : 0 < K.length) : ∃ g c, v = .slice (some ⟨g, 0, none⟩) K.length c ∧ B ≤ g ∧ g < w.heap.size ∧ ∀ (j : Nat) (hj : j < K.reverse.length), w.cell? ⟨g, j * 2, none⟩ = some (.int .i64 (K.reverse[j]).1) ∧ w.cell? ⟨g, j * 2 + 1, none⟩ = some (.int .i64 (K.reverse[j]).2) := by
  obtain ⟨g, c, rfl, hb, hl⟩ := World.ownsRow.form h h0
  refine ⟨g, c, rfl, hb, hl, fun j hj => ?_⟩
  have hj' : j < K.length := by simpa using hj
  obtain ⟨e1, e2⟩ := ov_get K.reverse j hj
  exact ⟨by rw [World.ownsRow.cellAt h (j * 2) (by omega), e1], by rw [World.ownsRow.cellAt h (j * 2 + 1) (by omega), e2]⟩
theorem RowO.top {B : Nat} {w : World} {v : Value} {x : Int × Int} {K : Stk} (h : RowO B w v (x :: K)) : ∃ g c, v = .slice (some ⟨g, 0, none⟩) (K.length + 1) c ∧ B ≤ g ∧ g < w.heap.size ∧ w.cell? ⟨g, K.length * 2, none⟩ = some (.int .i64 x.1) ∧ w.cell? ⟨g, K.length * 2 + 1, none⟩ = some (.int .i64 x.2) := by
  obtain ⟨g, c, rfl, hb, hl, hc⟩ := h.at (by simp)
  refine ⟨g, c, rfl, hb, hl, ?_⟩
  have := hc K.length (by simp)
  simpa using this
theorem RowO.pop {B : Nat} {w : World} {g c : Nat} {x : Int × Int} {K : Stk} (h : RowO B w (.slice (some ⟨g, 0, none⟩) (K.length + 1) c) (x :: K)) : RowO B w (.slice (some ⟨g, 0, none⟩) K.length c) K := by
  unfold RowO at h ⊢
  rw [List.reverse_cons, List.flatMap_append] at h
  have hl : (K.reverse.flatMap ov).length = K.length * 2 := by
    have : ∀ L : List (Int × Int), (L.flatMap ov).length = L.length * 2 := fun L => by
      induction L with
      | nil => rfl
      | cons x L ih => rw [List.flatMap_cons, List.length_append, ih]; simp [ov]; omega
    rw [this]; simp
  exact ownsRow_pop hl h
theorem lv_cons (x : Int × Int) (K : Stk) (i : Int) : lvK (x :: K) i = if x.2 = i then lvK K i else x :: K := by
  rw [lvK, List.dropWhile_cons]
  by_cases h : x.2 = i
  · rw [if_pos h, if_pos (by simpa using h)]; rfl
  · rw [if_neg h, if_neg (by simpa using h)]
theorem lv_len (K : Stk) (i : Int) : (lvK K i).length ≤ K.length := by
  induction K with
  | nil => exact Nat.le_refl _
  | cons x K ih =>
    rw [lv_cons]
    split
    · simp; omega
    · exact Nat.le_refl _
def lenOf : Value → Nat
  | .slice _ n _ => n
  | _ => 0
/-- What leave hands back: the same row, cut. -/
def LvQ (B : Nat) (A : Option Addr) (c : Nat) (K : Stk) (w : World) (e : Ending) (w' : World) : Prop := e = .returned (.slice A K.length c) ∧ RowO B w (.slice A K.length c) K ∧ w = w'
set_option maxHeartbeats 3200000 in
set_option maxRecDepth 100000 in
theorem lv_to (B : Nat) (A : Option Addr) (n c : Nat) (K K' : Stk) (i : Int) (w : World) (h : RowO B w (.slice A n c) K) (hn : n ≤ 1000000) (hK : Hid (lvK K i = K')) :
    Calls Try.prog 55 #[.slice A n c, .int .i64 i] w (LvQ B A c K' w) := by
  have hnK : n = K.length := by obtain ⟨A', c', e⟩ := h.forms; injection e
  have H0 := Lib.hid h
  have HNK := Lib.hid hnK
  clear h hnK
  go_enter Try.func55, Try.ntmps55
  go_wp2
  go_loopw [0] (fun sv wr => ∃ (L : Stk) (m : Nat), sv = .slice A m c ∧ m ≤ n ∧ Hid (L.length = m) ∧ Hid (lvK L i = K') ∧ Hid (RowO B w (.slice A m c) L) ∧ w = wr) (fun sv _ => lenOf sv)
  case atStart => exact ⟨K, n, rfl, Nat.le_refl _, Lib.hid HNK.out.symm, hK, H0, rfl⟩
  case round =>
    obtain ⟨L, m, rfl, hm, hL, hlv, hr, rfl⟩ := hrel
    cases L with
    | nil =>
      have hm0 : (0 : Nat) = m := hL.out
      subst hm0
      have hK0 : [] = K' := hlv.out
      subst hK0
      go_wp2
      go_ret
      exact ⟨rfl, hr.out, rfl⟩
    | cons x L =>
      have hm1 : L.length + 1 = m := hL.out
      subst hm1
      obtain ⟨g, c', hv, hBg, hgl, c0, c1⟩ := hr.out.top
      have hAg : A = some ⟨g, 0, none⟩ := by injection hv
      subst hAg
      obtain ⟨k, hk⟩ : ∃ k, L.length = k := ⟨_, rfl⟩
      have HKK := Lib.hid hk
      rw [hk] at hr hm c0 c1 ⊢
      clear hk hL hv c0
      have hlc := lv_cons x L i
      have hcap : k + 1 ≤ c := (own_cap hr.out).2.1
      have hcap2 : k ≤ c := by omega
      by_cases he : x.2 = i
      · have H1 : Hid (lvK L i = K') := Lib.hid (by rw [← hlv.out, hlc, if_pos he])
        have H2 : Hid (RowO B w (.slice (some ⟨g, 0, none⟩) k c) L) := Lib.hid (by
          have := hr.out
          rw [← HKK.out] at this ⊢
          exact this.pop)
        rw [he] at c1
        clear hlc hlv hr
        go_wp2
        go_roundw
        case rel => exact ⟨L, k, rfl, by omega, HKK, H1, H2, trivial⟩
        case measure => simp [lenOf]
      · have H1 : Hid (x :: L = K') := Lib.hid (by rw [← hlv.out, hlc, if_neg he])
        have hne : (x.2 == i) = false := beq_eq_false_iff_ne.2 he
        clear hlc hlv
        go_wp2
        go_ret
        have e1 : K'.length = k + 1 := by rw [← H1.out, List.length_cons, HKK.out]
        exact ⟨by rw [e1]; rfl, by rw [e1, ← H1.out]; exact hr.out, rfl⟩
end Tre
end Go.Proofs.Ytdakpncfophjnaa
