/-
  Several texts in one (DpR, LinO).
-/
import Derived.Test.YtdakpncfophjnaaFlat
import Derived.Test.YtdakpncfophjnaaBdAF
/-
  Slices of whatever elements that came in, opened.
-/
namespace Go.Proofs.Ytdakpncfophjnaa
open Go.RowKit Go.Deep Go.ChangeShapes Go.WideShapes
namespace Flat
section
variable {H : Type} {enc : TypeId × Value → H} {P : Program} {W : World} {base : Nat} {spare : Nat → Bool} {held : Bool}
theorem blk_lt {w : World} {b off : Nat} {v : Value} (h : w.cell? ⟨b, off, none⟩ = some v) : b < w.heap.size := by
  rcases Nat.lt_or_ge b w.heap.size with hl | hl
  · exact hl
  · have e : w.cell? ⟨b, off, none⟩ = none := by
      unfold World.cell?
      rw [Array.getElem?_eq_none hl]
    rw [e] at h
    cases h
/-- A cell that reads at a slice's type: its elements' cells lie in one block, each element reads at its type. -/
theorem open_rows {t e : TypeId} {fuel : Nat} {v : Value} {x : DataW H × List MemPlace} (ht : P.underlying t = some (.slice e)) (hk : 0 < P.cellsOf e)
    (h : DataW.trod enc P W base spare held fuel t [v] = some x) : ∃ A n c, v = .slice A n c ∧ n ≤ maxLen ∧ ∀ j, j < n → ∃ b off cs, A = some ⟨b, off, none⟩ ∧ b < W.heap.size ∧ cs.length = P.cellsOf e ∧ (∀ (i : Nat) u, cs[i]? = some u → W.cell? ⟨b, off + j * P.cellsOf e + i, none⟩ = some u) ∧ ∃ m y, DataW.trod enc P W base spare held m e cs = some y := by
  rcases DataW.trod_slice ht h with ⟨hcs, _⟩ | ⟨a, len, cap, elems, rest, m, _, hcs, _, _, hl, hm, hel, hi, _⟩
  · obtain rfl : v = .slice none 0 0 := by simpa using hcs
    exact ⟨none, 0, 0, rfl, Nat.zero_le _, fun j hj => by omega⟩
  · obtain rfl : v = .slice (some a) len cap := by simpa using hcs
    have key : ∀ j, j < len → ∃ cs, cs.length = P.cellsOf e ∧ (∀ i, i < P.cellsOf e → W.cell? ((a.add (j * P.cellsOf e)).add i) = cs[i]?) ∧ ∃ m y, DataW.trod enc P W base spare held m e cs = some y := fun j hj => by
      have h1 := hi j hj
      rw [List.getElem?_eq_getElem (by omega)] at h1
      obtain ⟨cs, h2, h3⟩ := Option.bind_eq_some_iff.1 h1
      unfold World.cells? at h2
      split at h2
      case isFalse => cases h2
      case isTrue => exact ⟨cs, by have := mapM_some_length h2; simpa using this, fun i hi => mapM_some_get h2 i i (by simp [hi]), m, _, h3⟩
    refine ⟨some a, len, cap, rfl, Nat.le_trans hl hm, fun j hj => ?_⟩
    obtain ⟨cs0, l0, g0, _⟩ := key 0 (by omega)
    obtain ⟨cs, hlen, hget, hm2⟩ := key j hj
    obtain ⟨bl, off, spot⟩ := a
    have h0 := g0 0 hk
    rw [List.getElem?_eq_getElem (by omega)] at h0
    have hspot : spot = none := by simpa [Addr.add] using World.cell?_spot h0
    subst hspot
    have h1 := hget 0 hk
    rw [List.getElem?_eq_getElem (by omega), Go.WideShapes.add_plain, Go.WideShapes.add_plain] at h1
    refine ⟨bl, off, cs, rfl, blk_lt h1, hlen, fun i u hu => ?_, hm2⟩
    have hi2 : i < cs.length := by
      rcases Nat.lt_or_ge i cs.length with q | q
      · exact q
      · rw [List.getElem?_eq_none q] at hu; cases hu
    have := hget i (by omega)
    rw [Go.WideShapes.add_plain, Go.WideShapes.add_plain] at this
    rw [this]; exact hu
theorem arr3 {cs : Array Value} (h : cs.size = 3) : ∃ c0 c1 c2, cs = #[c0, c1, c2] := by
  obtain ⟨l⟩ := cs
  match l, h with
  | [c0, c1, c2], _ => exact ⟨_, _, _, rfl⟩
/-- A leaf. -/
theorem leaf_s {t : TypeId} {fuel : Nat} {v : Value} {x : DataW H × List MemPlace} (ht : P.underlying t = some .string) (h : DataW.trod enc P W base spare held fuel t [v] = some x) : ∃ s : List UInt8, v = .string ⟨s.toArray⟩ ∧ s.length ≤ maxLen := by
  obtain ⟨s, hs, _, hw⟩ := DataW.trod_string ht h
  refine ⟨s.data.toList, by simpa using hs, ?_⟩
  have : s.data.toList.length = s.size := by simp
  rw [this]; exact hw
theorem leaf_i {t : TypeId} {k : IntKind} {fuel : Nat} {v : Value} {x : DataW H × List MemPlace} (ht : P.underlying t = some (.int k)) (h : DataW.trod enc P W base spare held fuel t [v] = some x) : ∃ n, v = .int k n ∧ (Lit.int k n).wf = true := by
  obtain ⟨n, hn, _, hw⟩ := DataW.trod_int ht h
  exact ⟨n, by simpa using hn, hw⟩
theorem leaf_b {t : TypeId} {fuel : Nat} {v : Value} {x : DataW H × List MemPlace} (ht : P.underlying t = some .bool) (h : DataW.trod enc P W base spare held fuel t [v] = some x) : ∃ b, v = .bool b := by
  obtain ⟨n, hn, _⟩ := DataW.trod_bool ht h
  exact ⟨n, by simpa using hn⟩
end
end Flat
end Go.Proofs.Ytdakpncfophjnaa
/-
  Lines that came in, opened: their parameters read as plain lists.
-/
namespace Go.Proofs.Ytdakpncfophjnaa
open Go.RowKit Go.Deep Go.ChangeShapes Go.WideShapes
namespace Lin
open Opn (TxtV)
theorem list_of {α : Type} {Q : Nat → α → Prop} : ∀ (n : Nat), (∀ j, j < n → ∃ a, Q j a) → ∃ L : List α, L.length = n ∧ ∀ (j : Nat) (hj : j < L.length), Q j L[j]
  | 0, _ => ⟨[], rfl, fun j hj => by simp at hj⟩
  | n + 1, h => by
    obtain ⟨L, hl, hL⟩ := list_of n (fun j hj => h j (Nat.lt_succ_of_lt hj))
    obtain ⟨a, ha⟩ := h n (Nat.lt_succ_self n)
    refine ⟨L ++ [a], by simp [hl], fun j hj => ?_⟩
    by_cases q : j < L.length
    · rw [List.getElem_append_left q]; exact hL j q
    · have : j = n := by simp at hj; omega
      subst this
      have : (L ++ [a])[j] = a := by simp [← hl]
      rw [this]; exact ha
section
variable {H : Type} {enc : TypeId × Value → H} {W : World} {base : Nat} {spare : Nat → Bool} {held : Bool}
theorem open_texts {fuel : Nat} {v : Value} {x : DataW H × List MemPlace} (h : DataW.trod enc Try.prog W base spare held fuel 32 [v] = some x) : ∃ L, TxtV W v L ∧ L.length ≤ maxLen ∧ ∀ s ∈ L, s.length ≤ maxLen := by
  obtain ⟨A, n, c, rfl, hn, hj⟩ := Flat.open_rows Try.underlying32 (of_decide_eq_true (by kernel_rfl)) h
  have ke : Try.prog.cellsOf 9 = 1 := by kernel_rfl
  rw [ke] at hj
  obtain ⟨L, hl, hL⟩ := list_of (Q := fun j (s : List UInt8) => s.length ≤ maxLen ∧ ∃ b off, A = some ⟨b, off, none⟩ ∧ b < W.heap.size ∧ W.cell? ⟨b, off + j, none⟩ = some (.string ⟨s.toArray⟩)) n (fun j hjn => by
    obtain ⟨b, off, cs, hA, hb, hlen, hc, m, y, hy⟩ := hj j hjn
    match cs, hlen with
    | [u], _ =>
      obtain ⟨s, rfl, hs⟩ := Flat.leaf_s Try.underlying9 hy
      exact ⟨s, hs, b, off, hA, hb, by have := hc 0 _ rfl; rwa [Nat.mul_one, Nat.add_zero] at this⟩)
  refine ⟨L, ⟨A, n, c, rfl, hl.symm, fun j hj => (hL j hj).2⟩, by omega, fun s hs => ?_⟩
  obtain ⟨j, hj, rfl⟩ := List.mem_iff_getElem.1 hs
  exact (hL j hj).1
theorem open_pars {fuel : Nat} {v : Value} {x : DataW H × List MemPlace} (h : DataW.trod enc Try.prog W base spare held fuel 22 [v] = some x) : ∃ ps, ParsV W v ps ∧ BdP ps := by
  obtain ⟨A, n, c, rfl, hn, hj⟩ := Flat.open_rows Try.underlying22 (of_decide_eq_true (by kernel_rfl)) h
  have ke : Try.prog.cellsOf 45 = 2 := by kernel_rfl
  rw [ke] at hj
  obtain ⟨L, hl, hL⟩ := list_of (Q := fun j (p : PV) => (p.nm.length ≤ maxLen ∧ p.vs.length ≤ maxLen ∧ ∀ v ∈ p.vs, v.length ≤ maxLen) ∧ ∃ b off sv, A = some ⟨b, off, none⟩ ∧ b < W.heap.size ∧ W.cell? ⟨b, off + j * 2, none⟩ = some (.string ⟨p.nm.toArray⟩) ∧ W.cell? ⟨b, off + j * 2 + 1, none⟩ = some sv ∧ TxtV W sv p.vs) n (fun j hjn => by
    obtain ⟨b, off, cs, hA, hb, hlen, hc, m, y, hy⟩ := hj j hjn
    match cs, hlen with
    | [u, sv], _ =>
      have lv := (Flat.leaves_at 4 45 [9, 32] (by kernel_rfl) m [u, sv] _ hy).2
      obtain ⟨_, _, h0⟩ := lv 0 _ _ rfl rfl
      obtain ⟨_, _, h1⟩ := lv 1 _ _ rfl rfl
      obtain ⟨s, rfl, hs⟩ := Flat.leaf_s Try.underlying9 h0
      obtain ⟨V, hV, b1, b2⟩ := open_texts h1
      exact ⟨⟨s, V⟩, ⟨hs, b1, b2⟩, b, off, sv, hA, hb, hc 0 _ rfl, hc 1 _ rfl, hV⟩)
  refine ⟨L, ⟨A, n, c, rfl, hl.symm, fun j hj => (hL j hj).2⟩, by omega, fun p hp => ?_⟩
  obtain ⟨j, hj, rfl⟩ := List.mem_iff_getElem.1 hp
  exact (hL j hj).1
end
/-! ### How long a light line's text is -/
theorem vs_lenL : ∀ (m : UInt8) (vs : List (List UInt8)), (∀ v ∈ vs, v.length ≤ 200) → (vsT m vs).length ≤ vs.length * 203
  | _, [], _ => Nat.le_refl _
  | m, v :: vs, h => by
    have h1 := vs_lenL 44 vs (fun x hx => h x (by simp [hx]))
    have h2 := h v (by simp)
    have h3 : (valT v).length ≤ v.length + 2 := by
      rw [valT]
      split <;> simp
    rw [vsT]
    simp only [List.length_cons, List.length_append]
    omega
theorem ps_lenL : ∀ (ps : List PV), (∀ p ∈ ps, LightP p) → (psT ps).length ≤ ps.length * 4300
  | [], _ => Nat.le_refl _
  | p :: ps, h => by
    have h1 := ps_lenL ps (fun x hx => h x (by simp [hx]))
    obtain ⟨a1, a2, a3⟩ := h p (by simp)
    have h2 := vs_lenL 61 p.vs a3
    rw [psT, parT]
    simp only [List.length_cons, List.length_append]
    have : p.vs.length * 203 ≤ 20 * 203 := Nat.mul_le_mul_right _ a2
    omega
theorem light_len {l : LV} (h : Light l) : (psT l.ps).length ≤ 86000 ∧ (lineF l).length ≤ 87000 := by
  obtain ⟨h1, h2, h3, h4⟩ := h
  have h5 := ps_lenL l.ps h4
  have : l.ps.length * 4300 ≤ 20 * 4300 := Nat.mul_le_mul_right _ h3
  refine ⟨by omega, ?_⟩
  rw [lineF]
  simp only [List.length_append, List.length_cons]
  omega
theorem light_sml {l : LV} (h : Light l) : ∀ p ∈ l.ps, smlP p := fun p hp => by
  obtain ⟨a1, a2, a3⟩ := h.2.2.2 p hp
  exact ⟨by omega, by omega, fun v hv => by have := a3 v hv; omega⟩
end Lin
end Go.Proofs.Ytdakpncfophjnaa
