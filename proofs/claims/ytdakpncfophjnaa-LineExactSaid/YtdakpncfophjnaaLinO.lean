/-
  Lines that came in, opened: their parameters read as plain lists.
-/
import Derived.Test.YtdakpncfophjnaaDpR
import Derived.Test.YtdakpncfophjnaaLinQ
namespace Go.Proofs.Ytdakpncfophjnaa
open Go.RowKit Go.Deep Go.ChangeShapes Go.WideShapes
namespace Lin
open Opn (TxtV)
theorem list_of {α : Type} {Q : Nat → α → Prop} : ∀ (n : Nat), (∀ j, j < n → ∃ a, Q j a) → ∃ L : List α, L.length = n ∧ ∀ (j : Nat) (hj : j < L.length), Q j L[j]
  | 0, _ => ⟨[], rfl, fun j hj => by simp at hj⟩
  | n + 1, h => by
    obtain ⟨L, hl, hL⟩ := list_of n (fun j hj => h j (Nat.lt_succ_of_lt hj))
    obtain ⟨a, ha⟩ := h n (Nat.lt_succ_self n)
    refine ⟨L ++ [a], by simp [hl], fun j hj => ?_⟩
    by_cases q : j < L.length
    · rw [List.getElem_append_left q]; exact hL j q
    · have : j = n := by simp at hj; omega
      subst this
      have : (L ++ [a])[j] = a := by simp [← hl]
      rw [this]; exact ha
section
variable {H : Type} {enc : TypeId × Value → H} {W : World} {base : Nat} {spare : Nat → Bool} {held : Bool}
theorem open_texts {fuel : Nat} {v : Value} {x : DataW H × List MemPlace} (h : DataW.trod enc Try.prog W base spare held fuel 32 [v] = some x) : ∃ L, TxtV W v L ∧ L.length ≤ maxLen ∧ ∀ s ∈ L, s.length ≤ maxLen := by
  obtain ⟨A, n, c, rfl, hn, hj⟩ := Flat.open_rows Try.underlying32 (of_decide_eq_true (by kernel_rfl)) h
  have ke : Try.prog.cellsOf 9 = 1 := by kernel_rfl
  rw [ke] at hj
  obtain ⟨L, hl, hL⟩ := list_of (Q := fun j (s : List UInt8) => s.length ≤ maxLen ∧ ∃ b off, A = some ⟨b, off, none⟩ ∧ b < W.heap.size ∧ W.cell? ⟨b, off + j, none⟩ = some (.string ⟨s.toArray⟩)) n (fun j hjn => by
    obtain ⟨b, off, cs, hA, hb, hlen, hc, m, y, hy⟩ := hj j hjn
    match cs, hlen with
    | [u], _ =>
      obtain ⟨s, rfl, hs⟩ := Flat.leaf_s Try.underlying9 hy
      exact ⟨s, hs, b, off, hA, hb, by have := hc 0 _ rfl; rwa [Nat.mul_one, Nat.add_zero] at this⟩)
  refine ⟨L, ⟨A, n, c, rfl, hl.symm, fun j hj => (hL j hj).2⟩, by omega, fun s hs => ?_⟩
  obtain ⟨j, hj, rfl⟩ := List.mem_iff_getElem.1 hs
  exact (hL j hj).1
theorem open_pars {fuel : Nat} {v : Value} {x : DataW H × List MemPlace} (h : DataW.trod enc Try.prog W base spare held fuel 22 [v] = some x) : ∃ ps, ParsV W v ps ∧ BdP ps := by
  obtain ⟨A, n, c, rfl, hn, hj⟩ := Flat.open_rows Try.underlying22 (of_decide_eq_true (by kernel_rfl)) h
  have ke : Try.prog.cellsOf 45 = 2 := by kernel_rfl
  rw [ke] at hj
  obtain ⟨L, hl, hL⟩ := list_of (Q := fun j (p : PV) => (p.nm.length ≤ maxLen ∧ p.vs.length ≤ maxLen ∧ ∀ v ∈ p.vs, v.length ≤ maxLen) ∧ ∃ b off sv, A = some ⟨b, off, none⟩ ∧ b < W.heap.size ∧ W.cell? ⟨b, off + j * 2, none⟩ = some (.string ⟨p.nm.toArray⟩) ∧ W.cell? ⟨b, off + j * 2 + 1, none⟩ = some sv ∧ TxtV W sv p.vs) n (fun j hjn => by
    obtain ⟨b, off, cs, hA, hb, hlen, hc, m, y, hy⟩ := hj j hjn
    match cs, hlen with
    | [u, sv], _ =>
      have lv := (Flat.leaves_at 4 45 [9, 32] (by kernel_rfl) m [u, sv] _ hy).2
      obtain ⟨_, _, h0⟩ := lv 0 _ _ rfl rfl
      obtain ⟨_, _, h1⟩ := lv 1 _ _ rfl rfl
      obtain ⟨s, rfl, hs⟩ := Flat.leaf_s Try.underlying9 h0
      obtain ⟨V, hV, b1, b2⟩ := open_texts h1
      exact ⟨⟨s, V⟩, ⟨hs, b1, b2⟩, b, off, sv, hA, hb, hc 0 _ rfl, hc 1 _ rfl, hV⟩)
  refine ⟨L, ⟨A, n, c, rfl, hl.symm, fun j hj => (hL j hj).2⟩, by omega, fun p hp => ?_⟩
  obtain ⟨j, hj, rfl⟩ := List.mem_iff_getElem.1 hp
  exact (hL j hj).1
end
/-! ### How long a light line's text is -/
theorem vs_lenL : ∀ (m : UInt8) (vs : List (List UInt8)), (∀ v ∈ vs, v.length ≤ 200) → (vsT m vs).length ≤ vs.length * 203
  | _, [], _ => Nat.le_refl _
  | m, v :: vs, h => by
    have h1 := vs_lenL 44 vs (fun x hx => h x (by simp [hx]))
    have h2 := h v (by simp)
    have h3 : (valT v).length ≤ v.length + 2 := by
      rw [valT]
      split <;> simp
    rw [vsT]
    simp only [List.length_cons, List.length_append]
    omega
theorem ps_lenL : ∀ (ps : List PV), (∀ p ∈ ps, LightP p) → (psT ps).length ≤ ps.length * 4300
  | [], _ => Nat.le_refl _
  | p :: ps, h => by
    have h1 := ps_lenL ps (fun x hx => h x (by simp [hx]))
    obtain ⟨a1, a2, a3⟩ := h p (by simp)
    have h2 := vs_lenL 61 p.vs a3
    rw [psT, parT]
    simp only [List.length_cons, List.length_append]
    have : p.vs.length * 203 ≤ 20 * 203 := Nat.mul_le_mul_right _ a2
    omega
theorem light_len {l : LV} (h : Light l) : (psT l.ps).length ≤ 86000 ∧ (lineF l).length ≤ 87000 := by
  obtain ⟨h1, h2, h3, h4⟩ := h
  have h5 := ps_lenL l.ps h4
  have : l.ps.length * 4300 ≤ 20 * 4300 := Nat.mul_le_mul_right _ h3
  refine ⟨by omega, ?_⟩
  rw [lineF]
  simp only [List.length_append, List.length_cons]
  omega
theorem light_sml {l : LV} (h : Light l) : ∀ p ∈ l.ps, smlP p := fun p hp => by
  obtain ⟨a1, a2, a3⟩ := h.2.2.2 p hp
  exact ⟨by omega, by omega, fun v hv => by have := a3 v hv; omega⟩
end Lin
end Go.Proofs.Ytdakpncfophjnaa
