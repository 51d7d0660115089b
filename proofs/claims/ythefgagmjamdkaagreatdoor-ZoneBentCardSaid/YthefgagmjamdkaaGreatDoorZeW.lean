/-
  Rows of eras: written in one place, copied whole; two operations that may come up. (Written by gen/gen_zeh.py.)
-/
import Derived.Test.YthefgagmjamdkaaGreatDoorZeD
import Derived.Test.YthefgagmjamdkaaGreatDoorBdCl
import Derived.Test.YthefgagmjamdkaaGreatDoorZonW
namespace Go.Proofs.YthefgagmjamdkaaGreatDoor
open Go.RowKit
namespace Zon
open Sol Clk Cel Rul Rs

theorem row_set {w : World} {g : Nat} {L : List EV} (hg : g < w.heap.size) (hr : ∀ (j : Nat) (hj : j < L.length), w.rangeAt g (j * 13) (erC L[j])) (k i : Nat) (hk : k < L.length) (hi : i < 13) (u : Value) (e' : EV) (he : erC e' = (erC L[k]).set i u) (c : Nat) :
    ErV (w.setCell ⟨g, k * 13 + i, none⟩ u) (.slice (some ⟨g, 0, none⟩) L.length c) (L.set k e') := by
  have hold : w.cell? ⟨g, k * 13 + i, none⟩ = some ((erC L[k])[i]'(by rw [erC_len]; exact hi)) := hr k hk i _ (List.getElem?_eq_getElem _)
  refine ⟨_, _, c, rfl, by simp, fun j hj => ⟨g, 0, rfl, by simpa [World.setCell] using hg, ?_⟩⟩
  rw [Nat.zero_add]
  intro i' v' hv'
  have hj2 : j < L.length := by simpa using hj
  have hi2 : i' < 13 := by rw [← erC_len (L.set k e')[j]]; exact (List.getElem?_eq_some_iff.1 hv').1
  by_cases e : j = k
  · subst e
    rw [List.getElem_set_self, he] at hv'
    by_cases e2 : i' = i
    · subst e2
      rw [List.getElem?_set_self (by rw [erC_len]; exact hi)] at hv'
      injection hv' with hv'
      subst hv'
      exact World.cell?_setCell_same _ _ _ hold
    · rw [List.getElem?_set_ne (fun q => e2 q.symm)] at hv'
      exact (World.cell?_setCell_other _ _ _ _ (fun q => by injection q with _ q _; omega)).trans (hr j hj2 i' v' hv')
  · rw [List.getElem_set_ne (fun q => e q.symm)] at hv'
    exact (World.cell?_setCell_other _ _ _ _ (fun q => by injection q with _ q _; omega)).trans (hr j hj2 i' v' hv')
theorem infoE : (Tryz.prog.info? 30).map (fun i => (i.zero, i.size, i.bytes)) = some (some (.agg #[.int .i64 0, .int .i64 0, .int .i64 0, .string ⟨#[]⟩, .string ⟨#[]⟩, .bool false, .int .i64 0, .int .i64 0, .int .i64 0, .int .i64 0, .int .i64 0, .int .i64 0, .int .i64 0]), 13, 120) := by kernel_rfl
theorem Cs.stay {g : Nat} {w w' : World} {vs : List Value} (h : Cs g w vs) (hs : w.heap.size ≤ w'.heap.size) (hb : w'.heap[g]? = w.heap[g]?) : Cs g w' vs :=
  ⟨Nat.lt_of_lt_of_le h.1 hs, fun i v hi => ⟨(World.cell?_of_block (w := w) hb).trans (h.2 i v hi).1, (World.frozen?_of_block (w := w) hb).trans (h.2 i v hi).2⟩⟩
def RowE (B : Nat) (w : World) (v : Value) (L : List EV) : Prop := RowT 30 erC 13 B w v L
theorem RowE.empty (w : World) : RowE w.heap.size (w.alloc (.cells #[] 30)) (.slice (some ⟨w.heap.size, 0, none⟩) 0 0) [] :=
  ⟨by simp [flt], Or.inr ⟨w.heap.size, 0, #[], rfl, Nat.le_refl _, heap_alloc_new w _, Nat.le_refl _, by unfold maxLen; omega, by simp, by simp [flt]⟩⟩
/-- A whole row appended to an empty one that the call owns. -/
theorem appOp {w : World} {o : Oper} {a : Act} {K : Act → World → Prop} {Q : Exit → Act → World → Prop} (s x : Operand)
    (ho : o.op = .call { callee := .builtin .append, args := #[s, x], argTypes := #[22, 22] })
    (B : Nat) (v : Value) (hs : a.eval s = v) (hown : RowE B w v []) (b off c N : Nat) (L : List EV) (hN : L.length = N) (hx : a.eval x = .slice (some ⟨b, off, none⟩) N c) (hn : N ≤ 1000000) (h0 : 0 < N) (hB : B ≤ w.heap.size)
    (hr : ∀ (j : Nat) (hj : j < L.length), w.rangeAt b (off + j * 13) (erC L[j]))
    (h : ∀ w' A' c', RowE B w' (.slice A' N c') L → Below B w w' → (∀ g vs, Cs g w vs → v.ownBlock ≠ some g → Cs g w' vs) → K (a.put o.dst (.slice A' N c')) w') : Oper.wp Tryz.prog o a w K Q := by
  obtain ⟨i0, hi0, hz0, hz1, hz2⟩ := info_parts infoE
  subst hN
  have hfl : (flt erC L).length = L.length * 13 := flt_len erC_len L
  have hcell : ∀ j u, (flt erC L)[j]? = some u → w.cell? ((⟨b, off, none⟩ : Addr).add j) = some u := fun j u hj => by
    have hjl : j < L.length * 13 := by rw [← hfl]; exact (List.getElem?_eq_some_iff.1 hj).1
    have hq : j / 13 < L.length := Nat.div_lt_of_lt_mul (by omega)
    have e : j = (j / 13) * 13 + j % 13 := by omega
    have h1 := flt_at erC_len L (j / 13) hq (j % 13) (Nat.mod_lt _ (by decide))
    rw [← e, hj] at h1
    have h2 := hr (j / 13) hq (j % 13) u h1.symm
    have e2 : off + j = off + j / 13 * 13 + j % 13 := by omega
    rw [show (⟨b, off, none⟩ : Addr).add j = ⟨b, off + j, none⟩ from by simp [Addr.add], e2]
    exact h2
  have hone : ∀ u ∈ flt erC L, u.oneCell' = true := fun u hu => by
    obtain ⟨r, _, hr2⟩ := List.mem_flatMap.1 hu
    exact erC_one r u hr2
  obtain ⟨v', w', hrun, h2, h3, h4, h5⟩ := run_append_own_at (P := Tryz.prog) w B 22 o.type 30 i0 _ 13 120 Tryz.underlying22 hi0 hz0 hz1 hz2 rfl (by decide) v 0 [] (by simpa [RowE, RowT, flt] using hown) ⟨b, off, none⟩ L.length c (flt erC L) hfl hcell hone (by unfold maxLen; omega) (by omega) hB
  have h2' : RowE B w' v' L := by
    unfold RowE RowT
    simpa using h2
  obtain ⟨A', c', rfl⟩ := RowT.forms h2'
  have hb2 : Below B w w' := (⟨rfl, rfl, rfl, Nat.le_refl _, fun _ _ => rfl⟩ : Below B w w).grown h3 hB (fun k hk => by
    rcases hown.2 with ⟨q, _⟩ | ⟨g, cap, cur, q, q2, _⟩
    · rw [q] at hk; cases hk
    · rw [q] at hk; have hk : g = k := by simpa [Value.ownBlock] using hk
      omega)
  unfold Oper.wp execOp
  simp only [ho, resolve, invoke, builtin, Sem.run_bind, Sem.run_pure, Result.andThen_ok, List.map_toArray, List.map_cons, List.map_nil, hs, hx, hrun]
  exact h w' A' c' h2' hb2 (fun g vs hc hne => Cs.stay hc hb2.size (h3.block g hc.1 (fun e => hne e.symm)))
/-- A row stays where another block's cell is written. -/
theorem RowE.other {B : Nat} {w : World} {v : Value} {L : List EV} {b i : Nat} (h : RowE B w v L) (hne : v.ownBlock ≠ some b) (u : Value) : RowE B (w.setCell ⟨b, i, none⟩ u) v L := by
  refine ⟨h.1, ?_⟩
  rcases h.2 with q | ⟨g, cap, cur, q1, q2, q3, r⟩
  · exact Or.inl q
  · refine Or.inr ⟨g, cap, cur, q1, q2, ?_, r⟩
    have hg : g ≠ b := fun e => hne (by rw [q1, ← e]; rfl)
    rw [← q3]
    exact Below.heap_setCell _ _ _ _ (fun e => hg e)
/-- A row of eras lies in no zone's block. -/
theorem RowE.apart {B gz : Nat} {w : World} {A a : Option Addr} {N c n c' : Nat} {L : List EV} {u : Value} (h : RowE B w (.slice A N c) L) (hN : L.length = N) (h0 : 0 < N) (hz : Cs gz w [u, .slice a n c']) : (Value.slice A N c).ownBlock ≠ some gz := by
  obtain ⟨g, c2, e1, _, _, hr, _⟩ := RowT.form erC_len h (by omega)
  intro q
  rw [e1] at q
  have q : g = gz := by simpa [Value.ownBlock] using q
  subst q
  have r1 : w.cell? ⟨g, 0 * 13 + 1, none⟩ = some (.int .i64 (L[0]'(by omega)).kd) := hr 0 (by omega) 1 _ rfl
  have r2 := (hz.2 1 _ rfl).1
  rw [Nat.zero_mul, Nat.zero_add, r2] at r1
  cases r1
end Zon
namespace Hr
section
variable {P : Program} {ops : Array Oper} {Q : Exit → Act → World → Prop} {md : Region.Mode} {R : Array Bool → World → Prop}
/-- One of two that may come up. -/
theorem Walk.two {i j : Nat} {o p : Oper} {n : Nat} {up : Array Bool} {a : Act} {w : World} (hr : Region.ready md ops up = [i, j]) (ho : ops[i]? = some o) (hp : ops[j]? = some p)
    (h : ∀ K' : Act → World → Prop, Go.Shut (∀ a w, R (up.setIfInBounds i true) w → Walk P md ops Q R n (up.setIfInBounds i true) a w → K' a w) → if Region.wanted o (yielded ops a.tmps) = true then Oper.wp P o a w K' Q else K' (a.put o.dst undef) w)
    (h' : ∀ K' : Act → World → Prop, Go.Shut (∀ a w, R (up.setIfInBounds j true) w → Walk P md ops Q R n (up.setIfInBounds j true) a w → K' a w) → if Region.wanted p (yielded ops a.tmps) = true then Oper.wp P p a w K' Q else K' (a.put p.dst undef) w) : Walk P md ops Q R (n + 1) up a w := by
  refine ⟨fun h0 => (by rw [hr] at h0; cases h0), fun k hk => ?_⟩
  rw [hr] at hk
  rcases List.mem_cons.1 hk with rfl | hk
  · exact wpOp_step ho (fun K' hK => h K' (fun a w hS hW => hK a w ⟨hS, hW⟩))
  · obtain rfl := List.mem_singleton.1 hk
    exact wpOp_step hp (fun K' hK => h' K' (fun a w hS hW => hK a w ⟨hS, hW⟩))
end
end Hr
namespace Zon
end Zon
end Go.Proofs.YthefgagmjamdkaaGreatDoor
