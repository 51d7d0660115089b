/-
  Regions that draw their order, with a condition on the world that may change as operations come up: R tells, of what has come up so far, what the world meets.
-/
import Derived.Test.YtpbdlgmkkbccmaaDoorRows
import Derived.Deep.RegionHeld3
import Derived.WalkKit
namespace Go.Proofs.YtpbdlgmkkbccmaaDoor
open Go.RowKit
namespace Hr
section
variable {P : Program} {ops : Array Oper} {Q : Exit → Act → World → Prop} {md : Region.Mode} {R : Array Bool → World → Prop}
/-- Whatever comes up next; behind it R holds of what has come up then, and the rest goes in whatever order. -/
def Walk (P : Program) (md : Region.Mode) (ops : Array Oper) (Q : Exit → Act → World → Prop) (R : Array Bool → World → Prop) : Nat → Array Bool → Act → World → Prop
  | 0, up, a, w => Region.ready md ops up = [] ∧ Q .normal a w
  | n + 1, up, a, w => (Region.ready md ops up = [] → Q .normal a w) ∧ ∀ j ∈ Region.ready md ops up, wpOp P ops Q j (fun a' w' => R (up.setIfInBounds j true) w' ∧ Walk P md ops Q R n (up.setIfInBounds j true) a' w') a w
theorem Walk.any : ∀ (n : Nat) (up : Array Bool) (a : Act) (w : World), Walk P md ops Q R n up a w → wpAny P md ops Q n up a w
  | 0, _, _, _, h => h
  | n + 1, _, _, _, h => ⟨h.1, fun j hj => wpOp_mono (fun a' w' q => Walk.any n _ a' w' q.2) (h.2 j hj)⟩
/-- An operation that may come up yields one value in every world that meets S; R gives S as long as the operation has not come up (I: what is told of the states till then). -/
theorem Walk.first {i : Nat} {oi : Oper} {v : Value} {S : World → Prop} {I : Array Bool → Prop} (hi : ops[i]? = some oi) (hsel : ∀ (j : Nat) (o : Oper) cs b, ops[j]? = some o → o.op ≠ .select cs b)
    (hQ : ∀ c a w, Q (.panic c) (a.put oi.dst v) w → Q (.panic c) a w)
    (hI : ∀ up j, I up → i ∈ Region.ready md ops up → j ∈ Region.ready md ops up → j ≠ i → I (up.setIfInBounds j true))
    (hS : ∀ up w, I up → R up w → S w) (hR : ∀ up w, R (up.setIfInBounds i true) w → R up w) :
    ∀ (n : Nat) (up : Array Bool) (a : Act) (w : World),
      (∀ j oj, ops[j]? = some oj → j ≠ i → up.getD j true = false → (∀ e ∈ oj.after, Region.binds md e = true → e.on ≠ i) → oi.apart ops oj = true) →
      i ∈ Region.ready md ops up → I up → YieldsIf P ops S oi v a → S w → R (up.setIfInBounds i true) w →
      Walk P md ops Q R n (up.setIfInBounds i true) (a.put oi.dst v) w → Walk P md ops Q R (n + 1) up a w := by
  intro n
  induction n with
  | zero =>
    intro up a w _ hr _ hy hs hrw H
    refine ⟨fun h => (by rw [h] at hr; cases hr), fun j hj => ?_⟩
    by_cases hji : j = i
    · subst hji; exact hy.wpOp hi hs ⟨hrw, H⟩
    · have := ready_mono hj hji
      rw [H.1] at this
      cases this
  | succ n ih =>
    intro up a w hfree hr hIu hy hs hrw H
    refine ⟨fun h => (by rw [h] at hr; cases hr), fun j hj => ?_⟩
    by_cases hji : j = i
    · subst hji; exact hy.wpOp hi hs ⟨hrw, H⟩
    have h1 := H.2 j (ready_mono hj hji)
    obtain ⟨hjun, oj, hoj, hall⟩ := mem_ready.1 hj
    have hnot : ∀ e ∈ oj.after, Region.binds md e = true → e.on ≠ i := fun e he hb heq => by
      have q1 := hall e he hb
      have q0 := (mem_ready.1 hr).1
      rw [heq] at q1
      rcases Nat.lt_or_ge i up.size with h' | h'
      · simp [h'] at q0 q1; rw [q0] at q1; cases q1
      · simp [Array.getElem?_eq_none h'] at q1
    have h2 := wpOp_putIf hoj (hfree j oj hoj hji hjun hnot) (fun cs b => hsel i oi cs b hi) (fun cs b => hsel j oj cs b hoj) hQ hy h1
    have hfree' : ∀ k ok, ops[k]? = some ok → k ≠ i → (up.setIfInBounds j true).getD k true = false →
        (∀ e ∈ ok.after, Region.binds md e = true → e.on ≠ i) → oi.apart ops ok = true := fun k ok hk hki hun hno => by
      refine hfree k ok hk hki ?_ hno
      by_cases hjk : j = k
      · subst hjk; exact hjun
      · rw [getD_set_ne true hjk] at hun; exact hun
    refine wpOp_mono (fun a' w' h3 => ?_) h2
    obtain ⟨hy', hr3, hw3⟩ := h3
    rw [Array.setIfInBounds_comm _ _ (Ne.symm hji)] at hr3 hw3
    have hRj := hR _ _ hr3
    have hIj := hI up j hIu hr hj hji
    exact ⟨hRj, ih (up.setIfInBounds j true) a' w' hfree' (ready_mono hr (Ne.symm hji)) hIj hy' (hS _ _ hIj hRj) hr3 hw3⟩
theorem Walk.take {i : Nat} {oi : Oper} {v : Value} {n : Nat} {up : Array Bool} {a : Act} {w : World} (S : World → Prop) (I : Array Bool → Prop) (hi : ops[i]? = some oi)
    (hs : Region.noSelect ops = true) (hf : Region.free md ops up i = true) (hr : (Region.ready md ops up).contains i = true)
    (hQ : ∀ c a w, Q (.panic c) (a.put oi.dst v) w → Q (.panic c) a w)
    (hI : ∀ up j, I up → i ∈ Region.ready md ops up → j ∈ Region.ready md ops up → j ≠ i → I (up.setIfInBounds j true))
    (hS : ∀ up w, I up → R up w → S w) (hR : ∀ up w, R (up.setIfInBounds i true) w → R up w) (hIu : I up) (hy : YieldsIf P ops S oi v a) (hSw : S w) (hRw : R (up.setIfInBounds i true) w)
    (h : Walk P md ops Q R n (up.setIfInBounds i true) (a.put oi.dst v) w) : Walk P md ops Q R (n + 1) up a w :=
  Walk.first hi (Region.noSelect_spec hs) hQ hI hS hR n up a w (Region.free_spec hi hf) (by simpa using hr) hIu hy hSw hRw h
/-- One of those that may come up, where it is the only one. -/
theorem Walk.one {i : Nat} {o : Oper} {n : Nat} {up : Array Bool} {a : Act} {w : World} (hr : Region.ready md ops up = [i]) (ho : ops[i]? = some o)
    (h : ∀ K' : Act → World → Prop, Shut (∀ a w, R (up.setIfInBounds i true) w → Walk P md ops Q R n (up.setIfInBounds i true) a w → K' a w) → if Region.wanted o (yielded ops a.tmps) = true then Oper.wp P o a w K' Q else K' (a.put o.dst undef) w) : Walk P md ops Q R (n + 1) up a w := by
  refine ⟨fun h0 => (by rw [hr] at h0; cases h0), fun j hj => ?_⟩
  rw [hr] at hj
  obtain rfl := List.mem_singleton.1 hj
  exact wpOp_step ho (fun K' hK => h K' (fun a w hS hW => hK a w ⟨hS, hW⟩))
theorem Walk.done {up : Array Bool} {a : Act} {w : World} (hr : Region.ready md ops up = []) (h : Q .normal a w) : ∀ n, Walk P md ops Q R n up a w
  | 0 => ⟨hr, h⟩
  | n + 1 => ⟨fun _ => h, fun j hj => by rw [hr] at hj; cases hj⟩
theorem Walk.region {id : Nat} {a : Act} {w : World} (hm : P.follows .mixedOrders = true) (h : Walk P .any ops Q R ops.size (Array.replicate ops.size false) a w.drew) : (Code.region id ops true).wp P Q a w :=
  wp_region_any hm (Walk.any _ _ _ _ h)
/-- Number s waits for number i: it does not come up while i has not. -/
theorem keepI {s i : Nat} {os : Oper} (hs : ops[s]? = some os) (he : (os.after.any fun e => e.on == i && Region.binds md e) = true) (up : Array Bool) (j : Nat) (hI : up.getD s false = false) (hi : i ∈ Region.ready md ops up) (hj : j ∈ Region.ready md ops up) (_ : j ≠ i) : (up.setIfInBounds j true).getD s false = false := by
  have hjs : j ≠ s := by
    rintro rfl
    obtain ⟨_, oj, hoj, hall⟩ := mem_ready.1 hj
    obtain rfl : os = oj := Option.some.inj (hs.symm.trans hoj)
    obtain ⟨k, hk, hb⟩ := Array.any_eq_true.1 he
    rw [Bool.and_eq_true] at hb
    have q1 := hall _ (Array.getElem_mem hk) hb.2
    have q0 := (mem_ready.1 hi).1
    rw [eq_of_beq hb.1] at q1
    rcases Nat.lt_or_ge i up.size with h' | h'
    · simp [h'] at q0 q1; rw [q0] at q1; cases q1
    · simp [Array.getElem?_eq_none h'] at q1
  rw [getD_set_ne false hjs]; exact hI
theorem keepR {s i : Nat} {S : World → Prop} (h : i ≠ s) (up : Array Bool) (w : World) (hr : (up.setIfInBounds i true).getD s false = false → S w) : up.getD s false = false → S w := fun hu => hr (by rw [getD_set_ne false h]; exact hu)
end
end Hr
end Go.Proofs.YtpbdlgmkkbccmaaDoor
