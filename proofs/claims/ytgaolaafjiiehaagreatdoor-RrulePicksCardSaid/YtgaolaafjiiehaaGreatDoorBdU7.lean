/-
  Several texts in one (RruYA, RruYC, RruLh).
-/
import Derived.Test.YtgaolaafjiiehaaGreatDoorBdU6
import Derived.Test.YtgaolaafjiiehaaGreatDoorBdU1
import Derived.Maps.AppendAt
import Derived.Test.YtgaolaafjiiehaaGreatDoorBdRg
/-
  Package rrule, plain words: two spans side by side; a rule with a count and without one.
-/
namespace Go.Proofs.YtgaolaafjiiehaaGreatDoor
open Go.RowKit
namespace Rru
open Rcv (CV)
open Rck (ckB endB)
open Fil (moO spA spZ spQ spO spE spF spT perQ perV perE ck_fq letP letQ)
theorem side_by {f m to_ : Int} (h1 : f ≤ m) (h2 : m < to_) : ∀ (A : List Int), A.Pairwise (· < ·) → A.filter (inS f to_) = A.filter (inS f m) ++ A.filter (inS (m + 1) to_)
  | [], _ => rfl
  | a :: r, hp => by
    obtain ⟨k1, k2⟩ := List.pairwise_cons.1 hp
    have ih := side_by h1 h2 r k2
    by_cases e : a ≤ m
    · have e1 : inS f to_ a = inS f m a := by rw [inS, inS, decide_eq_true (show a ≤ to_ by omega), decide_eq_true e]
      have e2 : inS (m + 1) to_ a = false := by rw [inS, decide_eq_false (show ¬ m + 1 ≤ a by omega)]; rfl
      rw [List.filter_cons, List.filter_cons, List.filter_cons, e1, if_neg (show ¬ inS (m + 1) to_ a = true by rw [e2]; decide), ih]
      split <;> simp
    · have n : ∀ t ∈ a :: r, inS f m t = false := fun t ht => by
        have : a ≤ t := by
          rcases List.mem_cons.1 ht with rfl | ht
          · exact Int.le_refl _
          · exact Int.le_of_lt (k1 t ht)
        rw [inS, decide_eq_false (show ¬ t ≤ m by omega), Bool.and_false]
      have s : ∀ t ∈ a :: r, inS f to_ t = inS (m + 1) to_ t := fun t ht => by
        have : a ≤ t := by
          rcases List.mem_cons.1 ht with rfl | ht
          · exact Int.le_refl _
          · exact Int.le_of_lt (k1 t ht)
        rw [inS, inS, decide_eq_true (show f ≤ t by omega), decide_eq_true (show m + 1 ≤ t by omega)]
      have z : (a :: r).filter (inS f m) = [] := by
        rw [List.filter_eq_nil_iff]
        intro t ht
        rw [n t ht]
        decide
      rw [z, List.nil_append]
      exact List.filter_congr s
theorem cut_take {f to_ : Int} : ∀ (A : List Int) (n : Nat), A.Pairwise (· < ·) → (∀ a ∈ A, f ≤ a) → (A.take n).filter (inS f to_) = (A.filter (inS f to_)).take n
  | [], n, _, _ => by simp
  | a :: r, 0, _, _ => by simp
  | a :: r, n + 1, hp, hf => by
    obtain ⟨k1, k2⟩ := List.pairwise_cons.1 hp
    have fa := hf a (List.mem_cons_self ..)
    rw [List.take_succ_cons]
    by_cases e : a ≤ to_
    · have e1 : inS f to_ a = true := by rw [inS, decide_eq_true e, decide_eq_true fa]; rfl
      rw [List.filter_cons, List.filter_cons, if_pos e1, if_pos e1, List.take_succ_cons, cut_take r n k2 (fun t ht => hf t (List.mem_cons_of_mem _ ht))]
    · have z : (a :: r).filter (inS f to_) = [] := by
        rw [List.filter_eq_nil_iff]
        intro t ht
        have : a ≤ t := by
          rcases List.mem_cons.1 ht with rfl | ht
          · exact Int.le_refl _
          · exact Int.le_of_lt (k1 t ht)
        rw [inS, decide_eq_false (show ¬ t ≤ to_ by omega), Bool.and_false]
        decide
      rw [z, List.take_nil, List.filter_eq_nil_iff]
      intro t ht
      have ht : t ∈ a :: r := by
        rcases List.mem_cons.1 ht with rfl | ht
        · exact List.mem_cons_self ..
        · exact List.mem_cons_of_mem _ (List.mem_of_mem_take ht)
      exact (List.filter_eq_nil_iff.1 z) t ht
/-- Times of two spans side by side are those of the whole. -/
theorem span_app {x : CV} {st f m to_ n c1 c2 c3 : Int} {O1 O2 O3 : List Int} (hc : ckB x = true) (hm : moO st = true) (h1 : f ≤ m) (h2 : m < to_) (a1 : arB f m n = false) (a2 : arB (m + 1) to_ n = false) (a3 : arB f to_ n = false) (e1 : tmX x st f m n = (0, c1, O1)) (e2 : tmX x st (m + 1) to_ n = (0, c2, O2)) (e3 : tmX x st f to_ n = (0, c3, O3)) : O3 = O1 ++ O2 := by
  obtain ⟨k1, g1⟩ := tm_all hc hm a1 e1
  obtain ⟨k2, g2⟩ := tm_all hc hm a2 e2
  obtain ⟨k3, g3⟩ := tm_all hc hm a3 e3
  rw [g1 (k1 + k2 + k3) (by omega), g2 (k1 + k2 + k3) (by omega), g3 (k1 + k2 + k3) (by omega)]
  exact side_by h1 h2 _ (aL_up (iv_bd hc).1 _)
/-- The rule with a count. -/
def withCt (x : CV) (n : Int) : CV := { x with ct := n }
theorem ck_ct {x : CV} {n : Int} (h : ckB x = true) (hu : x.un = false) (hn : 1 ≤ n ∧ n ≤ 100000) : ckB (withCt x n) = true := by
  unfold ckB at h ⊢
  simp only [Bool.and_eq_true, decide_eq_true_eq] at h ⊢
  obtain ⟨a1, a2, a3, a4, a5, a6, a7, a8, a9, a10, a11, a12⟩ := h
  refine ⟨a1, a2, a3, a4, show (0 : Int) ≤ n by omega, show n ≤ 100000 by omega, a7, a8, ?_, a10, a11, a12⟩
  show endB x.un x.ua x.ut n = true
  rw [endB, hu] at a9 ⊢
  exact a9
theorem gP_ct {x : CV} {n : Int} (h : ckB x = true) (hu : x.un = false) (hn : 1 ≤ n ∧ n ≤ 100000) (st p : Int) : gP (withCt x n) st p = gP x st p := by
  have hc := ck_ct h hu hn
  have hl : ∀ t, letP (withCt x n) st t = letP x st t := fun t => by
    rw [letP, letP, hc, h]; rfl
  have hs : spE (withCt x n) p = spE x p := by rw [spE, spE, hc, h]; rfl
  have hf : spF (withCt x n) p = spF x p := by rw [spF, spF, hc, h]; rfl
  have ht : spT (withCt x n) p = spT x p := by rw [spT, spT, hc, h]; rfl
  have sc : scL (withCt x n) st = scL x st := rfl
  have s0 : s0F (withCt x n) st = s0F x st := rfl
  have hb : ∀ a b, bsL (withCt x n) st (s0F x st) a b = bsL x st (s0F x st) a b := fun a b => by
    have hd : dyB (withCt x n) st (s0F x st) = dyB x st (s0F x st) := by
      funext d
      rw [dyB, dyB, hl]; rfl
    rw [bsL, bsL, hl, daL, daL, hd]; rfl
  rw [gP, gP, hs, hf, ht, gaL, gaL, sc, s0, hb]; rfl
theorem uG_ct {x : CV} {n : Int} (h : ckB x = true) (hu : x.un = false) (hn : 1 ≤ n ∧ n ≤ 100000) (st : Int) : ∀ (k : Nat) (p : Int), uG (withCt x n) st k p = uG x st k p
  | 0, _ => rfl
  | k + 1, p => by
    rw [uG, uG, gP_ct h hu hn]
    exact congrArg _ (uG_ct h hu hn st k (p + x.iv))
/-- With a count: the first so many. -/
theorem span_ct {x : CV} {st to_ f n c1 c2 : Int} {O1 O2 : List Int} (hc : ckB x = true) (hm : moO st = true) (h0 : ¬ 0 < x.ct) (hu : x.un = false) (hn : 1 ≤ n ∧ n ≤ 100000) (a1 : arB st to_ f = false) (e1 : tmX x st st to_ f = (0, c1, O1)) (e2 : tmX (withCt x n) st st to_ f = (0, c2, O2)) : O2 = O1.take n.toNat := by
  have hc2 := ck_ct hc hu hn
  obtain ⟨k1, g1⟩ := tm_all hc hm a1 e1
  obtain ⟨k2, g2⟩ := tm_all hc2 hm a1 e2
  rw [g1 (k1 + k2) (by omega), g2 (k1 + k2) (by omega)]
  have up := aL_up (x := x) (st := st) (iv_bd hc).1 (k1 + k2)
  have hA : aL (withCt x n) st (k1 + k2) = (aL x st (k1 + k2)).take n.toNat := by
    have hp : perV (withCt x n) st = perV x st := by rw [perV, perV, hc, hc2]; rfl
    have hs : spE (withCt x n) (perV x st) = spE x (perV x st) := by rw [spE, spE, hc, hc2]; rfl
    have hU : uL (withCt x n) st (k1 + k2) = uL x st (k1 + k2) := by rw [uL, uL, hp, hs, uG_ct hc hu hn]
    have hk : okU (withCt x n) st = okU x st := rfl
    rw [aL, aL, hU, hk, tkN_off h0, tkN, if_pos (show 0 < (withCt x n).ct from hn.1), show n.toNat = (n - 1).toNat + 1 by omega, List.take_succ_cons]; rfl
  rw [hA]
  refine cut_take _ _ up (fun a ha => ?_)
  rcases aL_mem ha with rfl | ⟨_, k⟩
  · exact Int.le_refl _
  · exact Int.le_of_lt (ok_lt k)
end Rru
end Go.Proofs.YtgaolaafjiiehaaGreatDoor
/-
  An append of a row that the call owns and another one: append(x, y...).
-/
namespace Go.Proofs.YtgaolaafjiiehaaGreatDoor
open Go.RowKit
namespace Rru
open Ap (RowI)
theorem wp_app {w : World} {o : Oper} {a : Act} {K : Act → World → Prop} {Q : Exit → Act → World → Prop} (s x : Operand) (ho : o.op = .call { callee := .builtin .append, args := #[s, x], argTypes := #[22, 22] }) (B B' : Nat) (v u : Value) (L M : List Int) (hs : a.eval s = v) (hx : a.eval x = u) (hv : RowI B w v L) (hu : RowI B' w u M) (hl : L.length ≤ 1000000) (hm : M.length ≤ 1000000) (hB : B ≤ w.heap.size) (h : ∀ v' w', RowI B w' v' (L ++ M) → w.grownBy w' v.ownBlock → K (a.put o.dst v') w') : o.wp Tryz.prog a w K Q := by
  obtain ⟨i0, hi0, hz0, hz1, hz2⟩ := info_parts Ap.infoI
  have hr : ∃ v' w', (Builtin.append_ #[22, 22] o.type #[v, u]).run Tryz.prog w = .ok v' w' ∧ RowI B w' v' (L ++ M) ∧ w.grownBy w' v.ownBlock := by
    have hk := hu
    rcases hk.2 with ⟨rfl, h0⟩ | ⟨g, cap, cur, rfl, _, _, _, _, _, _⟩
    · have e : M = [] := List.length_eq_zero_iff.1 h0
      subst e
      refine ⟨v, w, run_append_owned_none (P := Tryz.prog) (w := w) B _ o.type 3 i0 1 (by kernel_rfl) hi0 v _ _ hv, by rw [List.append_nil]; exact hv, ⟨rfl, rfl, rfl, Nat.le_refl _, fun _ _ _ => rfl⟩⟩
    · obtain ⟨v', w', hr, h2, h3, _, _⟩ := run_append_own_at (P := Tryz.prog) w B _ o.type 3 i0 (.int .i64 0) 1 8 (by kernel_rfl) hi0 hz0 hz1 hz2 rfl (by decide) v L.length _ hv ⟨g, 0, none⟩ M.length cap (M.map Ap.iv) (by simp) (fun j z hj => World.ownsRow.cells hu rfl j z hj) (fun z hz => by obtain ⟨n, _, rfl⟩ := List.mem_map.1 hz; rfl) (by unfold maxLen; omega) (by omega) hB
      refine ⟨v', w', hr, ?_, h3⟩
      rw [RowI, List.length_append, List.map_append]
      exact h2
  obtain ⟨v', w', hr, h2, h3⟩ := hr
  unfold Oper.wp execOp
  simp only [ho, resolve, invoke, builtin, Sem.run_bind, Sem.run_pure, Result.andThen_ok, List.map_toArray, List.map_cons, List.map_nil, hs, hx, hr]
  exact h v' w' h2 h3
theorem appII {w : World} {ops : Array Oper} {rest : List Oper} {o : Oper} {a : Act} {Q : Exit → Act → World → Prop} (hw : Region.wanted o (yielded ops a.tmps) = true) (s x : Operand) (ho : o.op = .call { callee := .builtin .append, args := #[s, x], argTypes := #[22, 22] }) (B B' : Nat) (v u : Value) (L M : List Int) (hs : a.eval s = v) (hx : a.eval x = u) (hv : RowI B w v L) (hu : RowI B' w u M) (hl : L.length ≤ 1000000) (hm : M.length ≤ 1000000) (hB : B ≤ w.heap.size)
    (h : ∀ (K : Act → World → Prop), (∀ a w, wpList Tryz.prog ops Q rest a w → K a w) → ∀ v' w', RowI B w' v' (L ++ M) → w.grownBy w' v.ownBlock → K (a.put o.dst v') w') : wpList Tryz.prog ops Q (o :: rest) a w :=
  wpList_step fun K hK => by
    rw [if_pos hw]
    exact wp_app s x ho B B' v u L M hs hx hv hu hl hm hB (h K hK)
end Rru
end Go.Proofs.YtgaolaafjiiehaaGreatDoor
/-
  Package solsticelaw23: what its laws' walks share.
-/
namespace Go.Proofs.YtgaolaafjiiehaaGreatDoor
open Go.RowKit
namespace Rru
open Rcv (CV)
open Rck (ckB Small)
open Fil (perE)
theorem small_of {x : CV} (h : Rct.Len3 x) : Small x := by
  obtain ⟨a, b, c, d, e, f, g, i, j⟩ := h
  exact ⟨by omega, by omega, by omega, by omega, by omega, by omega, by omega, by omega, by omega⟩
theorem ar_no {fr tt f : Int} (h1 : fr ≤ tt) (h2 : -4611686018427387904 ≤ fr) (h3 : tt ≤ 4611686018427387904) (h4 : 0 ≤ f ∧ f ≤ 200000) : arB fr tt f = false := by
  rw [arB, wiB, wiB, decide_eq_false (show ¬ tt < fr by omega), decide_eq_true (show -4611686018427387904 ≤ fr ∧ fr ≤ 4611686018427387904 by omega), decide_eq_true (show -4611686018427387904 ≤ tt ∧ tt ≤ 4611686018427387904 by omega), decide_eq_false (show ¬ f < 0 by omega), decide_eq_false (show ¬ 200000 < f by omega)]
  rfl
theorem tm_two {x : CV} {st fr tt f en co : Int} {O : List Int} (h1 : perE x st = 0) (h2 : arB fr tt f = false) (h : tmX x st fr tt f = (en, co, O)) : en = 0 ∨ en = 22 ∧ co = 0 ∧ O = [] := by
  rw [tm_ok h1 h2] at h
  rcases out_12 (tmR x st fr tt f) with e | e
  · rw [h] at e; exact Or.inl e
  · rw [h] at e
    injection e with a b
    injection b with b c
    exact Or.inr ⟨a, b, c⟩
end Rru
end Go.Proofs.YtgaolaafjiiehaaGreatDoor
