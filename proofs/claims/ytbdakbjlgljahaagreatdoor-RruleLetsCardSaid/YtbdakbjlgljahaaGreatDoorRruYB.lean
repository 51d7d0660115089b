/-
  Package rrule, plain words: what is known of each time that is told; which time is told of a rule without a count, an end, a choice.
-/
import Derived.Test.YtbdakbjlgljahaaGreatDoorBdU6
import Derived.Test.YtbdakbjlgljahaaGreatDoorRruZ
namespace Go.Proofs.YtbdakbjlgljahaaGreatDoor
open Go.RowKit
namespace Rru
open Rcv (CV)
open Rck (ckB endB)
open Civ (dY)
open Fil (moO mo_bd mo_of spA spZ spQ spO spE spF spT perQ perV perE ck_fq letP letQ sp_far)
theorem in_iff {fr tt t : Int} : inS fr tt t = true ↔ fr ≤ t ∧ t ≤ tt := by rw [inS, Bool.and_eq_true, decide_eq_true_eq, decide_eq_true_eq]
/-- What is told rises. -/
theorem tm_up {x : CV} {st fr tt f c : Int} {O : List Int} (hc : ckB x = true) (hm : moO st = true) (h2 : arB fr tt f = false) (h : tmX x st fr tt f = (0, c, O)) : O.Pairwise (· < ·) := by
  obtain ⟨k, g⟩ := tm_all hc hm h2 h
  rw [g k (Nat.le_refl _)]
  exact (aL_up (iv_bd hc).1 k).filter _
theorem tm_each {x : CV} {st fr tt f c : Int} {O : List Int} (hc : ckB x = true) (hm : moO st = true) (h2 : arB fr tt f = false) (h : tmX x st fr tt f = (0, c, O)) {t : Int} (ht : t ∈ O) : (fr ≤ t ∧ t ≤ tt) ∧ st ≤ t ∧ (t ≠ st → perE x t = 0 ∧ (perV x t - perV x st).tmod x.iv = 0 ∧ letP x st t = true ∧ (x.un = true → t ≤ x.ua)) := by
  obtain ⟨k, g⟩ := tm_all hc hm h2 h
  rw [g k (Nat.le_refl _), List.mem_filter] at ht
  refine ⟨in_iff.1 ht.2, ?_, fun ne => ?_⟩
  · rcases aL_mem ht.1 with rfl | ⟨_, e⟩
    · exact Int.le_refl _
    · exact Int.le_of_lt (ok_lt e)
  · rcases aL_mem ht.1 with e | ⟨e, o⟩
    · exact absurd e ne
    · rw [uL] at e
      split at e
      · obtain ⟨j, _, hj⟩ := uG_mem.1 e
        obtain ⟨_, p, q, _⟩ := gP_per hj
        refine ⟨q, ?_, gP_let hm hj, fun hu => ?_⟩
        · rw [p, show perV x st + (j : Int) * x.iv - perV x st = (j : Int) * x.iv by omega]
          exact Int.mul_tmod_left _ _
        · rw [okU, hu, Bool.and_eq_true] at o
          have := o.2
          simp at this
          omega
      · exact absurd e (by simp)
/-- A period that is not before the start's, of a time not too far ahead, has a span where the start's has one. -/
theorem spe_on {x : CV} {st t : Int} (hc : ckB x = true) (hm : moO st = true) (ht : moO t = true) (h : st ≤ t) (h0 : spE x (perV x st) = 0) (hy : dY (t / 86400) ≤ 9997) : spE x (perQ x t) = 0 := by
  rw [show perV x st = perQ x st by rw [perV, if_pos ⟨hc, hm⟩]] at h0
  have a := per_mono hc hm ht h
  have b := mo_bd ht
  by_cases e : 3 ≤ dY (t / 86400)
  · exact spe_iff.2 ⟨hc, sp_far hc ht ⟨e, hy⟩⟩
  · obtain ⟨t2, h2⟩ : ∃ z : Int, z = -718300 * 86400 := ⟨_, rfl⟩
    have e2 : t2 / 86400 = -718300 := by omega
    have m2 : moO t2 = true := mo_of (by omega) (by omega)
    have y2 : dY (t2 / 86400) = 3 := by rw [e2]; decide +kernel
    have s2 : spE x (perQ x t2) = 0 := spe_iff.2 ⟨hc, sp_far hc m2 (by rw [y2]; decide)⟩
    have l : t ≤ t2 := by
      obtain ⟨Y, M, D, e1, _, _, _, _, _, _, n1, n2⟩ := Fil.dy_bounds (d := t / 86400) ⟨b.1, b.2.1⟩
      rw [e1] at e
      have n := Cal.ny_mono (a := Y + 1) (b := 3) (by omega)
      have c3 : Cal.ny 3 = -718432 := by decide +kernel
      omega
    exact spe_mid h0 s2 a (per_mono hc ht m2 l)
/-- Which time is told. -/
theorem tm_one {x : CV} {st t f c : Int} {O : List Int} (hc : ckB x = true) (hm : moO st = true) (ht : moO t = true) (hst : st ≤ t) (h0 : ¬ 0 < x.ct) (hu : x.un = false) (hp : x.sp = []) (hy : dY (t / 86400) ≤ 9997) (h2 : arB t t f = false) (h : tmX x st t t f = (0, c, O)) :
    (O = [t] ∧ (t = st ∨ spE x (perV x st) = 0 ∧ (perV x t - perV x st).tmod x.iv = 0 ∧ letP x st t = true)) ∨ (O = [] ∧ ¬ (t = st ∨ spE x (perV x st) = 0 ∧ (perV x t - perV x st).tmod x.iv = 0 ∧ letP x st t = true)) := by
  have iv := (iv_bd hc).1
  have hpt : perV x t = perQ x t := by rw [perV, if_pos ⟨hc, ht⟩]
  have hps : perV x st = perQ x st := by rw [perV, if_pos ⟨hc, hm⟩]
  have pm := per_mono hc hm ht hst
  obtain ⟨k, g⟩ := tm_all hc hm h2 h
  obtain ⟨K, hK, hj⟩ : ∃ K, k ≤ K ∧ (perQ x t - perQ x st).tdiv x.iv < (K : Int) := ⟨k + ((perQ x t - perQ x st).tdiv x.iv).toNat + 1, by omega, by omega⟩
  have hO := g K hK
  have mem : t ∈ O ↔ (t = st ∨ spE x (perV x st) = 0 ∧ (perV x t - perV x st).tmod x.iv = 0 ∧ letP x st t = true) := by
    constructor
    · intro q
      have e := tm_each hc hm h2 h q
      by_cases ne : t = st
      · exact Or.inl ne
      · obtain ⟨_, a, b, _⟩ := e.2.2 ne
        refine Or.inr ⟨?_, a, b⟩
        rw [hO, List.mem_filter] at q
        rcases aL_mem q.1 with w | ⟨w, _⟩
        · exact absurd w ne
        · rw [uL] at w
          split at w
          · assumption
          · exact absurd w (by simp)
    · intro q
      rw [hO, List.mem_filter]
      refine ⟨?_, in_iff.2 ⟨Int.le_refl _, Int.le_refl _⟩⟩
      by_cases ne : t = st
      · rw [aL, ne]; exact List.mem_cons_self ..
      · rcases q with q | ⟨q0, q1, q2⟩
        · exact absurd q ne
        · rw [aL, tkN_off h0]
          refine List.mem_cons_of_mem _ (List.mem_filter.2 ⟨?_, ?_⟩)
          · rw [uL, if_pos q0]
            have sq := spe_on hc hm ht hst q0 hy
            rw [hpt, hps] at q1
            have dm := Int.mul_tdiv_add_tmod (perQ x t - perQ x st) x.iv
            rw [q1, Int.add_zero, Int.mul_comm] at dm
            obtain ⟨d, hd⟩ : ∃ d, (perQ x t - perQ x st).tdiv x.iv = d := ⟨_, rfl⟩
            have d0 : 0 ≤ d := by rw [← hd]; exact Int.tdiv_nonneg (by omega) (by omega)
            rw [hd] at dm hj
            obtain ⟨j, rfl⟩ : ∃ j : Nat, d = j := ⟨d.toNat, by omega⟩
            refine uG_mem.2 ⟨j, by omega, ?_⟩
            rw [hps, dm, show perQ x st + (perQ x t - perQ x st) = perQ x t by omega]
            exact (gP_mem hm hp sq).2 ⟨(Fil.sp_law hc ht (spe_iff.1 sq).2).1, q2⟩
          · rw [okU, hu, decide_eq_true (show st < t by omega)]; rfl
  have up := tm_up hc hm h2 h
  have eqt : ∀ a ∈ O, a = t := fun a ha => by
    have := (tm_each hc hm h2 h ha).1
    omega
  match O, up, eqt, mem with
  | [], _, _, mem => exact Or.inr ⟨rfl, fun q => absurd (mem.2 q) (by simp)⟩
  | [a], _, eqt, mem =>
    have e := eqt a (by simp)
    subst e
    exact Or.inl ⟨rfl, mem.1 (by simp)⟩
  | a :: b :: r, up, eqt, _ =>
    have e1 := eqt a (by simp)
    have e2 := eqt b (by simp)
    have := (List.pairwise_cons.1 up).1 b (by simp)
    omega
end Rru
end Go.Proofs.YtbdakbjlgljahaaGreatDoor
