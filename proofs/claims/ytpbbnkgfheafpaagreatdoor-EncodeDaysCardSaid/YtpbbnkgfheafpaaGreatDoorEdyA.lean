/-
  Package solsticelaw24, plain words: what an encoded rule lets of a year is the form's day, moved.
-/
import Derived.Test.YtpbbnkgfheafpaaGreatDoorRruYE
import Derived.Test.YtpbbnkgfheafpaaGreatDoorEncH
import Derived.Test.YtpbbnkgfheafpaaGreatDoorBdFn
namespace Go.Proofs.YtpbbnkgfheafpaaGreatDoor
open Go.RowKit
namespace Edy
open Rcv (CV)
open Rck (ckB endB lsB gtB nmB frB eiB dyB frB_iff dyB_iff)
open Civ (dY dM dD numE numE_yes)
open Wk (onOk onOk_v since untl since_bd untl_bd rday resE resV res_0 nthB nthV nth_pos nth_neg)
open Enc (rcv enR sevL)
open Fil (moO mo_bd mo_of spA spZ spQ spO spE spF spT perQ perV perE letP letQ lcB lnB ldB llB dayB nthIs mthB mfV yfV yfO mf_at mf_next yf_at dy_bounds v7 spQ_iff ewB onB)
open Rru
theorem ml_least (y m : Int) : Cal.mlen 2001 m ≤ Cal.mlen y m := by
  have h := Cal.lp_01 y
  have e : Cal.lp 2001 = 0 := by decide
  unfold Cal.mlen
  rw [e]
  split
  · omega
  · exact Int.le_refl _
theorem dd_at {Y M D : Int} (hy : 1 ≤ Y ∧ Y ≤ 9999) (hm : 1 ≤ M ∧ M ≤ 12) (hd : 1 ≤ D ∧ D ≤ Cal.mlen Y M) : (-719162 ≤ Cal.ny Y + Cal.cum Y M + D - 1 ∧ Cal.ny Y + Cal.cum Y M + D - 1 < 2932897) ∧ dY (Cal.ny Y + Cal.cum Y M + D - 1) = Y ∧ dM (Cal.ny Y + Cal.cum Y M + D - 1) = M ∧ dD (Cal.ny Y + Cal.cum Y M + D - 1) = D ∧ Cal.ny Y ≤ Cal.ny Y + Cal.cum Y M + D - 1 ∧ Cal.ny Y + Cal.cum Y M + D - 1 < Cal.ny (Y + 1) := by
  have c1 : Cal.ny 1 = -719162 := by decide +kernel
  have c2 : Cal.ny 10000 = 2932897 := by decide +kernel
  have s := Cal.ny_succ Y
  have cb := Cal.cum_bd (y := Y) hm.1 hm.2
  have m1 := Cal.ny_mono (a := 1) (b := Y) hy.1
  have m2 := Cal.ny_mono (a := Y + 1) (b := 10000) (by omega)
  obtain ⟨N, hN⟩ : ∃ N, Cal.ny Y + Cal.cum Y M + D - 1 = N := ⟨_, rfl⟩
  rw [hN]
  have yr := Cal.yr_of (n := N) (y := Y) (by omega) (by omega) (by omega) (by omega)
  have mo := Cal.mon_of (y := Y) (r := N - Cal.ny Y) hm.1 hm.2 (by omega) (by omega)
  obtain ⟨a, b, c⟩ := Civ.dd_yes (n := N) ⟨by omega, by omega⟩
  rw [yr] at a b c
  rw [mo] at b c
  exact ⟨⟨by omega, by omega⟩, a, b, by rw [c]; omega, by omega, by omega⟩
/-- A weekday of a yearly rule of one month. -/
theorem day_at {Y M D : Int} {dy : List (Int × Int)} {md : List Int} {q : Int × Int} (hy : 1 ≤ Y ∧ Y ≤ 9999) (hm : 1 ≤ M ∧ M ≤ 12) (hd : 1 ≤ D ∧ D ≤ Cal.mlen Y M) : dayB (rcv M dy md) (Cal.ny Y + Cal.cum Y M + D - 1) q = (decide (q.2 = Cal.wday (Cal.ny Y + Cal.cum Y M + D - 1)) && (decide (q.1 = 0) || (nthB (Cal.ny Y + Cal.cum Y M) (Cal.ny Y + Cal.cum Y M + Cal.mlen Y M - 1) q.1 q.2 && decide (nthV (Cal.ny Y + Cal.cum Y M) (Cal.ny Y + Cal.cum Y M + Cal.mlen Y M - 1) q.1 q.2 = Cal.ny Y + Cal.cum Y M + D - 1)))) := by
  obtain ⟨_, d1, d2, d3, _, _⟩ := dd_at hy hm hd
  have mt : mthB (rcv M dy md) = true := by rfl
  rw [dayB, nthIs, Fil.fromV, Fil.behV, if_pos mt, if_pos mt, d1, d2, mf_at ⟨by omega, by omega⟩ hm, mf_next ⟨by omega, hy.2⟩ hm]
theorem sev_mem {a n : Int} {k : Nat} : n ∈ sevL a k ↔ a ≤ n ∧ n < a + k := by
  rw [sevL, List.mem_map]
  constructor
  · rintro ⟨i, hi, rfl⟩
    rw [List.mem_range] at hi
    omega
  · intro h
    exact ⟨(n - a).toNat, List.mem_range.2 (by omega), by omega⟩
theorem sev_con {a n : Int} {k : Nat} : (sevL a k).contains n = decide (a ≤ n ∧ n < a + k) := by
  by_cases h : a ≤ n ∧ n < a + (k : Int)
  · rw [decide_eq_true h, List.contains_iff_mem]; exact sev_mem.2 h
  · rw [decide_eq_false h]
    cases e : (sevL a k).contains n with
    | false => rfl
    | true => rw [List.contains_iff_mem] at e; exact absurd (sev_mem.1 e) h
theorem sev_nodup (a : Int) (k : Nat) : (sevL a k).Nodup := by
  rw [sevL, List.nodup_iff_pairwise_ne, List.pairwise_map]
  exact List.pairwise_lt_range.imp (fun {i j} h => by omega)
/-- Which day of the month: the rule's lists in plain words. -/
def condB (M : Int) (dy : List (Int × Int)) (md : List Int) (Y D : Int) : Bool := (decide (md = []) || ewB md D (Cal.mlen Y M)) && (decide (dy = []) || dy.any (dayB (rcv M dy md) (Cal.ny Y + Cal.cum Y M + D - 1)))
theorem any_1 {α : Type} (f : α → Bool) (a : α) : [a].any f = f a := by simp
/-- The form's day, moved, is one of its month, and the only one that the rule's lists let. -/
theorem enc_day {M k v d m : Int} {r : CV} (hm : 1 ≤ M ∧ M ≤ 12) (ho : onOk k v d = true) (h : enR M k v d m = some r) : ∃ dy md, r = rcv M dy md ∧ (dy ≠ [] ∨ md ≠ []) ∧ (dyB dy = true ∧ eiB 31 md = true) ∧ ∀ Y, 1 ≤ Y ∧ Y ≤ 9999 → resE Y M k v d = 0 ∧ ∃ E, (1 ≤ E ∧ E ≤ Cal.mlen Y M) ∧ resV Y M k v d + m = Cal.ny Y + Cal.cum Y M + E - 1 ∧ ∀ D, 1 ≤ D ∧ D ≤ Cal.mlen Y M → (condB M dy md Y D = true ↔ D = E) := by
  obtain ⟨hv, hk, hd⟩ := onOk_v ho
  have l1 := Cal.mlen_28 (y := 2001) hm.1 hm.2
  have l2 := Cal.mlen_bd 2001 M
  have sm : ∀ n w : Int, (-53 ≤ n ∧ n ≤ 53) → (0 ≤ w ∧ w ≤ 6) → dyB [(n, w)] = true := fun n w h1 h2 => by
    rw [dyB_iff]
    exact ⟨fun q hq => by rw [List.mem_singleton] at hq; subst hq; exact ⟨h2.1, h2.2, h1.1, h1.2⟩, by simp⟩
  rw [enR] at h
  by_cases k2 : k = 2
  · subst k2
    rw [if_pos rfl] at h
    by_cases m0 : m = 0
    · rw [if_pos m0] at h
      injection h with h
      subst m0
      refine ⟨[(-1, v)], [], h.symm, Or.inl (by simp), ⟨sm _ _ (by decide) hv, by decide⟩, fun Y hY => ?_⟩
      have lb := Cal.mlen_28 (y := Y) hm.1 hm.2
      have lb2 := Cal.mlen_bd Y M
      obtain ⟨n1, _⟩ := numE_yes (y := Y) (m := M) (d := Cal.mlen Y M) ⟨by omega, by omega, by omega, Int.le_refl _⟩
      obtain ⟨r1, r2⟩ := res_0 (y := Y) (m := M) (k := 2) (v := v) (d := d) ho hY (by rw [rday, if_pos rfl]; exact n1)
      rw [if_pos (Or.inl rfl), rday, if_pos rfl, Cal.num] at r2
      have sb := since_bd v (Cal.ny Y + Cal.cum Y M + Cal.mlen Y M - 1)
      obtain ⟨s, hs⟩ : ∃ s, since v (Cal.ny Y + Cal.cum Y M + Cal.mlen Y M - 1) = s := ⟨_, rfl⟩
      rw [hs] at r2 sb
      refine ⟨r1, Cal.mlen Y M - s, by omega, by omega, fun D hD => ?_⟩
      obtain ⟨n2, n3⟩ := nth_neg (f := Cal.ny Y + Cal.cum Y M) (t := Cal.ny Y + Cal.cum Y M + Cal.mlen Y M - 1) (num := -1) (k := v) ⟨by decide, by decide, by decide, hv.1, hv.2⟩ (by decide) (by rw [hs]; omega)
      rw [hs] at n3
      rw [condB, any_1, day_at hY hm hD, n2, n3]
      simp only [decide_true, Bool.true_or, Bool.true_and, Bool.and_eq_true, decide_eq_true_eq, show ¬ ((-1 : Int) = 0) by decide, decide_false, Bool.false_or, show ¬ ([((-1 : Int), v)] = []) by simp]
      rw [since, Cal.wday] at hs
      rw [Cal.wday]
      constructor
      · rintro ⟨_, h2⟩; omega
      · intro e; subst e; omega
    · rw [if_neg m0] at h; exact absurd h (by simp)
  · rw [if_neg k2] at h
    split at h
    · exact absurd h (by simp)
    · rename_i hm40
      split at h
      · exact absurd h (by simp)
      · rename_i hr
        have d1 : 1 ≤ d := by
          have := of_decide_eq_true ho
          omega
        have res : ∀ Y, 1 ≤ Y ∧ Y ≤ 9999 → resE Y M k v d = 0 ∧ resV Y M k v d = (if k = 2 ∨ k = 4 then Cal.ny Y + Cal.cum Y M + d - 1 - since v (Cal.ny Y + Cal.cum Y M + d - 1) else if k = 3 then Cal.ny Y + Cal.cum Y M + d - 1 + untl (Cal.ny Y + Cal.cum Y M + d - 1) v else Cal.ny Y + Cal.cum Y M + d - 1) := fun Y hY => by
          have lb := ml_least Y M
          obtain ⟨n1, _⟩ := numE_yes (y := Y) (m := M) (d := d) ⟨by omega, by omega, d1, by omega⟩
          have q := res_0 (y := Y) (m := M) (k := k) (v := v) (d := d) ho hY (by rw [rday, if_neg k2]; exact n1)
          rw [rday, if_neg k2, Cal.num] at q
          exact q
        split at h
        · rename_i k1
          subst k1
          injection h with h
          have f1 : Enc.fromV 1 d m = d + m := by rw [Enc.fromV, if_neg (by decide)]
          have f2 : Enc.toV 1 d m = d + m := by rw [Enc.toV, if_neg (by decide)]
          rw [f1, f2] at hr
          refine ⟨[], [d + m], h.symm, Or.inr (by simp), ⟨by decide, ?_⟩, fun Y hY => ?_⟩
          · rw [eiB, Bool.and_eq_true, decide_eq_true_eq, frB_iff]
            exact ⟨fun n hn => by rw [List.mem_singleton] at hn; omega, fun n hn => by rw [List.mem_singleton] at hn; omega, by simp⟩
          · have lb := ml_least Y M
            obtain ⟨r1, r2⟩ := res Y hY
            rw [if_neg (by decide), if_neg (by decide)] at r2
            refine ⟨r1, d + m, by omega, by omega, fun D hD => ?_⟩
            rw [condB, ewB]
            simp only [decide_true, Bool.true_or, Bool.and_true, List.contains_cons, List.contains_nil, Bool.or_false, Bool.or_eq_true, beq_iff_eq, show ¬ ([d + m] = []) by simp, decide_false, Bool.false_or]
            omega
        · rename_i k1
          have k34 : k = 3 ∨ k = 4 := by omega
          obtain ⟨fr, hfr⟩ : ∃ z, Enc.fromV k d m = z := ⟨_, rfl⟩
          have f2 : Enc.toV k d m = fr + 6 := by
            rw [← hfr, Enc.fromV, Enc.toV]
            rcases k34 with rfl | rfl
            · rw [if_pos rfl, if_neg (by decide)]
            · rw [if_neg (by decide), if_pos rfl]; omega
          rw [hfr, f2] at hr
          obtain ⟨w, hw⟩ : ∃ w, (v + m) % 7 = w := ⟨_, rfl⟩
          have wb : 0 ≤ w ∧ w ≤ 6 := by omega
          -- where the day lies, of the seven
          have at7 : ∀ Y, 1 ≤ Y ∧ Y ≤ 9999 → ∃ E, (fr ≤ E ∧ E ≤ fr + 6) ∧ resV Y M k v d + m = Cal.ny Y + Cal.cum Y M + E - 1 ∧ Cal.wday (Cal.ny Y + Cal.cum Y M + E - 1) = w := fun Y hY => by
            obtain ⟨_, r2⟩ := res Y hY
            obtain ⟨F, hF⟩ : ∃ F, Cal.ny Y + Cal.cum Y M = F := ⟨_, rfl⟩
            rw [hF] at r2 ⊢
            rcases k34 with rfl | rfl
            · rw [if_neg (by decide), if_pos rfl] at r2
              rw [Enc.fromV, if_neg (by decide)] at hfr
              have ub := untl_bd (F + d - 1) v
              obtain ⟨u, hu⟩ : ∃ u, untl (F + d - 1) v = u := ⟨_, rfl⟩
              rw [hu] at r2 ub
              rw [untl, Cal.wday] at hu
              exact ⟨fr + u, by omega, by omega, by rw [Cal.wday]; omega⟩
            · rw [if_pos (Or.inr rfl)] at r2
              rw [Enc.fromV, if_pos rfl] at hfr
              have sb := since_bd v (F + d - 1)
              obtain ⟨s, hs⟩ : ∃ s, since v (F + d - 1) = s := ⟨_, rfl⟩
              rw [hs] at r2 sb
              rw [since, Cal.wday] at hs
              exact ⟨fr + 6 - s, by omega, by omega, by rw [Cal.wday]; omega⟩
          rw [hfr, hw] at h
          split at h
          · rename_i h7
            injection h with h
            refine ⟨[(fr / 7 + 1, w)], [], h.symm, Or.inl (by simp), ⟨sm _ _ (by omega) wb, by decide⟩, fun Y hY => ?_⟩
            have lb := ml_least Y M
            obtain ⟨E, e1, e2, e3⟩ := at7 Y hY
            refine ⟨(res Y hY).1, E, by omega, e2, fun D hD => ?_⟩
            have ub := untl_bd (Cal.ny Y + Cal.cum Y M) w
            obtain ⟨n2, n3⟩ := nth_pos (f := Cal.ny Y + Cal.cum Y M) (t := Cal.ny Y + Cal.cum Y M + Cal.mlen Y M - 1) (num := fr / 7 + 1) (k := w) ⟨by omega, by omega, by omega, wb.1, wb.2⟩ (by omega) (by omega)
            rw [condB, any_1, day_at hY hm hD, n2, n3]
            simp only [decide_true, Bool.true_or, Bool.true_and, Bool.and_eq_true, Bool.or_eq_true, decide_eq_true_eq, decide_false, Bool.false_or, show ¬ ([(fr / 7 + 1, w)] = []) by simp]
            obtain ⟨F, hF⟩ : ∃ F, Cal.ny Y + Cal.cum Y M = F := ⟨_, rfl⟩
            rw [hF] at e2 e3 ub ⊢
            obtain ⟨u, hu⟩ : ∃ u, untl F w = u := ⟨_, rfl⟩
            rw [hu] at ub ⊢
            rw [untl] at hu
            rw [Cal.wday] at hu e3 ⊢
            constructor
            · rintro ⟨_, h2 | h2⟩
              · omega
              · omega
            · intro e
              subst e
              exact ⟨by omega, Or.inr (by omega)⟩
          · rename_i h7
            injection h with h
            refine ⟨[(0, w)], sevL fr 7, h.symm, Or.inl (by simp), ⟨sm _ _ (by decide) wb, ?_⟩, fun Y hY => ?_⟩
            · rw [eiB, Bool.and_eq_true, decide_eq_true_eq, frB_iff]
              exact ⟨fun n hn => by have := sev_mem.1 hn; omega, fun n hn => by have := sev_mem.1 hn; omega, sev_nodup _ _⟩
            have lb := ml_least Y M
            obtain ⟨E, e1, e2, e3⟩ := at7 Y hY
            refine ⟨(res Y hY).1, E, by omega, e2, fun D hD => ?_⟩
            rw [condB, any_1, day_at hY hm hD, ewB, sev_con, sev_con]
            have ne : ¬ sevL fr 7 = [] := fun e => by
              have := Enc.sev_len fr 7
              rw [e] at this
              simp at this
            simp only [decide_true, Bool.true_or, Bool.and_true, Bool.and_eq_true, Bool.or_eq_true, decide_eq_true_eq, ne, decide_false, Bool.false_or, show ¬ ([((0 : Int), w)] = []) by simp]
            obtain ⟨F, hF⟩ : ∃ F, Cal.ny Y + Cal.cum Y M = F := ⟨_, rfl⟩
            rw [hF] at e2 e3 ⊢
            rw [Cal.wday] at e3 ⊢
            constructor
            · rintro ⟨h1 | h1, h2⟩
              · omega
              · omega
            · intro e
              subst e
              exact ⟨Or.inl (by omega), by omega⟩
end Edy
end Go.Proofs.YtpbbnkgfheafpaaGreatDoor
