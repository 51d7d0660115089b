/-
  value.Times of whatever text of up to a thousand bytes.
-/
import Derived.Test.YtffbkmokjcgflaaDoorVTq
namespace Go.Proofs.YtffbkmokjcgflaaDoor
open Go.RowKit
namespace Val
open Sol Civ Wk
theorem map_id2 (Q : Option (List Int × Bool)) : Q = Q.map (fun x => (([] : List Int) ++ x.1, x.2)) := by cases Q <;> rfl
theorem tms_step {Q : List (List UInt8)} {k : Nat} {M : List Int} {u0 : Bool} {q : List UInt8} {R : List (List UInt8)} {t : Int} {us : Bool} {cc : Int}
    (hT : tmsG true false Q = (tmsG (decide (k = 0)) u0 (Q.drop k)).map (fun x => (M ++ x.1, x.2))) (hd : Q.drop k = q :: R) (hp : ptP q = (t, us, cc)) :
    (cc ≠ 0 ∨ (k ≠ 0 ∧ us ≠ u0) → tmsG true false Q = none) ∧ (¬ (cc ≠ 0 ∨ (k ≠ 0 ∧ us ≠ u0)) → tmsG true false Q = (tmsG false us R).map (fun x => ((M ++ [t]) ++ x.1, x.2))) := by
  rw [hd, tmsG, hp] at hT
  constructor
  · intro h
    rw [hT, if_pos (by rcases h with h | ⟨h, h2⟩; exact Or.inl h; exact Or.inr ⟨decide_eq_false h, h2⟩)]
    rfl
  · intro h
    rw [hT, if_neg (fun e => h (by rcases e with e | ⟨e, e2⟩; exact Or.inl e; exact Or.inr ⟨of_decide_eq_false e, e2⟩)), Option.map_map]
    congr 1
    funext x
    simp
set_option maxHeartbeats 6400000 in
set_option maxRecDepth 100000 in
theorem times_to (s : ByteArray) (S : List UInt8) (L : List Int) (u : Bool) (c : Int) (w : World) (hA : Ahead w) (hsh : MaxL w) (hs : s.size ≤ 1000) (hS : Hid (s.data.toList = S)) (h : Hid (timesR S = (L, u, c))) :
    Calls Tryd.prog 8 #[.string s] w fun e w' => ∃ v, e = .returned (.tuple #[v, .bool u, .int .i64 c]) ∧ IntV w' v L ∧ Below w.heap.size w w' := by
  have HA := Lib.hid hA
  have HS := Lib.hid hsh
  clear hA hsh
  have hP := cm_split s
  rw [hS.out] at hP
  have hl := Lib.splitB_all ⟨#[44]⟩ (by decide) 0 _ s rfl
  have hSl : S.length = s.size := by rw [← hS.out]; rfl
  have hcl := cm_len S []
  have hcs := cm_sz S []
  have hR := h.out
  rw [timesR] at hR
  clear h hS
  obtain ⟨Q, hQ⟩ : ∃ Q, cmG [] S = Q := ⟨_, rfl⟩
  rw [hQ] at hP hR hcl hcs
  go_enter Tryd.func8, Tryd.ntmps8
  go_wp2_with fail
  refine (Tryd.strings_Split _ _ HS.out.choose _ (by omega) HS.out.choose_spec.2 (by decide)).mono ?_
  rintro e w1 ⟨rfl, rfl⟩
  obtain ⟨P, hPe⟩ : ∃ P, Lib.splitB ⟨#[44]⟩ 0 (Lib.countB s ⟨#[44]⟩) s = P := ⟨_, rfl⟩
  rw [hPe] at hP hl ⊢
  obtain ⟨n, hn⟩ : ∃ n, Lib.countB s ⟨#[44]⟩ + 1 = n := ⟨_, rfl⟩
  rw [hn] at hl ⊢
  have hQl : Q.length = n := by rw [← hP, List.length_map, hl]
  have hQn : 0 < n := by omega
  have hn1 : n ≤ 1001 := by omega
  have hb0 : Below w.heap.size w (w.alloc (Obj.cells (P.map Value.string).toArray 9)) := (Below.refl _ _).alloc (Nat.le_refl _) _
  have k0 : ∀ (j : Nat) (hj : j < P.length), (w.alloc (Obj.cells (P.map Value.string).toArray 9)).cell? ⟨w.heap.size, j, none⟩ = some (.string P[j]) := by
    intro j hj
    rw [World.cell?_alloc_new]; simp [hj]
  have hz : w.heap.size < (w.alloc (Obj.cells (P.map Value.string).toArray 9)).heap.size := by simp
  have HK : Hid (∀ (j : Nat) (hj : j < P.length), ∃ q : ByteArray, Q.drop j = q.data.toList :: Q.drop (j + 1) ∧ q.size ≤ 1000 ∧ (w.alloc (Obj.cells (P.map Value.string).toArray 9)).cell? ⟨w.heap.size, j, none⟩ = some (.string q)) := Lib.hid (by
    intro j hj
    have hjQ : j < Q.length := by rw [hQl, ← hl]; exact hj
    have e : Q[j] = P[j].data.toList := by subst hP; rw [List.getElem_map]
    refine ⟨P[j], by rw [List.drop_eq_getElem_cons hjQ, e], ?_, k0 j hj⟩
    have := hcs Q[j] (List.getElem_mem hjQ)
    rw [e, hSl] at this
    have e2 : P[j].data.toList.length = P[j].size := rfl
    rw [e2, List.length_nil] at this
    omega)
  have HL := Lib.hid hl
  have HR := Lib.hid hR
  have HQ := Lib.hid hQl
  clear k0 hcs hcl hP hPe hl hR hSl hn hQ hQl
  generalize w.alloc (Obj.cells (P.map Value.string).toArray 9) = w1 at hb0 HK hz ⊢
  go_wp2_with fail
  go_loopw [2, 3, 13] (fun lv uv iv wr => ∃ (k : Nat) (M : List Int) (u0 : Bool), k ≤ n ∧ M.length = k ∧ iv = .int .i64 k ∧ uv = .bool u0 ∧ Hid (tmsG true false Q = (tmsG (decide (k = 0)) u0 (Q.drop k)).map (fun x => (M ++ x.1, x.2))) ∧ RowI w1.heap.size wr lv M ∧ Below w.heap.size w wr ∧ Below w1.heap.size w1 wr) (fun _ _ iv _ => n - (intOf iv).toNat)
  case atStart => exact ⟨0, [], false, Nat.zero_le _, rfl, rfl, rfl, Lib.hid (map_id2 _), RowI.nil _ _, hb0, Below.refl _ _⟩
  case round =>
    obtain ⟨k, M, u0, hk, hM, rfl, rfl, hT, hI, hb, hb'⟩ := hrel
    by_cases hlt : k < n
    · obtain ⟨q, hd, hqs, hc⟩ := HK.out k (by rw [HL.out]; exact hlt)
      have hc2 := (hb'.cell (p := ⟨w.heap.size, k, none⟩) hz).trans hc
      obtain ⟨t, us, cc, hpt⟩ : ∃ t us cc, ptP q.data.toList = (t, us, cc) := ⟨_, _, _, rfl⟩
      obtain ⟨st1, st2⟩ := tms_step hT.out hd hpt
      have HPT := Lib.hid hpt
      have hbz : w.heap.size ≤ wr.heap.size := hb.size
      clear hd hc hpt hT
      by_cases hbad : cc ≠ 0 ∨ (k ≠ 0 ∧ us ≠ u0)
      · have hRR := HR.out
        rw [st1 hbad] at hRR
        obtain ⟨rfl, h2⟩ := Prod.mk.inj hRR
        obtain ⟨rfl, rfl⟩ := Prod.mk.inj h2
        clear st1 st2 hRR HR h2 HK hI
        by_cases hc0 : cc = 0
        · subst hc0
          obtain ⟨hk0, hne⟩ : k ≠ 0 ∧ us ≠ u0 := by
            rcases hbad with e | e
            · exact absurd rfl e
            · exact e
          have hkp : (0 : Int) < (k : Int) := by omega
          have hn1 : (us == u0) = false := beq_eq_false_iff_ne.2 hne
          have hn2 : (us != u0) = true := bne_iff_ne.2 hne
          clear hbad hne hk0
          go_wp2_with fail
          refine (ptime_to q _ t 0 us _ (HA.out.stays hb) hqs (Lib.hid rfl) HPT).mono ?_
          rintro e w2 ⟨rfl, hb1⟩
          go_wp2
          go_ret3
          exact ⟨_, rfl, IntV.none _, hb.trans (hb1.mono hbz)⟩
        · have hc1 : (cc == 0) = false := beq_eq_false_iff_ne.2 hc0
          have hc3 : (cc != 0) = true := bne_iff_ne.2 hc0
          clear hbad
          go_wp2_with fail
          refine (ptime_to q _ t cc us _ (HA.out.stays hb) hqs (Lib.hid rfl) HPT).mono ?_
          rintro e w2 ⟨rfl, hb1⟩
          go_wp2
          go_ret3
          exact ⟨_, rfl, IntV.none _, hb.trans (hb1.mono hbz)⟩
      · have HN : Hid (tmsG true false Q = (tmsG (decide (k + 1 = 0)) us (Q.drop (k + 1))).map (fun x => ((M ++ [t]) ++ x.1, x.2))) := Lib.hid (by rw [decide_eq_false (show ¬ k + 1 = 0 by omega)]; exact st2 hbad)
        have hc0 : cc = 0 := Decidable.byContradiction fun e => hbad (Or.inl e)
        subst hc0
        have hku : k = 0 ∨ (k ≠ 0 ∧ us = u0) := by
          by_cases e : k = 0
          · exact Or.inl e
          · exact Or.inr ⟨e, Decidable.byContradiction fun e2 => hbad (Or.inr ⟨e, e2⟩)⟩
        have HM : Hid ((M ++ [t]).length = k + 1) := Lib.hid (by rw [List.length_append, hM]; rfl)
        clear st1 st2 hbad HK
        rcases hku with hk0 | ⟨hk0, rfl⟩
        · subst hk0
          go_wp2_with fail
          refine (ptime_to q _ t 0 us _ (HA.out.stays hb) hqs (Lib.hid rfl) HPT).mono ?_
          rintro e w2 ⟨rfl, hb1⟩
          have hI2 := hI.below hb1
          have hb2 := hb.trans (hb1.mono hbz)
          have hb2' := hb'.trans (hb1.mono hb'.size)
          clear hI hb hb' hb1
          go_wp2_with (at_builtin; refine appI rfl _ _ rfl w1.heap.size _ M rfl hI2 t rfl (by omega) hb2'.size ?_)
          intro w5 gg gcap r5 g5
          have hb5 := g5 _ _ (Nat.le_of_lt hz) hb2 hb2.size
          have hb5' := g5 _ _ (Nat.le_refl _) hb2' hb2'.size
          clear g5 hI2 hb2 hb2'
          try rw [hM] at r5
          try rw [hM]
          go_wp2
          go_roundw
          case rel => exact ⟨1, M ++ [t], us, by omega, HM.out, by go_num, rfl, HN, by first | exact r5 | (rw [hM] at r5; exact r5), hb5, hb5'⟩
          case measure => simp [intOf]; omega
        · have hkp : (0 : Int) < (k : Int) := by omega
          have uu : (us == us) = true := beq_self_eq_true us
          go_wp2_with fail
          refine (ptime_to q _ t 0 us _ (HA.out.stays hb) hqs (Lib.hid rfl) HPT).mono ?_
          rintro e w2 ⟨rfl, hb1⟩
          have hI2 := hI.below hb1
          have hb2 := hb.trans (hb1.mono hbz)
          have hb2' := hb'.trans (hb1.mono hb'.size)
          clear hI hb hb' hb1
          go_wp2_with (at_builtin; refine appI rfl _ _ rfl w1.heap.size _ M rfl hI2 t rfl (by omega) hb2'.size ?_)
          intro w5 gg gcap r5 g5
          have hb5 := g5 _ _ (Nat.le_of_lt hz) hb2 hb2.size
          have hb5' := g5 _ _ (Nat.le_refl _) hb2' hb2'.size
          clear g5 hI2 hb2 hb2'
          try rw [hM] at r5
          try rw [hM]
          go_wp2
          go_roundw
          case rel => exact ⟨k + 1, M ++ [t], us, by omega, HM.out, by go_num, rfl, HN, by first | exact r5 | (rw [hM] at r5; exact r5), hb5, hb5'⟩
          case measure => simp [intOf]; omega
    · have hkn : k = n := by omega
      have e : tmsG true false Q = some (M, u0) := by
        rw [hT.out, List.drop_eq_nil_of_le (by rw [HQ.out]; omega), tmsG]
        simp
      have hRR := HR.out
      rw [e] at hRR
      obtain ⟨rfl, h2⟩ := Prod.mk.inj hRR
      obtain ⟨rfl, rfl⟩ := Prod.mk.inj h2
      clear hRR h2 e hT HR HK HQ HL
      have hv := hI.ints
      clear hI
      go_wp2
      go_ret3
      exact ⟨_, rfl, hv, hb⟩
end Val
end Go.Proofs.YtffbkmokjcgflaaDoor
