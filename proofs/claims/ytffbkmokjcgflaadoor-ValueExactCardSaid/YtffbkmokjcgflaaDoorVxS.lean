/-
  The reference's Times. (Written by gen/gen_vxs.py.)
-/
import Derived.Test.YtffbkmokjcgflaaDoorVxP
import Derived.Test.YtffbkmokjcgflaaDoorVTq
namespace Go.Proofs.YtffbkmokjcgflaaDoor
open Go.RowKit
namespace Val
open Sol Civ Wk Cel
/-- The pieces still to read: one from fr on, read up to i. -/
def pcs (S : List UInt8) (fr i : Nat) : List (List UInt8) := if i ≤ S.length then cmG ((S.drop fr).take (i - fr)) (S.drop i) else []
theorem pcs_skip {S : List UInt8} {fr i : Nat} (h : fr ≤ i) (hi : i < S.length) (hc : S[i] ≠ 44) : pcs S fr i = pcs S fr (i + 1) := by
  have e : (S.drop fr).take (i + 1 - fr) = (S.drop fr).take (i - fr) ++ [S[i]] := by
    have hk : i - fr < (S.drop fr).length := by rw [List.length_drop]; omega
    have e2 : (S.drop fr)[i - fr] = S[i] := by
      rw [List.getElem_drop]
      congr 1
      omega
    rw [show i + 1 - fr = i - fr + 1 by omega, List.take_succ_eq_append_getElem hk, e2]
  rw [pcs, pcs, if_pos (by omega), if_pos (by omega), List.drop_eq_getElem_cons hi, cmG, if_neg hc, e]
theorem pcs_cut {S : List UInt8} {fr i : Nat} (hi : i < S.length) (hc : S[i] = 44) : pcs S fr i = (S.drop fr).take (i - fr) :: pcs S (i + 1) (i + 1) := by
  rw [pcs, pcs, if_pos (by omega), if_pos (by omega), List.drop_eq_getElem_cons hi, cmG, if_pos hc, Nat.sub_self, List.take_zero]
theorem pcs_end {S : List UInt8} {fr i : Nat} (hi : i = S.length) : pcs S fr i = (S.drop fr).take (i - fr) :: pcs S (i + 1) (i + 1) := by
  subst hi
  rw [pcs, pcs, if_pos (Nat.le_refl _), if_neg (by omega), List.drop_length, cmG]
theorem pcs_out {S : List UInt8} {fr i : Nat} (hi : S.length < i) : pcs S fr i = [] := by rw [pcs, if_neg (by omega)]
theorem pcs_start (S : List UInt8) : pcs S 0 0 = cmG [] S := by rw [pcs, if_pos (Nat.zero_le _)]; simp
theorem map_id3 (Q : Option (List Int × Bool)) : Q = Q.map (fun x => (([] : List Int) ++ x.1, x.2)) := by cases Q <;> rfl
theorem tms_stp {Q : List (List UInt8)} {m : Nat} {M : List Int} {u0 : Bool} {q : List UInt8} {P R : List (List UInt8)} {t : Int} {us : Bool} {cc : Int}
    (hT : tmsG true false Q = (tmsG (decide (m = 0)) u0 P).map (fun x => (M ++ x.1, x.2))) (hd : P = q :: R) (hp : ptP q = (t, us, cc)) :
    (cc ≠ 0 ∨ (m ≠ 0 ∧ us ≠ u0) → tmsG true false Q = none) ∧ (¬ (cc ≠ 0 ∨ (m ≠ 0 ∧ us ≠ u0)) → tmsG true false Q = (tmsG false us R).map (fun x => ((M ++ [t]) ++ x.1, x.2))) := by
  rw [hd, tmsG, hp] at hT
  constructor
  · intro h
    rw [hT, if_pos (by rcases h with h | ⟨h, h2⟩; exact Or.inl h; exact Or.inr ⟨decide_eq_false h, h2⟩)]
    rfl
  · intro h
    rw [hT, if_neg (fun e => h (by rcases e with e | ⟨e, e2⟩; exact Or.inl e; exact Or.inr ⟨of_decide_eq_false e, e2⟩)), Option.map_map]
    congr 1
    funext x
    simp
theorem rpt_c (s : ByteArray) (S : List UInt8) (t c : Int) (u ok : Bool) (w : World) (hS : Hid (s.data.toList = S)) (h : Hid (ptP S = (t, u, c))) (hok : decide (c = 0) = ok) :
    Calls Tryd.prog 9 #[.string s] w fun e w' => e = .returned (.tuple #[.int .i64 t, .bool u, .bool ok]) ∧ Below w.heap.size w w' := by
  subst hok
  exact rptime_to s S t c u w hS.out h
set_option maxHeartbeats 12800000 in
set_option maxRecDepth 100000 in
theorem rtimes_to (s : ByteArray) (S : List UInt8) (L : List Int) (u : Bool) (c : Int) (w : World) (hs : s.size ≤ 1000) (hS : Hid (s.data.toList = S)) (h : Hid (timesR S = (L, u, c))) :
    Calls Tryd.prog 11 #[.string s] w fun e w' => ∃ v, e = .returned (.tuple #[v, .bool u, .bool (decide (c = 0))]) ∧ IntV w' v L ∧ Below w.heap.size w w' := by
  have hl : S.length = s.size := by rw [← hS.out]; rfl
  have HL := Lib.hid hl
  have hR := h.out
  rw [timesR] at hR
  have HR := Lib.hid hR
  have HS0 : Hid (tmsG true false (cmG [] S) = (tmsG (decide (0 = 0)) false (pcs S 0 0)).map (fun x => (([] : List Int) ++ x.1, x.2))) := Lib.hid (by rw [pcs_start]; exact map_id3 _)
  clear h hR hl
  go_enter Tryd.func11, Tryd.ntmps11
  go_wp2_with fail
  go_loopw [5, 6, 7, 8] (fun lv uv fv iv wr => ∃ (i fr m cap : Nat) (a0 : Option Addr) (M : List Int) (u0 : Bool), lv = .slice a0 m cap ∧ fr ≤ i ∧ i ≤ s.size + 1 ∧ m ≤ i ∧ M.length = m ∧ iv = .int .i64 i ∧ fv = .int .i64 fr ∧ uv = .bool u0 ∧ Hid (tmsG true false (cmG [] S) = (tmsG (decide (m = 0)) u0 (pcs S fr i)).map (fun x => (M ++ x.1, x.2))) ∧ RowI w.heap.size wr (.slice a0 m cap) M ∧ Below w.heap.size w wr) (fun _ _ _ iv _ => s.size + 1 - (intOf iv).toNat)
  case atStart => exact ⟨0, 0, 0, 0, none, [], false, rfl, Nat.le_refl _, Nat.zero_le _, Nat.le_refl _, rfl, rfl, rfl, rfl, HS0, RowI.nil _ _, Below.refl _ _⟩
  case round =>
    obtain ⟨i, fr, m, cap, a0, M, u0, rfl, hfr, hi, hm, hM, rfl, rfl, rfl, hT, hI, hb⟩ := hrel
    by_cases hle : i ≤ s.size
    · by_cases hlt : i < s.size
      · have hiS : i < S.length := by rw [HL.out]; exact hlt
        have hcc : S[i] = s[i] := by
          have : s[i] = s.data.toList[i]'(by simpa using hlt) := by simp [ByteArray.getElem_eq_getElem_data]
          rw [this]
          exact (List.getElem_of_eq hS.out _).symm
        by_cases h44 : s[i] = 44
        · have HD : Hid (pcs S fr i = (S.drop fr).take (i - fr) :: pcs S (i + 1) (i + 1)) := Lib.hid (pcs_cut hiS (hcc.trans h44))
          have y44 : ((s[i].toNat : Int) != 44) = false := by rw [h44]; rfl
          clear h44 hcc hiS
          have HE : Hid ((s.extract fr i).data.toList = (S.drop fr).take (i - fr)) := Lib.hid (by rw [Lib.extract_data, hS.out])
          obtain ⟨t, us, cc, hpt⟩ : ∃ t us cc, ptP ((S.drop fr).take (i - fr)) = (t, us, cc) := ⟨_, _, _, rfl⟩
          obtain ⟨st1, st2⟩ := tms_stp hT.out HD.out hpt
          have HPT := Lib.hid hpt
          have hbz : w.heap.size ≤ wr.heap.size := hb.size
          clear hpt hT HD
          by_cases hbad : cc ≠ 0 ∨ (m ≠ 0 ∧ us ≠ u0)
          · have hRR := HR.out
            rw [st1 hbad] at hRR
            obtain ⟨rfl, h2⟩ := Prod.mk.inj hRR
            obtain ⟨rfl, rfl⟩ := Prod.mk.inj h2
            clear st1 st2 hRR HR h2 HS0
            by_cases hc0 : cc = 0
            · subst hc0
              obtain ⟨hk0, hne⟩ : m ≠ 0 ∧ us ≠ u0 := by
                rcases hbad with e | e
                · exact absurd rfl e
                · exact e
              have hkp : (0 : Int) < (m : Int) := by omega
              have hn1 : (us == u0) = false := beq_eq_false_iff_ne.2 hne
              have hn2 : (us != u0) = true := bne_iff_ne.2 hne
              clear hbad hne hk0 hI hM
              go_wp2_with fail
              refine (rpt_c _ _ t 0 us true _ HE HPT rfl).mono ?_
              rintro e w2 ⟨rfl, hb1⟩
              go_wp2
              go_ret3
              exact ⟨_, rfl, IntV.none _, hb.trans (hb1.mono hbz)⟩
            · clear hbad hI
              go_wp2_with fail
              refine (rpt_c _ _ t cc us false _ HE HPT (decide_eq_false hc0)).mono ?_
              rintro e w2 ⟨rfl, hb1⟩
              go_wp2
              go_ret3
              exact ⟨_, rfl, IntV.none _, hb.trans (hb1.mono hbz)⟩
          · have HN : Hid (tmsG true false (cmG [] S) = (tmsG (decide (m + 1 = 0)) us (pcs S (i + 1) (i + 1))).map (fun x => ((M ++ [t]) ++ x.1, x.2))) := Lib.hid (by rw [decide_eq_false (show ¬ m + 1 = 0 by omega)]; exact st2 hbad)
            have hc0 : cc = 0 := Decidable.byContradiction fun e => hbad (Or.inl e)
            subst hc0
            have hku : m = 0 ∨ (m ≠ 0 ∧ us = u0) := by
              by_cases e : m = 0
              · exact Or.inl e
              · exact Or.inr ⟨e, Decidable.byContradiction fun e2 => hbad (Or.inr ⟨e, e2⟩)⟩
            have HM : Hid ((M ++ [t]).length = m + 1) := Lib.hid (by rw [List.length_append, hM]; rfl)
            have hMl : M.length ≤ 1000000000 := by omega
            clear st1 st2 hbad HS0
            rcases hku with hk0 | ⟨hk0, rfl⟩
            · subst hk0
              go_wp2_with fail
              refine (rpt_c _ _ t 0 us true _ HE HPT rfl).mono ?_
              rintro e w2 ⟨rfl, hb1⟩
              have hI2 := hI.below hb1
              have hb2 := hb.trans (hb1.mono hbz)
              clear hI hb hb1
              go_wp2_with (at_builtin; refine appI rfl _ _ rfl w.heap.size _ M rfl hI2 t rfl hMl hb2.size ?_)
              intro w5 gg gcap r5 g5
              have hb5 := g5 _ _ (Nat.le_refl _) hb2 hb2.size
              clear g5 hI2 hb2
              try rw [hM] at r5
              try rw [hM]
              go_wp2
              go_roundw
              case rel => exact ⟨i + 1, i + 1, 0 + 1, gcap, _, M ++ [t], us, rfl, Nat.le_refl _, by omega, by omega, HM.out, by go_num, by go_num, rfl, HN, r5, hb5⟩
              case measure => simp [intOf] <;> omega
            · have hkp : (0 : Int) < (m : Int) := by omega
              have uu : (us == us) = true := beq_self_eq_true us
              go_wp2_with fail
              refine (rpt_c _ _ t 0 us true _ HE HPT rfl).mono ?_
              rintro e w2 ⟨rfl, hb1⟩
              have hI2 := hI.below hb1
              have hb2 := hb.trans (hb1.mono hbz)
              clear hI hb hb1
              go_wp2_with (at_builtin; refine appI rfl _ _ rfl w.heap.size _ M rfl hI2 t rfl hMl hb2.size ?_)
              intro w5 gg gcap r5 g5
              have hb5 := g5 _ _ (Nat.le_refl _) hb2 hb2.size
              clear g5 hI2 hb2
              try rw [hM] at r5
              try rw [hM]
              go_wp2
              go_roundw
              case rel => exact ⟨i + 1, i + 1, m + 1, gcap, _, M ++ [t], us, rfl, Nat.le_refl _, by omega, by omega, HM.out, by go_num, by go_num, rfl, HN, r5, hb5⟩
              case measure => simp [intOf] <;> omega
        · have HT2 : Hid (tmsG true false (cmG [] S) = (tmsG (decide (m = 0)) u0 (pcs S fr (i + 1))).map (fun x => (M ++ x.1, x.2))) := Lib.hid (by rw [← pcs_skip hfr hiS (fun e => h44 (hcc.symm.trans e))]; exact hT.out)
          have y44 : ((s[i].toNat : Int) != 44) = true := bne_iff_ne.2 (fun e => h44 (UInt8.toNat_inj.1 (by show _ = 44; omega)))
          clear h44 hcc hiS hT HR HS0
          go_wp2
          go_roundw
          case rel => exact ⟨i + 1, fr, m, cap, a0, M, u0, rfl, by omega, by omega, by omega, hM, by go_num, rfl, rfl, HT2, hI, hb⟩
          case measure => simp [intOf] <;> omega
      · have hie : i = s.size := by omega
        subst hie
        have HD : Hid (pcs S fr s.size = (S.drop fr).take (s.size - fr) :: pcs S (s.size + 1) (s.size + 1)) := Lib.hid (pcs_end HL.out.symm)
        have HE : Hid ((s.extract fr s.size).data.toList = (S.drop fr).take (s.size - fr)) := Lib.hid (by rw [Lib.extract_data, hS.out])
        obtain ⟨t, us, cc, hpt⟩ : ∃ t us cc, ptP ((S.drop fr).take (s.size - fr)) = (t, us, cc) := ⟨_, _, _, rfl⟩
        obtain ⟨st1, st2⟩ := tms_stp hT.out HD.out hpt
        have HPT := Lib.hid hpt
        have hbz : w.heap.size ≤ wr.heap.size := hb.size
        clear hpt hT HD
        by_cases hbad : cc ≠ 0 ∨ (m ≠ 0 ∧ us ≠ u0)
        · have hRR := HR.out
          rw [st1 hbad] at hRR
          obtain ⟨rfl, h2⟩ := Prod.mk.inj hRR
          obtain ⟨rfl, rfl⟩ := Prod.mk.inj h2
          clear st1 st2 hRR HR h2 HS0
          by_cases hc0 : cc = 0
          · subst hc0
            obtain ⟨hk0, hne⟩ : m ≠ 0 ∧ us ≠ u0 := by
              rcases hbad with e | e
              · exact absurd rfl e
              · exact e
            have hkp : (0 : Int) < (m : Int) := by omega
            have hn1 : (us == u0) = false := beq_eq_false_iff_ne.2 hne
            have hn2 : (us != u0) = true := bne_iff_ne.2 hne
            clear hbad hne hk0 hI hM
            go_wp2_with fail
            refine (rpt_c _ _ t 0 us true _ HE HPT rfl).mono ?_
            rintro e w2 ⟨rfl, hb1⟩
            go_wp2
            go_ret3
            exact ⟨_, rfl, IntV.none _, hb.trans (hb1.mono hbz)⟩
          · clear hbad hI
            go_wp2_with fail
            refine (rpt_c _ _ t cc us false _ HE HPT (decide_eq_false hc0)).mono ?_
            rintro e w2 ⟨rfl, hb1⟩
            go_wp2
            go_ret3
            exact ⟨_, rfl, IntV.none _, hb.trans (hb1.mono hbz)⟩
        · have HN : Hid (tmsG true false (cmG [] S) = (tmsG (decide (m + 1 = 0)) us (pcs S (s.size + 1) (s.size + 1))).map (fun x => ((M ++ [t]) ++ x.1, x.2))) := Lib.hid (by rw [decide_eq_false (show ¬ m + 1 = 0 by omega)]; exact st2 hbad)
          have hc0 : cc = 0 := Decidable.byContradiction fun e => hbad (Or.inl e)
          subst hc0
          have hku : m = 0 ∨ (m ≠ 0 ∧ us = u0) := by
            by_cases e : m = 0
            · exact Or.inl e
            · exact Or.inr ⟨e, Decidable.byContradiction fun e2 => hbad (Or.inr ⟨e, e2⟩)⟩
          have HM : Hid ((M ++ [t]).length = m + 1) := Lib.hid (by rw [List.length_append, hM]; rfl)
          have hMl : M.length ≤ 1000000000 := by omega
          clear st1 st2 hbad HS0
          rcases hku with hk0 | ⟨hk0, rfl⟩
          · subst hk0
            go_wp2_with fail
            refine (rpt_c _ _ t 0 us true _ HE HPT rfl).mono ?_
            rintro e w2 ⟨rfl, hb1⟩
            have hI2 := hI.below hb1
            have hb2 := hb.trans (hb1.mono hbz)
            clear hI hb hb1
            go_wp2_with (at_builtin; refine appI rfl _ _ rfl w.heap.size _ M rfl hI2 t rfl hMl hb2.size ?_)
            intro w5 gg gcap r5 g5
            have hb5 := g5 _ _ (Nat.le_refl _) hb2 hb2.size
            clear g5 hI2 hb2
            try rw [hM] at r5
            try rw [hM]
            go_wp2
            go_roundw
            case rel => exact ⟨s.size + 1, s.size + 1, 0 + 1, gcap, _, M ++ [t], us, rfl, Nat.le_refl _, by omega, by omega, HM.out, by go_num, by go_num, rfl, HN, r5, hb5⟩
            case measure => simp [intOf] <;> omega
          · have hkp : (0 : Int) < (m : Int) := by omega
            have uu : (us == us) = true := beq_self_eq_true us
            go_wp2_with fail
            refine (rpt_c _ _ t 0 us true _ HE HPT rfl).mono ?_
            rintro e w2 ⟨rfl, hb1⟩
            have hI2 := hI.below hb1
            have hb2 := hb.trans (hb1.mono hbz)
            clear hI hb hb1
            go_wp2_with (at_builtin; refine appI rfl _ _ rfl w.heap.size _ M rfl hI2 t rfl hMl hb2.size ?_)
            intro w5 gg gcap r5 g5
            have hb5 := g5 _ _ (Nat.le_refl _) hb2 hb2.size
            clear g5 hI2 hb2
            try rw [hM] at r5
            try rw [hM]
            go_wp2
            go_roundw
            case rel => exact ⟨s.size + 1, s.size + 1, m + 1, gcap, _, M ++ [t], us, rfl, Nat.le_refl _, by omega, by omega, HM.out, by go_num, by go_num, rfl, HN, r5, hb5⟩
            case measure => simp [intOf] <;> omega
    · have e : tmsG true false (cmG [] S) = some (M, u0) := by
        rw [hT.out, pcs_out (by rw [HL.out]; omega), tmsG]
        simp
      have hRR := HR.out
      rw [e] at hRR
      obtain ⟨rfl, h2⟩ := Prod.mk.inj hRR
      obtain ⟨rfl, rfl⟩ := Prod.mk.inj h2
      clear hRR h2 e hT HR HS0 HL
      have hv := hI.ints
      clear hI
      go_wp2
      go_ret3
      exact ⟨_, rfl, hv, hb⟩
end Val
end Go.Proofs.YtffbkmokjcgflaaDoor
