/-
  line.Parse: what it hands back is the call's own.
-/
import Derived.Test.YtdakpncfophjnaaBdAJ
namespace Go.Proofs.Ytdakpncfophjnaa
open Go.RowKit
namespace Lin
open CutB Cel
open Opn (TxtV)
open Rws (RowS)
def LpW (r : Int × LV) (w : World) (e : Ending) (w' : World) : Prop := ∃ (pv : Value), e = .returned (.tuple #[.agg #[.string ⟨r.2.nm.toArray⟩, pv, .string ⟨r.2.vl.toArray⟩], .int .i64 r.1]) ∧ Hid (ParR w.heap.size w' pv r.2.ps ∧ r.2.nm.length ≤ 1000000 ∧ r.2.vl.length ≤ 1000000 ∧ r.2.ps.length ≤ 1000000 ∧ ∀ p ∈ r.2.ps, smlP p) ∧ Below w.heap.size w w'
theorem zqw (w w' : World) (hb : Below w.heap.size w w') : LpW (18, LV.zero) w (.returned (.tuple #[.agg #[.string ⟨#[]⟩, .slice none 0 0, .string ⟨#[]⟩], .int .i64 18])) w' :=
  ⟨_, rfl, Lib.hid ⟨ParR.nil _ _, by simp [LV.zero], by simp [LV.zero], by simp [LV.zero], by simp [LV.zero]⟩, hb⟩
set_option maxHeartbeats 25600000 in
set_option maxRecDepth 100000 in
theorem lpw_to (s : ByteArray) (S : List UInt8) (w : World) (hs : s.size ≤ 800000) (hS : Hid (s.data.toList = S)) :
    Calls Try.prog 15 #[.string s] w (LpW (lnP S) w) := by
  have hl : S.length = s.size := by rw [← hS.out]; simp
  by_cases y : tlT [58, 59] S = []
  · have HR : Hid (lnP S = (18, LV.zero)) := Lib.hid (by rw [lnP_eq, if_pos y])
    have HB : Hid (Lib.indexAny S [58, 59] = -1) := Lib.hid (by rw [ia_eq, if_pos y])
    rw [HR.out]
    clear y hl
    go_enter Try.func15, Try.ntmps15
    go_wp2_with fail
    refine (ia_v _ _ S [58, 59] (-1) _ sg2 (by omega) hS HB).mono ?_
    rintro e w1 ⟨rfl, b1⟩
    have C1 := Lib.hid (Cs.below (Cs.new w [.string ⟨#[]⟩, .slice none 0 0, .string ⟨#[]⟩] 24) b1)
    have B1 := Lib.hid (bstep ((Below.refl w.heap.size w).alloc (Nat.le_refl _) _) b1)
    have z0 := (C1.out.2 0 _ rfl).1
    have y0 := (C1.out.2 0 _ rfl).2
    have z1 := (C1.out.2 1 _ rfl).1
    have y1 := (C1.out.2 1 _ rfl).2
    have z2 := (C1.out.2 2 _ rfl).1
    have y2 := (C1.out.2 2 _ rfl).2
    clear b1
    go_wp2
    exact bodyPost_ret (v := .tuple #[.agg #[.string ⟨#[]⟩, .slice none 0 0, .string ⟨#[]⟩], .int .i64 18]) (by simp (maxDischargeDepth := 9) [results, Try.results15, go_sem, z0, z1, z2]) rfl (zqw _ _ (by repeat (first | with_reducible exact B1.out | with_reducible refine Below.setCell ?_ (by exact Nat.le_refl _) _)))
  · obtain ⟨o, ho⟩ : ∃ o, pgL (S.length + 1) (tlT [58, 59] S) [] = o := ⟨_, rfl⟩
    obtain ⟨m, hm⟩ : ∃ m, (hdT [58, 59] S).length = m := ⟨_, rfl⟩
    have HR : Hid (lnP S = lpO (hdT [58, 59] S) o) := Lib.hid (by rw [lnP_eq, if_neg y, ho])
    have HB : Hid (Lib.indexAny S [58, 59] = (m : Int)) := Lib.hid (by rw [ia_eq, if_neg y, hm])
    have hlt : m < s.size := by rw [← hl, ← hm]; exact hd_lt y
    have HA : Hid (s.extract 0 m = ⟨(hdT [58, 59] S).toArray⟩ ∧ (s.extract m s.size).data.toList = tlT [58, 59] S) := Lib.hid ⟨Rws.ba_eq (by rw [dt0, hS.out, ← hm, take_hd]), by rw [dtE, hS.out, ← hm, drop_hd]⟩
    have HLN : Hid (0 < (tlT [58, 59] S).length ∧ (tlT [58, 59] S).length < S.length + 1 ∧ (tlT [58, 59] S).length ≤ 900000 ∧ (hdT [58, 59] S).length ≤ 1000000) := Lib.hid ⟨List.length_pos_iff.2 y, by have := tl_len [58, 59] S; omega, by have := tl_len [58, 59] S; omega, by have := hd_len [58, 59] S; omega⟩
    have HO := Lib.hid ho
    have t1 : (m : Int).toNat = m := rfl
    rw [HR.out]
    clear y hl ho hm HR
    go_enter Try.func15, Try.ntmps15
    go_wp2_with fail
    refine (ia_v _ _ S [58, 59] (m : Int) _ sg2 (by omega) hS HB).mono ?_
    rintro e w1 ⟨rfl, b1⟩
    have C1 := Lib.hid (Cs.below (Cs.new w [.string ⟨#[]⟩, .slice none 0 0, .string ⟨#[]⟩] 24) b1)
    have B1 := Lib.hid (bstep ((Below.refl w.heap.size w).alloc (Nat.le_refl _) _) b1)
    have gz : w.heap.size < w1.heap.size := C1.out.1
    clear b1
    go_wp2
    go_loopw [0] (LpR w w1.heap.size (s.extract 0 m) o) (fun sv _ => szL sv)
    case atStart =>
      exact ⟨S.length + 1, tlT [58, 59] S, [], .slice none 0 0, _, rfl, Lib.hid HA.out.2, HLN.out.1, HLN.out.2.1, by simpa using HLN.out.2.2.1, HO, C1.out.alloc _, Cs.new _ _ _, ParR.nil _ _, Lib.hid (by simp), B1.out.alloc B1.out.size _⟩
    case round =>
      obtain ⟨f, T, acc, pv, t, rfl, hT, h0, hf, hlen, hG, hC, hQ, hRw, hsm, hB⟩ := hrel
      have hz : t.size = T.length := by rw [← hT.out]; simp
      have hzb : t.size ≤ 900000 := by omega
      obtain ⟨f, rfl⟩ : ∃ k, f = k + 1 := ⟨f - 1, by omega⟩
      have C2 := Lib.hid hC
      have Q2 := Lib.hid hQ
      have B2 := Lib.hid hB
      have R2 := Lib.hid hRw
      have HZ := Lib.hid hz
      clear hC hB hRw hQ
      obtain ⟨c, U, rfl⟩ : ∃ c U, T = c :: U := by
        cases T with
        | nil => simp at h0
        | cons c U => exact ⟨c, U, rfl⟩
      have ht0 : 0 < t.size := by rw [hz]; simp
      obtain ⟨_, hx⟩ := at_l hT.out 0 ht0
      have hx : t[0] = c := hx
      have hU : Hid ((t.extract 1 t.size).data.toList = U) := Lib.hid (by rw [dtE, hT.out]; rfl)
      have hUz : (t.extract 1 t.size).size = U.length := by
        have : (t.extract 1 t.size).size = (t.extract 1 t.size).data.toList.length := by simp
        rw [this, hU.out]
      have HUZ : Hid ((t.extract 1 t.size).size ≤ 1000000) := Lib.hid (by rw [hUz]; simp only [List.length_cons] at hz; omega)
      have HUL : Hid (U.length ≤ 999999 ∧ acc.length + U.length + 1 ≤ 900000 ∧ U.length < f ∧ t.size = U.length + 1) := Lib.hid (by simp only [List.length_cons] at hz hlen hf; omega)
      have e1 : (1 : Int) ≤ (t.size : Int) := by omega
      have e2 : 1 ≤ t.size := by omega
      have cb := c.toNat_lt
      have hG' := hG.out
      rw [pgL] at hG'
      clear hz hf hUz HZ
      by_cases h59 : c = 59
      · subst h59
        rw [if_pos rfl] at hG'
        have HG2 := Lib.hid hG'
        clear hG hG'
        go_wp2_with fail
        refine (rp_to _ U _ HUZ.out hU).mono ?_
        rintro e w2 ⟨va, vs, vb, vc, rfl, hv, b2⟩
        have hv := hv.out
        have hG' := HG2.out
        cases hr : rpL U with
        | none =>
          rw [hr] at hv hG'
          obtain ⟨rfl, rfl⟩ : vc = false ∧ vs = .slice none 0 0 := hv
          have HO2 : Hid (none = o) := Lib.hid hG'
          have C3 := Lib.hid (C2.out.below b2)
          have B3 := Lib.hid (bstep B2.out b2)
          have gq : w.heap.size < w2.heap.size := C3.out.1
          have z0 := (C3.out.2 0 _ rfl).1
          have y0 := (C3.out.2 0 _ rfl).2
          have z1 := (C3.out.2 1 _ rfl).1
          have y1 := (C3.out.2 1 _ rfl).2
          have z2 := (C3.out.2 2 _ rfl).1
          have y2 := (C3.out.2 2 _ rfl).2
          clear hr hv hG' b2 HG2
          go_wp2
          exact bodyPost_ret (v := .tuple #[.agg #[.string ⟨#[]⟩, .slice none 0 0, .string ⟨#[]⟩], .int .i64 18]) (by simp (maxDischargeDepth := 9) [results, Try.results15, go_sem, z0, z1, z2, gq]) rfl (by rw [← HO2.out]; exact zqw _ _ (by repeat (first | with_reducible exact B3.out | with_reducible refine Below.setCell ?_ (by exact Nat.le_refl _) _ | with_reducible refine Below.alloc ?_ (by have := B3.out.size; simp; omega) _)))
        | some pR =>
          obtain ⟨p, R⟩ := pR
          rw [hr] at hv hG'
          obtain ⟨rfl, hva, hvb, hvs⟩ : vc = true ∧ va = ⟨p.nm.toArray⟩ ∧ vb = ⟨R.toArray⟩ ∧ RowS _ w2 vs p.vs := hv
          obtain ⟨r0, r1, r2⟩ := rpL_bd hr HUL.out.1
          have HVA := Lib.hid hva
          have HVB : Hid (vb.data.toList = R) := Lib.hid (by rw [hvb])
          have HG3 : Hid (pgL f R (acc ++ [p]) = o) := Lib.hid hG'
          have HRB : Hid (0 < R.length ∧ R.length ≤ U.length) := Lib.hid ⟨r0, r1⟩
          have HSM : Hid (∀ x ∈ acc ++ [p], smlP x) := Lib.hid (fun x hx => by
            rcases List.mem_append.1 hx with h | h
            · exact hsm.out x h
            · rw [List.mem_singleton.1 h]; exact r2)
          obtain ⟨sa, sn, rfl⟩ := hvs.txt.slice
          have C3 := Lib.hid (C2.out.below b2)
          have Q3 := Lib.hid (Q2.out.below b2)
          have R3 := Lib.hid (R2.out.below b2)
          have B3 := Lib.hid (bstep B2.out b2)
          have V3 := Lib.hid (World.ownsRow.mono hvs (show w1.heap.size + 1 ≤ wr.heap.size from Q2.out.1))
          have gq : w1.heap.size < w2.heap.size := Q3.out.1
          have g1 : w1.heap.size ≠ w2.heap.size := by omega
          have g2 : w2.heap.size ≠ w1.heap.size := by omega
          have z1 := (Q3.out.2 1 _ rfl).1
          have y1 := (Q3.out.2 1 _ rfl).2
          obtain ⟨pa, pc, rfl⟩ := R3.out.form
          have hacc : acc.length ≤ 1000000000 := by have := HUL.out; omega
          clear hr hv hG' b2 HG2 hva hvb hvs r0 r1 r2 C2 Q2 R2 B2 hsm
          go_wp2_with (at_builtin; refine appP rfl _ _ rfl (w1.heap.size + 1) _ acc rfl (R3.out.alloc _) p _ _ HVA.out (V3.out.alloc _) (by simp; rfl) hacc (by simp; omega) ?_)
          intro w5 gg gcap r5 bb s5
          have hq0 : w.heap.size < w1.heap.size + 1 := by omega
          have b5 := bb (w1.heap.size + 1) _ (Nat.le_refl _) (Below.refl _ _) (by simp; omega)
          have C5 := Lib.hid (cs_lo (C3.out.alloc _) b5 hq0 (by simpa using s5))
          have Q5 := Lib.hid (cs_lo (Q3.out.alloc _) b5 (Nat.lt_succ_self _) (by simpa using s5))
          have B5 := Lib.hid (bb w.heap.size w (by omega) (B3.out.alloc B3.out.size _) (by have := B3.out.size; simp; omega))
          have y1 := (Q5.out.2 1 _ rfl).1
          have z1 := (Q5.out.2 1 _ rfl).2
          have D5 := Q5.out.set 1 (by simp) (.slice (some ⟨gg, 0, none⟩) (acc.length + 1) gcap)
          simp only [List.set_cons_succ, List.set_cons_zero] at D5
          have D5 := Lib.hid D5
          have R5 := Lib.hid (r5.set (Nat.lt_succ_self _) 1 (.slice (some ⟨gg, 0, none⟩) (acc.length + 1) gcap))
          have E5 := Lib.hid (C5.out.other (b := w1.heap.size) (i := 1) (by omega) (.slice (some ⟨gg, 0, none⟩) (acc.length + 1) gcap))
          clear bb r5 s5 b5 C3 Q3 R3 B3 V3 g1 g2 gq
          go_wp2
          go_roundw
          case rel => exact ⟨f, R, acc ++ [p], _, vb, rfl, HVB, HRB.out.1, by have := HRB.out.2; have := HUL.out; omega, by have := HRB.out.2; have := HUL.out; simp only [List.length_append, List.length_cons, List.length_nil]; omega, HG3, E5.out, D5.out, R5.out, HSM, by repeat (first | with_reducible exact B5.out | with_reducible refine Below.setCell ?_ (by show w.heap.size ≤ w1.heap.size; omega) _)⟩
          case measure =>
            have h1 : vb.size = R.length := by rw [← HVB.out]; simp
            have h2 := HRB.out.2
            have h3 := HUL.out
            show szL (.string vb) < szL (.string t)
            simp only [szL]
            omega
      · rw [if_neg h59] at hG'
        have HO2 : Hid (some (acc, c :: U) = o) := Lib.hid hG'
        have x59 : ((c.toNat : Int) == 59) = false := beq_eq_false_iff_ne.2 (fun q => h59 (UInt8.toNat_inj.1 (by show c.toNat = 59; omega)))
        obtain ⟨pa, pc, rfl⟩ := R2.out.form
        have y2 := (Q2.out.2 2 _ rfl).1
        have z2 := (Q2.out.2 2 _ rfl).2
        have g1 : w.heap.size ≠ w1.heap.size := by omega
        have g2 : w1.heap.size ≠ w.heap.size := by omega
        by_cases h58 : c = 58
        case neg =>
          have x58 : ((c.toNat : Int) != 58) = true := bne_iff_ne.2 (fun q => h58 (UInt8.toNat_inj.1 (by show c.toNat = 58; omega)))
          have HQ : Hid (lpO (hdT [58, 59] S) o = (18, LV.zero)) := Lib.hid (by rw [← HO2.out, lpO, if_neg (fun q => h58 q.1)])
          have z0 := (C2.out.2 0 _ rfl).1
          have w0 := (C2.out.2 0 _ rfl).2
          have z1 := (C2.out.2 1 _ rfl).1
          have w1' := (C2.out.2 1 _ rfl).2
          have z3 := (C2.out.2 2 _ rfl).1
          have w3 := (C2.out.2 2 _ rfl).2
          clear h58 hG hG' h59
          go_wp2
          exact bodyPost_ret (v := .tuple #[.agg #[.string ⟨#[]⟩, .slice none 0 0, .string ⟨#[]⟩], .int .i64 18]) (by simp (maxDischargeDepth := 9) [results, Try.results15, go_sem, z0, z1, z3]) rfl (by rw [HQ.out]; exact zqw _ _ (by repeat (first | with_reducible exact B2.out | with_reducible refine Below.setCell ?_ (by first | exact Nat.le_refl _ | (show w.heap.size ≤ w1.heap.size; omega)) _)))
        subst h58
        have D2 := Q2.out.set 2 (by simp) (.string (t.extract 1 t.size))
        simp only [List.set_cons_succ, List.set_cons_zero] at D2
        have D2 := Lib.hid D2
        have E2 := Lib.hid (C2.out.other (b := w1.heap.size) (i := 2) (by omega) (.string (t.extract 1 t.size)))
        have PR := Lib.hid (R2.out.set (Nat.lt_succ_self _) 2 (.string (t.extract 1 t.size)))
        have B3 := Lib.hid (B2.out.setCell (p := ⟨w1.heap.size, 2, none⟩) (by show w.heap.size ≤ w1.heap.size; omega) (.string (t.extract 1 t.size)))
        have zq0 := (Q2.out.2 0 _ rfl).1
        have zq1 := (Q2.out.2 1 _ rfl).1
        obtain ⟨ev, hev⟩ : ∃ ev, lnE ⟨hdT [58, 59] S, acc, U⟩ = ev := ⟨_, rfl⟩
        have HEV := Lib.hid hev
        have UT : Hid (t.extract 1 t.size = ⟨U.toArray⟩) := Lib.hid (Rws.ba_eq hU.out)
        clear hG hG' h59 C2 Q2 R2 hev
        go_wp2_with fail
        refine (lchk_v _ _ (hdT [58, 59] S) U _ acc ev _ HA.out.1 UT.out HLN.out.2.2.2 (by have := HUL.out; omega) PR.out.pars (by have := HUL.out; omega) hsm.out HEV).mono ?_
        rintro e w4 ⟨rfl, b4⟩
        have C4 := Lib.hid (E2.out.below b4)
        have D4 := Lib.hid (D2.out.below b4)
        have R4 := Lib.hid (PR.out.below b4)
        have B4 := Lib.hid (bstep B3.out b4)
        have z0 := (C4.out.2 0 _ rfl).1
        have w0 := (C4.out.2 0 _ rfl).2
        have z1 := (C4.out.2 1 _ rfl).1
        have w1' := (C4.out.2 1 _ rfl).2
        have z3 := (C4.out.2 2 _ rfl).1
        have w3 := (C4.out.2 2 _ rfl).2
        have u0 := (D4.out.2 0 _ rfl).1
        have u1 := (D4.out.2 1 _ rfl).1
        have u2 := (D4.out.2 2 _ rfl).1
        have hev := HEV.out
        rw [lnE] at hev
        clear b4 zq0 zq1 y2 z2 D2 E2 PR B3
        cases hb : lnB ⟨hdT [58, 59] S, acc, U⟩ with
        | false =>
          rw [hb, if_neg (by decide)] at hev
          have HQ : Hid (lpO (hdT [58, 59] S) o = (18, LV.zero)) := Lib.hid (by rw [← HO2.out, lpO, if_neg (fun q => by rw [hb] at q; exact absurd q.2 (by decide))])
          subst hev
          clear hb
          go_wp2
          exact bodyPost_ret (v := .tuple #[.agg #[.string ⟨#[]⟩, .slice none 0 0, .string ⟨#[]⟩], .int .i64 18]) (by simp (maxDischargeDepth := 9) [results, Try.results15, go_sem, z0, z1, z3]) rfl (by rw [HQ.out]; exact zqw _ _ (by repeat (first | with_reducible exact B4.out | with_reducible refine Below.setCell ?_ (by exact Nat.le_refl _) _)))
        | true =>
          rw [hb, if_pos rfl] at hev
          have HQ : Hid (lpO (hdT [58, 59] S) o = (0, ⟨hdT [58, 59] S, acc, U⟩)) := Lib.hid (by rw [← HO2.out, lpO, if_pos ⟨rfl, hb⟩])
          subst hev
          clear hb
          go_wp2
          refine bodyPost_ret (v := .tuple #[.agg #[.string (s.extract 0 m), .slice pa acc.length pc, .string (t.extract 1 t.size)], .int .i64 0]) (by simp (maxDischargeDepth := 9) [results, Try.results15, go_sem, z0, z1, z3]) rfl ?_
          rw [HQ.out]
          exact ⟨_, by rw [HA.out.1, UT.out], Lib.hid ⟨ParR.low (B := w1.heap.size + 1) (show w.heap.size ≤ w1.heap.size + 1 by omega) (by repeat (first | with_reducible exact R4.out | with_reducible refine ParR.set ?_ (by omega) _ _)), HLN.out.2.2.2, by have := HUL.out; show U.length ≤ _; omega, by have := HUL.out; show acc.length ≤ _; omega, hsm.out⟩, by repeat (first | with_reducible exact B4.out | with_reducible refine Below.setCell ?_ (by exact Nat.le_refl _) _)⟩
theorem lpw_at (s : ByteArray) (S : List UInt8) (r : Int × LV) (w : World) (hs : s.size ≤ 800000) (hS : Hid (s.data.toList = S)) (h : Hid (lnP S = r)) :
    Calls Try.prog 15 #[.string s] w (LpW r w) := by
  rw [← h.out]
  exact lpw_to s S w hs hS
end Lin
end Go.Proofs.Ytdakpncfophjnaa
