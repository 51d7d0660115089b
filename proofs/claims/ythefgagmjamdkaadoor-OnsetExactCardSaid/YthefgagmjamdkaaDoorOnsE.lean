/-
  OnsetExact. (Written by gen/gen_onse.py.)
-/
import Derived.Test.YthefgagmjamdkaaDoorOnsE3
import Derived.Test.YthefgagmjamdkaaDoorOnsE4
import Derived.Test.YthefgagmjamdkaaDoorOnsK1
namespace Go.Proofs.YthefgagmjamdkaaDoor
open Go.RowKit
namespace Ons
open Rul Rs Cel
open Ap (Grew)
set_option maxRecDepth 100000 in
/-- A whole row appended to none. -/
theorem appAll {w : World} {ops : Array Oper} {rest : List Oper} {o : Oper} {a : Act} {Q : Exit → Act → World → Prop} (hgd : o.guard = none) (s x : Operand)
    (ho : o.op = .call { callee := .builtin .append, args := #[s, x], argTypes := #[22, 22] })
    (hs : a.eval s = .slice none 0 0) (b off c N : Nat) (L : List RV) (hN : L.length = N) (hx : a.eval x = .slice (some ⟨b, off, none⟩) N c) (hn : N ≤ 1000000) (h0 : 0 < N)
    (hr : ∀ (j : Nat) (hj : j < L.length), w.rangeAt b (off + j * 11) (rvC L[j]))
    (h : ∀ w' v, RowR w.heap.size w' v L → Below w.heap.size w w' → wpList Tryd.prog ops Q rest (a.put o.dst v) w') :
    wpList Tryd.prog ops Q (o :: rest) a w := by
  obtain ⟨i0, hi0, hz0, hz1, hz2⟩ := info_parts infoV
  subst hN
  have hfl : (flt rvC L).length = L.length * 11 := flt_len rvC_len L
  have hcell : ∀ j u, (flt rvC L)[j]? = some u → w.cell? ((⟨b, off, none⟩ : Addr).add j) = some u := fun j u hj => by
    have hjl : j < L.length * 11 := by rw [← hfl]; exact (List.getElem?_eq_some_iff.1 hj).1
    have hq : j / 11 < L.length := Nat.div_lt_of_lt_mul (by omega)
    have e : j = (j / 11) * 11 + j % 11 := by omega
    have h1 := flt_at rvC_len L (j / 11) hq (j % 11) (Nat.mod_lt _ (by decide))
    rw [← e, hj] at h1
    have h2 := hr (j / 11) hq (j % 11) u h1.symm
    have e2 : off + j = off + j / 11 * 11 + j % 11 := by omega
    rw [show (⟨b, off, none⟩ : Addr).add j = ⟨b, off + j, none⟩ from by simp [Addr.add], e2]
    exact h2
  have hone : ∀ u ∈ flt rvC L, u.oneCell' = true := fun u hu => by
    obtain ⟨r, _, hr2⟩ := List.mem_flatMap.1 hu
    exact rvC_one r u hr2
  refine wpList_append_own _ hgd s x 22 ho w.heap.size 43 i0 _ 11 104 (by kernel_rfl) hi0 hz0 hz1 hz2 rfl (by decide) _ 0 [] hs (World.ownsRow_nil _ _ _ _) ⟨b, off, none⟩ L.length c (flt rvC L) hx ?c1 ?c2 hone ?c4 ?c5 ?c6 ?_
  case c1 => exact hfl
  case c2 => exact hcell
  case c4 => unfold maxLen; omega
  case c5 => omega
  case c6 => exact Nat.le_refl _
  intro v' w5 r5 g5 _
  refine h w5 v' ?_ ((Below.refl w.heap.size w).grown g5 (Nat.le_refl _) (fun k hk => by cases hk))
  unfold RowR RowT
  simpa using r5
set_option maxHeartbeats 25600000 in
set_option maxRecDepth 100000 in
theorem exact_any (v : Value) (NM : List UInt8) (last : Int) (L : List RV) (w : World) (hA : Civ.Ahead w) (hv : RulV w v L) (hbd : ∀ r ∈ L, BdV r) (hlen : L.length ≤ maxLen) (hnm : NM.length ≤ maxLen) :
    Calls Tryd.prog 3 #[v, .string ⟨NM.toArray⟩, .int .i64 last] w fun e w' => e = .returned (.bool true) ∧ Below w.heap.size w w' := by
  obtain ⟨AV, cV, hsl⟩ := hv.slice
  subst hsl
  obtain ⟨N, hN⟩ : ∃ N, L.length = N := ⟨_, rfl⟩
  rw [hN] at hv hlen ⊢
  unfold maxLen at hlen hnm
  have HN := Lib.hid hN
  have HA := Lib.hid hA
  have HV := Lib.hid hv
  have HBD := Lib.hid (fun (r : RV) (hr : r ∈ L) => And.intro (hbd r hr).nm (hbd r hr).lt)
  have HLM : Hid (L.length ≤ maxLen) := Lib.hid (by rw [hN]; exact hlen)
  clear hN hA hv hbd
  go_enter Tryd.func3, Tryd.ntmps3
  go_wp2_with fail
  refine (hv_to _ L _ HV.out HBD.out HLM.out).mono ?_
  rintro e w1 ⟨⟨hb, rfl, HL⟩, k1⟩
  have B1 := Lib.hid k1
  clear k1
  cases hb with
  | true =>
    clear HL
    go_wp2
    go_ret
    exact ⟨rfl, B1.out⟩
  | false =>
  have HLT := Lib.hid (HL rfl)
  have V1 := Lib.hid (HV.out.below B1.out)
  clear HL
  by_cases hn2 : 200 < NM.length
  · go_wp2
    go_ret
    exact ⟨rfl, B1.out⟩
  have hN3 : N ≤ 300 := by have := HLT.out.1; have := HN.out; omega
  have SM : Hid (∀ r ∈ L, r.nm.length ≤ 1000000 ∧ r.lt.length ≤ 1000000) := Lib.hid (fun r hr => by have := HLT.out.2 r hr; omega)
  have LB : Hid (L.length ≤ 1000000000) := Lib.hid (by rw [HN.out]; omega)
  go_upto_region 4 with fail
  go_cut [7] (fun p wz => ∃ lv A n cc, lv = p ∧ lv = .slice A n cc ∧ Hid (RulV wz lv L) ∧ Hid (Below w.heap.size w wz))
  case first =>
    by_cases h0 : N = 0
    · subst h0
      have hL0 : L = [] := List.eq_nil_of_length_eq_zero HN.out
      have B1d := B1.out
      have IN : Hid (RulV w1 (.slice none 0 0) L) := Lib.hid (by rw [hL0]; exact RowV.nil _ _ _)
      clear hL0
      cases AV
      all_goals go_wp2
      all_goals go_meet
      all_goals exact ⟨_, _, _, _, rfl, rfl, IN, B1⟩
    · obtain ⟨b, off, c2, e1, hb, hrow⟩ := RowV.form V1.out (by rw [HN.out]; omega)
      rw [HN.out] at e1
      injection e1 with e1 e2 e3
      subst e1 e3
      have hn9 := HN.out
      have hn6 : N ≤ 1000000 := by omega
      have h01 : 0 < N := by omega
      clear e2
      go_wp2_with (at_builtin; refine appAll rfl _ _ rfl rfl b off cV N L hn9 rfl hn6 h01 hrow ?_)
      intro wn vn r5 g5
      have IN : Hid (RulV wn vn L) := Lib.hid (RowT.val rvC_len r5)
      obtain ⟨A, cc, hvn⟩ := RowT.forms r5
      have B5 := Lib.hid (bstep B1.out g5)
      clear r5 g5
      subst hvn
      go_wp2
      go_meet
      exact ⟨_, _, _, _, rfl, rfl, IN, B5⟩
  case rest =>
  obtain ⟨w2, rfl⟩ : ∃ x : World, x = wc := ⟨_, rfl⟩
  obtain ⟨lv, A5, n5, c5, rfl, rfl, I2, B2⟩ := hcut
  have V2 : Hid (RulV w2 (.slice AV N cV) L) := Lib.hid (HV.out.below B2.out)
  clear V1 B1
  by_cases h200 : 200 < N
  · have E1 : Hid (ofE last L = 2) := Lib.hid (by rw [ofE, if_neg (by rw [okE, if_pos (by rw [HN.out]; exact h200)]; decide), okE, if_pos (by rw [HN.out]; exact h200)])
    have O1 : Hid (ofO NM last L = []) := Lib.hid (by rw [ofO, if_neg (by rw [E1.out]; decide)])
    have E2 : Hid (okE L = 2) := Lib.hid (by rw [okE, if_pos (by rw [HN.out]; exact h200)])
    have S1 : Hid ((if (2 : Int) = 0 then ltS NM L else []) = []) := Lib.hid (by rw [if_neg (by decide)])
    go_wp2_with fail
    refine (of_to _ NM last L 2 [] _ (HA.out.stays B2.out) I2.out SM LB.out E1 O1).mono ?_
    rintro e w3 ⟨lx, rfl, r3, k3⟩
    have B3 := Lib.hid (bstep B2.out k3)
    have V3 := Lib.hid (V2.out.below k3)
    have I3 := Lib.hid (I2.out.below k3)
    have X3 := Lib.hid (RowT.val ovC_len r3)
    obtain ⟨Ax, cx, hsx⟩ := X3.out.slice
    subst hsx
    clear k3 r3 V2 B2 I2
    go_wp2_with fail
    refine (let_to _ NM L 2 [] _ (HA.out.stays B3.out) I3.out SM LB.out E2 S1).mono ?_
    rintro e w4 ⟨rfl, k4⟩
    have B4 := Lib.hid (bstep B3.out k4)
    have V4 := Lib.hid (V3.out.below k4)
    have I4 := Lib.hid (I3.out.below k4)
    have X4 := Lib.hid (X3.out.below k4)
    clear k4 V3 B3 I3 X3
    go_wp2_with fail
    refine (kru_to _ _ L _ I4.out V4.out LB.out).mono ?_
    rintro e w5 ⟨rfl, k5⟩
    have B5 := Lib.hid (bstep B4.out k5)
    have V5 := Lib.hid (V4.out.below k5)
    have X5 := Lib.hid (X4.out.below k5)
    clear k5 V4 B4 I4 X4
    go_wp2_with fail
    refine (wakes13_any _ (HA.out.stays B5.out)).mono ?_
    rintro e w9 ⟨rfl, k9⟩
    have B9 := Lib.hid (bstep B5.out k9)
    clear k9
    go_wp2
    go_ret
    exact ⟨rfl, B9.out⟩
  have L200 : Hid (L.length ≤ 200) := Lib.hid (by rw [HN.out]; omega)
  cases hrb : L.all chkB with
  | false =>
    have HRB := Lib.hid hrb
    have OK10 : Hid (okE L = 10) := Lib.hid (by rw [okE, if_neg (by rw [HN.out]; exact h200), if_neg (by rw [hrb]; decide)])
    clear hrb
    have E1 : Hid (ofE last L = 10) := Lib.hid (by rw [ofE, if_neg (by rw [OK10.out]; decide), OK10.out])
    have O1 : Hid (ofO NM last L = []) := Lib.hid (by rw [ofO, if_neg (by rw [E1.out]; decide)])
    have E2 : Hid (okE L = 10) := Lib.hid (OK10.out)
    have S1 : Hid ((if (10 : Int) = 0 then ltS NM L else []) = []) := Lib.hid (by rw [if_neg (by decide)])
    go_wp2_with fail
    refine (of_to _ NM last L 10 [] _ (HA.out.stays B2.out) I2.out SM LB.out E1 O1).mono ?_
    rintro e w3 ⟨lx, rfl, r3, k3⟩
    have B3 := Lib.hid (bstep B2.out k3)
    have V3 := Lib.hid (V2.out.below k3)
    have I3 := Lib.hid (I2.out.below k3)
    have X3 := Lib.hid (RowT.val ovC_len r3)
    obtain ⟨Ax, cx, hsx⟩ := X3.out.slice
    subst hsx
    clear k3 r3 V2 B2 I2
    go_wp2_with fail
    refine (let_to _ NM L 10 [] _ (HA.out.stays B3.out) I3.out SM LB.out E2 S1).mono ?_
    rintro e w4 ⟨rfl, k4⟩
    have B4 := Lib.hid (bstep B3.out k4)
    have V4 := Lib.hid (V3.out.below k4)
    have I4 := Lib.hid (I3.out.below k4)
    have X4 := Lib.hid (X3.out.below k4)
    clear k4 V3 B3 I3 X3
    go_wp2_with fail
    refine (kru_to _ _ L _ I4.out V4.out LB.out).mono ?_
    rintro e w5 ⟨rfl, k5⟩
    have B5 := Lib.hid (bstep B4.out k5)
    have V5 := Lib.hid (V4.out.below k5)
    have X5 := Lib.hid (X4.out.below k5)
    clear k5 V4 B4 I4 X4
    go_wp2_with fail
    refine (rgt_to _ L false _ V5.out HLT.out HRB).mono ?_
    rintro e w6 ⟨rfl, k6⟩
    have B6 := Lib.hid (bstep B5.out k6)
    have V6 := Lib.hid (V5.out.below k6)
    have X6 := Lib.hid (X5.out.below k6)
    clear k6 V5 B5 X5
    go_wp2_with fail
    refine (wakes13_any _ (HA.out.stays B6.out)).mono ?_
    rintro e w9 ⟨rfl, k9⟩
    have B9 := Lib.hid (bstep B6.out k9)
    clear k9
    go_wp2
    go_ret
    exact ⟨rfl, B9.out⟩
  | true =>
    have HRB := Lib.hid hrb
    have OK0 : Hid (okE L = 0) := Lib.hid (by rw [okE, if_neg (by rw [HN.out]; exact h200), if_pos HRB.out])
    clear hrb
    obtain ⟨T, hT⟩ : ∃ T, ltS NM L = T := ⟨_, rfl⟩
    have HT := Lib.hid hT
    clear hT
    by_cases hly : 1 ≤ last ∧ last ≤ 9999
    · obtain ⟨K, hK⟩ : ∃ K, onS NM last L = K := ⟨_, rfl⟩
      have HK := Lib.hid hK
      have YR : ∀ r ∈ L, 1 ≤ r.fr ∧ r.tu ≤ 9999 := fun r hr => by
        obtain ⟨nm, fr, tu, mo, kk, vv, dd, nn, cc, sv, lt⟩ := r
        obtain ⟨f1, f2, f3, _, _⟩ := chk_n (List.all_eq_true.1 HRB.out _ hr)
        exact ⟨f1, f3⟩
      have KB : Hid (K.length ≤ 1000000000) := Lib.hid (by
        rw [← hK, onS, sortO_len]
        have := onG_len (nm := NM) (last := last) YR L.length (Nat.le_refl _)
        have := L200.out
        omega)
      clear hK YR
      have E1 : Hid (ofE last L = 0) := Lib.hid (by rw [ofE, if_pos OK0.out, if_pos hly])
      have O1 : Hid (ofO NM last L = K) := Lib.hid (by rw [ofO, if_pos E1.out]; exact HK.out)
      have E2 : Hid (okE L = 0) := Lib.hid (OK0.out)
      have S1 : Hid ((if (0 : Int) = 0 then ltS NM L else []) = T) := Lib.hid (by rw [if_pos rfl]; exact HT.out)
      go_wp2_with fail
      refine (of_to _ NM last L 0 K _ (HA.out.stays B2.out) I2.out SM LB.out E1 O1).mono ?_
      rintro e w3 ⟨lx, rfl, r3, k3⟩
      have B3 := Lib.hid (bstep B2.out k3)
      have V3 := Lib.hid (V2.out.below k3)
      have I3 := Lib.hid (I2.out.below k3)
      have X3 := Lib.hid (RowT.val ovC_len r3)
      obtain ⟨Ax, cx, hsx⟩ := X3.out.slice
      subst hsx
      clear k3 r3 V2 B2 I2
      go_wp2_with fail
      refine (let_to _ NM L 0 T _ (HA.out.stays B3.out) I3.out SM LB.out E2 S1).mono ?_
      rintro e w4 ⟨rfl, k4⟩
      have B4 := Lib.hid (bstep B3.out k4)
      have V4 := Lib.hid (V3.out.below k4)
      have I4 := Lib.hid (I3.out.below k4)
      have X4 := Lib.hid (X3.out.below k4)
      clear k4 V3 B3 I3 X3
      go_wp2_with fail
      refine (kru_to _ _ L _ I4.out V4.out LB.out).mono ?_
      rintro e w5 ⟨rfl, k5⟩
      have B5 := Lib.hid (bstep B4.out k5)
      have V5 := Lib.hid (V4.out.below k5)
      have X5 := Lib.hid (X4.out.below k5)
      clear k5 V4 B4 I4 X4
      go_wp2_with fail
      refine (rgt_to _ L true _ V5.out HLT.out HRB).mono ?_
      rintro e w6 ⟨rfl, k6⟩
      have B6 := Lib.hid (bstep B5.out k6)
      have V6 := Lib.hid (V5.out.below k6)
      have X6 := Lib.hid (X5.out.below k6)
      clear k6 V5 B5 X5
      have LT0 : Hid (ltS NM L = T) := HT
      go_wp2_with fail
      refine (rfirst_to _ NM L T _ V6.out L200.out HRB LT0).mono ?_
      rintro e w7 ⟨rfl, k7⟩
      have B7 := Lib.hid (bstep B6.out k7)
      have V7 := Lib.hid (V6.out.below k7)
      have X7 := Lib.hid (X6.out.below k7)
      clear k7 V6 B6 X6
      have hl1 : ¬ last < 1 := by omega
      have hl2 : ¬ 9999 < last := by omega
      go_wp2_with fail
      refine (ronsets_to _ NM last L K _ V7.out L200.out HRB hly.1 hly.2 HK).mono ?_
      rintro e w8 ⟨lz, rfl, r8, k8⟩
      have B8 := Lib.hid (bstep B7.out k8)
      have X8 := Lib.hid (X7.out.below k8)
      have Z8 := Lib.hid r8
      obtain ⟨Az, cz, hsz⟩ := Z8.out.slice
      subst hsz
      clear k8 r8 V7 B7 X7
      go_wp2_with fail
      refine (kon_to _ _ K _ X8.out Z8.out KB.out).mono ?_
      rintro e w10 ⟨rfl, k10⟩
      have B10 := Lib.hid (bstep B8.out k10)
      clear k10 B8 X8 Z8
      go_wp2_with fail
      refine (wakes13_any _ (HA.out.stays B10.out)).mono ?_
      rintro e w9 ⟨rfl, k9⟩
      have B9 := Lib.hid (bstep B10.out k9)
      clear k9
      go_wp2
      go_ret
      exact ⟨rfl, B9.out⟩
    · by_cases hl1 : last < 1
      · have E1 : Hid (ofE last L = 23) := Lib.hid (by rw [ofE, if_pos OK0.out, if_neg hly])
        have O1 : Hid (ofO NM last L = []) := Lib.hid (by rw [ofO, if_neg (by rw [E1.out]; decide)])
        have E2 : Hid (okE L = 0) := Lib.hid (OK0.out)
        have S1 : Hid ((if (0 : Int) = 0 then ltS NM L else []) = T) := Lib.hid (by rw [if_pos rfl]; exact HT.out)
        go_wp2_with fail
        refine (of_to _ NM last L 23 [] _ (HA.out.stays B2.out) I2.out SM LB.out E1 O1).mono ?_
        rintro e w3 ⟨lx, rfl, r3, k3⟩
        have B3 := Lib.hid (bstep B2.out k3)
        have V3 := Lib.hid (V2.out.below k3)
        have I3 := Lib.hid (I2.out.below k3)
        have X3 := Lib.hid (RowT.val ovC_len r3)
        obtain ⟨Ax, cx, hsx⟩ := X3.out.slice
        subst hsx
        clear k3 r3 V2 B2 I2
        go_wp2_with fail
        refine (let_to _ NM L 0 T _ (HA.out.stays B3.out) I3.out SM LB.out E2 S1).mono ?_
        rintro e w4 ⟨rfl, k4⟩
        have B4 := Lib.hid (bstep B3.out k4)
        have V4 := Lib.hid (V3.out.below k4)
        have I4 := Lib.hid (I3.out.below k4)
        have X4 := Lib.hid (X3.out.below k4)
        clear k4 V3 B3 I3 X3
        go_wp2_with fail
        refine (kru_to _ _ L _ I4.out V4.out LB.out).mono ?_
        rintro e w5 ⟨rfl, k5⟩
        have B5 := Lib.hid (bstep B4.out k5)
        have V5 := Lib.hid (V4.out.below k5)
        have X5 := Lib.hid (X4.out.below k5)
        clear k5 V4 B4 I4 X4
        go_wp2_with fail
        refine (rgt_to _ L true _ V5.out HLT.out HRB).mono ?_
        rintro e w6 ⟨rfl, k6⟩
        have B6 := Lib.hid (bstep B5.out k6)
        have V6 := Lib.hid (V5.out.below k6)
        have X6 := Lib.hid (X5.out.below k6)
        clear k6 V5 B5 X5
        have LT0 : Hid (ltS NM L = T) := HT
        go_wp2_with fail
        refine (rfirst_to _ NM L T _ V6.out L200.out HRB LT0).mono ?_
        rintro e w7 ⟨rfl, k7⟩
        have B7 := Lib.hid (bstep B6.out k7)
        have V7 := Lib.hid (V6.out.below k7)
        have X7 := Lib.hid (X6.out.below k7)
        clear k7 V6 B6 X6
        go_wp2_with fail
        refine (wakes13_any _ (HA.out.stays B7.out)).mono ?_
        rintro e w9 ⟨rfl, k9⟩
        have B9 := Lib.hid (bstep B7.out k9)
        clear k9
        go_wp2
        go_ret
        exact ⟨rfl, B9.out⟩
      · have hl2 : 9999 < last := by omega
        have E1 : Hid (ofE last L = 23) := Lib.hid (by rw [ofE, if_pos OK0.out, if_neg hly])
        have O1 : Hid (ofO NM last L = []) := Lib.hid (by rw [ofO, if_neg (by rw [E1.out]; decide)])
        have E2 : Hid (okE L = 0) := Lib.hid (OK0.out)
        have S1 : Hid ((if (0 : Int) = 0 then ltS NM L else []) = T) := Lib.hid (by rw [if_pos rfl]; exact HT.out)
        go_wp2_with fail
        refine (of_to _ NM last L 23 [] _ (HA.out.stays B2.out) I2.out SM LB.out E1 O1).mono ?_
        rintro e w3 ⟨lx, rfl, r3, k3⟩
        have B3 := Lib.hid (bstep B2.out k3)
        have V3 := Lib.hid (V2.out.below k3)
        have I3 := Lib.hid (I2.out.below k3)
        have X3 := Lib.hid (RowT.val ovC_len r3)
        obtain ⟨Ax, cx, hsx⟩ := X3.out.slice
        subst hsx
        clear k3 r3 V2 B2 I2
        go_wp2_with fail
        refine (let_to _ NM L 0 T _ (HA.out.stays B3.out) I3.out SM LB.out E2 S1).mono ?_
        rintro e w4 ⟨rfl, k4⟩
        have B4 := Lib.hid (bstep B3.out k4)
        have V4 := Lib.hid (V3.out.below k4)
        have I4 := Lib.hid (I3.out.below k4)
        have X4 := Lib.hid (X3.out.below k4)
        clear k4 V3 B3 I3 X3
        go_wp2_with fail
        refine (kru_to _ _ L _ I4.out V4.out LB.out).mono ?_
        rintro e w5 ⟨rfl, k5⟩
        have B5 := Lib.hid (bstep B4.out k5)
        have V5 := Lib.hid (V4.out.below k5)
        have X5 := Lib.hid (X4.out.below k5)
        clear k5 V4 B4 I4 X4
        go_wp2_with fail
        refine (rgt_to _ L true _ V5.out HLT.out HRB).mono ?_
        rintro e w6 ⟨rfl, k6⟩
        have B6 := Lib.hid (bstep B5.out k6)
        have V6 := Lib.hid (V5.out.below k6)
        have X6 := Lib.hid (X5.out.below k6)
        clear k6 V5 B5 X5
        have LT0 : Hid (ltS NM L = T) := HT
        go_wp2_with fail
        refine (rfirst_to _ NM L T _ V6.out L200.out HRB LT0).mono ?_
        rintro e w7 ⟨rfl, k7⟩
        have B7 := Lib.hid (bstep B6.out k7)
        have V7 := Lib.hid (V6.out.below k7)
        have X7 := Lib.hid (X6.out.below k7)
        clear k7 V6 B6 X6
        go_wp2_with fail
        refine (wakes13_any _ (HA.out.stays B7.out)).mono ?_
        rintro e w9 ⟨rfl, k9⟩
        have B9 := Lib.hid (bstep B7.out k9)
        clear k9
        go_wp2
        go_ret
        exact ⟨rfl, B9.out⟩
theorem exact_w (v : Value) (name : ByteArray) (last : Int) (L : List RV) (w : World) (hA : Civ.Ahead w) (hv : RulV w v L) (hbd : ∀ r ∈ L, BdV r) (hlen : L.length ≤ maxLen) (hnm : name.size ≤ maxLen) :
    Calls Tryd.prog 3 #[v, .string name, .int .i64 last] w fun e w' => e = .returned (.bool true) ∧ Below w.heap.size w w' := by
  obtain ⟨NM, rfl⟩ := str_of name
  exact exact_any v NM last L w hA hv hbd hlen (by have h := hnm; rw [show (⟨NM.toArray⟩ : ByteArray).size = NM.length from by simp [ByteArray.size]] at h; exact h)
end Ons
end Go.Proofs.YthefgagmjamdkaaDoor
