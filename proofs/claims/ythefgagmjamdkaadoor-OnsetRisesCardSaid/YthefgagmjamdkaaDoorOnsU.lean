/-
  OnsetRises. (Written by gen/gen_onsu.py.)
-/
import Derived.Test.YthefgagmjamdkaaDoorOnsU3
namespace Go.Proofs.YthefgagmjamdkaaDoor
open Go.RowKit
namespace Ons
open Rul Rs Cel

set_option maxHeartbeats 25600000 in
set_option maxRecDepth 100000 in
theorem rises_any (v : Value) (NM : List UInt8) (last : Int) (L : List RV) (w : World) (hA : Civ.Ahead w) (hv : RulV w v L) (hbd : ∀ r ∈ L, BdV r) (hlen : L.length ≤ maxLen) :
    Calls Tryd.prog 4 #[v, .string ⟨NM.toArray⟩, .int .i64 last] w fun e w' => e = .returned (.bool true) ∧ Below w.heap.size w w' := by
  obtain ⟨AV, cV, hsl⟩ := hv.slice
  subst hsl
  obtain ⟨N, hN⟩ : ∃ N, L.length = N := ⟨_, rfl⟩
  rw [hN] at hv hlen ⊢
  unfold maxLen at hlen
  have HN := Lib.hid hN
  have HA := Lib.hid hA
  have HV := Lib.hid hv
  have HBD := Lib.hid (fun (r : RV) (hr : r ∈ L) => And.intro (hbd r hr).nm (hbd r hr).lt)
  have HLM : Hid (L.length ≤ maxLen) := Lib.hid (by rw [hN]; exact hlen)
  clear hN hA hv hbd
  go_enter Tryd.func4, Tryd.ntmps4
  go_wp2_with fail
  refine (hv_to _ L _ HV.out HBD.out HLM.out).mono ?_
  rintro e w1 ⟨⟨hb, rfl, HL⟩, k1⟩
  have B1 := Lib.hid k1
  clear k1
  cases hb with
  | true =>
    clear HL
    go_wp2
    go_ret
    exact ⟨rfl, B1.out⟩
  | false =>
  have HLT := Lib.hid (HL rfl)
  have V1 := Lib.hid (HV.out.below B1.out)
  obtain ⟨rb, hrb⟩ : ∃ rb, L.all chkB = rb := ⟨_, rfl⟩
  have HRB := Lib.hid hrb
  clear HL hrb
  go_wp2_with fail
  refine (rgt_to _ L rb _ V1.out HLT.out HRB).mono ?_
  rintro e w2 ⟨rfl, k2⟩
  have B2 := Lib.hid (bstep B1.out k2)
  have V2 := Lib.hid (V1.out.below k2)
  clear k2 V1 B1
  cases rb with
  | false =>
    go_wp2
    go_ret
    exact ⟨rfl, B2.out⟩
  | true =>
  by_cases h200 : 200 < N
  · go_wp2
    go_ret
    exact ⟨rfl, B2.out⟩
  have SM : Hid (∀ r ∈ L, r.nm.length ≤ 1000000 ∧ r.lt.length ≤ 1000000) := Lib.hid (fun r hr => by have := HLT.out.2 r hr; omega)
  have OK : Hid (okE L = 0) := Lib.hid (by rw [okE, if_neg (by rw [HN.out]; exact h200), if_pos HRB.out])
  have LB : Hid (L.length ≤ 1000000000) := Lib.hid (by rw [HN.out]; omega)
  by_cases l1 : last < 1
  · go_wp2
    go_ret
    exact ⟨rfl, B2.out⟩
  by_cases l2 : 9999 < last
  · go_wp2
    go_ret
    exact ⟨rfl, B2.out⟩
  obtain ⟨K, hK⟩ : ∃ K, onS NM last L = K := ⟨_, rfl⟩
  have E1 : Hid (ofE last L = 0) := Lib.hid (by rw [ofE, if_pos OK.out, if_pos (by omega)])
  have O1 : Hid (ofO NM last L = K) := Lib.hid (by rw [ofO, if_pos E1.out, hK])
  obtain ⟨KN, hKN⟩ : ∃ KN, K.length = KN := ⟨_, rfl⟩
  have KL : Hid ((onG NM last L L.length).length = KN) := Lib.hid (by rw [← hKN, ← hK, onS, sortO_len])
  have KP : Hid (K.Pairwise olt) := Lib.hid (by rw [← hK]; exact onS_rises NM last L)
  have KM : Hid (∀ o ∈ K, ∃ (i : Nat) (h : i < L.length), L[i].nm = NM ∧ ∃ y, L[i].fr ≤ y ∧ y ≤ min L[i].tu last ∧ Wk.resE y L[i].mo L[i].k L[i].v L[i].d = 0 ∧ o = ((i : Int), y, loc L[i] y)) := Lib.hid (fun o ho => onS_mem.1 (by rw [hK]; exact ho))
  have HKN := Lib.hid hKN
  have YR : ∀ r ∈ L, 1 ≤ r.fr ∧ r.tu ≤ 9999 := fun r hr => by
    obtain ⟨nm, fr, tu, mo, kk, vv, dd, nn, cc, sv, lt⟩ := r
    obtain ⟨f1, f2, f3, _, _⟩ := chk_n (List.all_eq_true.1 HRB.out _ hr)
    exact ⟨f1, f3⟩
  have K2M : KN ≤ 2000000 := by
    rw [← KL.out]
    have := onG_len (nm := NM) (last := last) YR L.length (Nat.le_refl _)
    have := HN.out
    omega
  clear hK hKN YR
  go_wp2_with fail
  refine (of_to _ NM last L 0 K _ (HA.out.stays B2.out) V2.out SM LB.out E1 O1).mono ?_
  rintro e w3 ⟨lx, rfl, r3, k3⟩
  have B3 := Lib.hid (bstep B2.out k3)
  have V3 := Lib.hid (V2.out.below k3)
  have X3 := Lib.hid (RowT.val ovC_len r3)
  clear k3 r3 V2 B2
  obtain ⟨AK, cK, hsk⟩ := X3.out.slice
  subst hsk
  rw [HKN.out] at X3 ⊢
  have q0 : ((0 : Int) != 0) = false := rfl
  go_upto_region 7 with fail
  go_loopw [9] (fun iv wr => ∃ i : Nat, i ≤ KN ∧ iv = .int .i64 i ∧ Hid (Below w3.heap.size w3 wr)) (fun i _ => KN - (intOf i).toNat)
  case atStart => exact ⟨0, Nat.zero_le _, rfl, Lib.hid (Below.refl _ _)⟩
  case round =>
    obtain ⟨i, hi, rfl, HB⟩ := hrel
    obtain ⟨wo, rfl⟩ : ∃ wo : World, wo = wr := ⟨_, rfl⟩
    by_cases hlt : i < KN
    · have hiK : i < K.length := by rw [HKN.out]; exact hlt
      obtain ⟨bk, ok, ck2, e1, hbk, hrow⟩ := RowV.form X3.out (by omega)
      rw [HKN.out] at e1
      injection e1 with e1 e2 e3
      subst e1 e3
      have r0 := range_below hbk (hrow i hiK) HB.out
      have hbk2 := Nat.lt_of_lt_of_le hbk HB.out.size
      obtain ⟨ri, hri, hnm, y, y1, y2, y3, hK3⟩ := KM.out K[i] (List.getElem_mem hiK)
      have HP : Hid (∀ q : Nat, q + 1 = i → ∃ p1 p2 p3 : Int, (p3 < (K[i]'hiK).2.2 ∨ (p3 = (K[i]'hiK).2.2 ∧ (p1 < (K[i]'hiK).1 ∨ (p1 = (K[i]'hiK).1 ∧ p2 < (K[i]'hiK).2.1)))) ∧ wo.rangeAt bk (ok + q * 3) [.int .i64 p1, .int .i64 p2, .int .i64 p3]) := Lib.hid (fun q hq => by
        subst hq
        have hr := rise_at KP.out (i := q + 1) (by omega) hiK
        have e9 : q + 1 - 1 = q := rfl
        obtain ⟨⟨p1, p2, p3⟩, hp9⟩ : ∃ p, K[q]'(by omega) = p := ⟨_, rfl⟩
        have hr2 : olt (K[q]'(by omega)) (K[q + 1]'hiK) := hr
        rw [hp9] at hr2
        refine ⟨p1, p2, p3, hr2, ?_⟩
        have := range_below hbk (hrow q (by omega)) HB.out
        rw [hp9] at this
        exact this)
      rw [hK3] at r0 HP
      obtain ⟨b, off, c2, e1, hb, hrv⟩ := RowV.form V3.out (by omega)
      rw [HN.out] at e1
      injection e1 with e1 e4 e3
      subst e1 e3
      have rr := range_below hb (hrv ri hri) HB.out
      obtain ⟨r, hr⟩ : ∃ r, L[ri]'hri = r := ⟨_, rfl⟩
      rw [hr] at rr hnm y1 y2 y3 r0 HP
      have hck : chkB r = true := by rw [← hr]; exact all_at HRB.out hri
      have hrN : ri < N := by rw [← HN.out]; exact hri
      clear hrow hrv hK3 hr hri hiK e2 e4
      obtain ⟨nm, fr, tu, mo, kk, vv, dd, nn, cc, sv, lt⟩ := r
      obtain rfl : nm = NM := hnm
      obtain ⟨f1, f2, f3, f4, f5⟩ := chk_n hck
      have y1 : fr ≤ y := y1
      have y2 : y ≤ min tu last := y2
      obtain ⟨D, hD⟩ : ∃ D, Wk.resV y mo kk vv dd = D := ⟨_, rfl⟩
      have HD : Hid (Wk.resV y mo kk vv dd = D ∧ Wk.resE y mo kk vv dd = 0) := Lib.hid ⟨hD, y3⟩
      have hdb := res_bd y mo kk vv dd
      rw [hD] at hdb
      obtain ⟨i3, hi3⟩ : ∃ i3, D * 86400 + nn = i3 := ⟨_, rfl⟩
      have hloc : loc ⟨nm, fr, tu, mo, kk, vv, dd, nn, cc, sv, lt⟩ y = i3 := by rw [← hi3, ← hD]; rfl
      rw [hloc] at r0 HP
      have hib : -100000000000 ≤ i3 ∧ i3 ≤ 1000000000000 := by omega
      have HI3 := Lib.hid hi3
      have r0 : wo.rangeAt bk (ok + i * 3) [.int .i64 ri, .int .i64 y, .int .i64 i3] := r0
      have HR0 := Lib.hid r0
      have HRR : Hid (wo.rangeAt b (off + ri * 11) [.string ⟨nm.toArray⟩, .int .i64 fr, .int .i64 tu, .int .i64 mo, .int .i64 kk, .int .i64 vv, .int .i64 dd, .int .i64 nn, .int .i64 cc, .int .i64 sv, .string ⟨lt.toArray⟩]) := Lib.hid rr
      have HBB := Lib.hid hbk2
      clear hD hloc hi3 hck r0 rr hbk2 y3
      go_upto_region 9 with fail
      go_cut [124] (fun v wz => v = .bool false ∧ Hid (Below wo.heap.size wo wz))
      case first =>
        clear hdb hib y1 y2 f1 f2 f3 f4 f5
        by_cases hi0 : i = 0
        · have g0 : ¬ (0 : Int) < (i : Int) := by omega
          have g0' : ¬ 0 < i := by omega
          clear hi0
          have S0 : Hid (KpS wo bk (ok + i * 3) (ok + i * 3) [.int .i64 ri, .int .i64 y, .int .i64 i3] [.int .i64 ri, .int .i64 y, .int .i64 i3] wo) := Lib.hid ⟨HR0.out, HR0.out, Below.refl _ _⟩
          refine rr9a _ _ N cV bk ok KN cK i ri y i3 wo S0 g0' _ _ _ _ _ _ _ _ _ _ _ _ _ _ _ _ _ _ _ _ _ _ _ _ _ _ _ _ _ _ _ _ _ _ _ _ _ _ _ _ _ _ _ _ _ _ _ _ _ _ _ _ _ _ _ _ _ _ _ _ _ _ _ _ _ _ _ _ _ _ _ _ _ _ _ _ _ _ _ _ _ _ _ _ _ _ _ _ _ _ _ _ _ _ _ _ _ _ _ _ _ _ _ _ _ _ _ _ _ _ _ _ _ _ _ _ _ _ _ _ _ _ _ _ _ _ _ _ _ _ _ _ _ _ _ _ _ _ _ _ _ _ _ _ _ _ _ _ _ _ _ _ _ _ _ _ _ _ _ _ _ _ _ _ _ _ _ _ _ _ _ _ _ _ _ _ _ _ _ _ _ _ _ _ _ _ _ _ _ _ _ _ _ _ _ _ _ _ _ _ _ _ _ _ _ _ _ _ _ _ _ _ _ _ _ _ _ _ _ _ _ _ _ _ _ _ _ _ _ _ _ _ _ _ _ _ _ _ _ _ _ _ _ _ _ _ _ _ _ _ _ _ _ _ _ _ _ _ _ (by intro c a d v wz h; cases d <;> exact h) ?_
          intros
          go_wp2
          go_meet
          exact ⟨rfl, by assumption⟩
        · obtain ⟨q, rfl⟩ : ∃ q, i = q + 1 := ⟨i - 1, by omega⟩
          obtain ⟨p1, p2, p3, hlt3, rp⟩ := HP.out q rfl
          have hlt3 : p3 < i3 ∨ (p3 = i3 ∧ (p1 < (ri : Int) ∨ (p1 = (ri : Int) ∧ p2 < y))) := hlt3
          have S0 : Hid (KpS wo bk (ok + (q + 1) * 3) (ok + q * 3) [.int .i64 ri, .int .i64 y, .int .i64 i3] [.int .i64 p1, .int .i64 p2, .int .i64 p3] wo) := Lib.hid ⟨HR0.out, rp, Below.refl _ _⟩
          have g0 : (0 : Int) < ((q + 1 : Nat) : Int) := by omega
          have w1x : IntKind.i64.wrap (((q + 1 : Nat) : Int) - 1) = (q : Int) := by rw [IntKind.wrap_i64]; omega
          have w2x : IntKind.i64.wrap (q : Int) = (q : Int) := by rw [IntKind.wrap_i64]; omega
          have hx1 : (q : Int) + 1 < (KN : Int) := by omega
          have hx0 : (0 : Int) ≤ (q : Int) + 1 := by omega
          have hx2 : (q : Int) < (KN : Int) := by omega
          clear rp hi0 HP
          rcases hlt3 with c1 | ⟨rfl, c1 | ⟨rfl, c1⟩⟩
          · have h1 : ¬ i3 < p3 := by omega
            have h2 : (i3 == p3) = false := beq_eq_false_iff_ne.2 (by omega)
            clear c1
            refine rr9b _ _ N cV bk ok KN cK q ri y i3 p1 p2 p3 wo S0 g0 hlt K2M h1 h2 _ _ _ _ _ _ _ _ _ _ _ _ _ _ _ _ _ _ _ _ _ _ _ _ _ _ _ _ _ _ _ _ _ _ _ _ _ _ _ _ _ _ _ _ _ _ _ _ _ _ _ _ _ _ _ _ _ _ _ _ _ _ _ _ _ _ _ _ _ _ _ _ _ _ _ _ _ _ _ _ _ _ _ _ _ _ _ _ _ _ _ _ _ _ _ _ _ _ _ _ _ _ _ _ _ _ _ _ _ _ _ _ _ _ _ _ _ _ _ _ _ _ _ _ _ _ _ _ _ _ _ _ _ _ _ _ _ _ _ _ _ _ _ _ _ _ _ _ _ _ _ _ _ _ _ _ _ _ _ _ _ _ _ _ _ _ _ _ _ _ _ _ _ _ _ _ _ _ _ _ _ _ _ _ _ _ _ _ _ _ _ _ _ _ _ _ _ _ _ _ _ _ _ _ _ _ _ _ _ _ _ _ _ _ _ _ _ _ _ _ _ _ _ _ _ _ _ _ _ _ _ _ _ _ _ _ _ _ _ _ _ _ _ _ _ _ _ _ _ _ _ _ _ _ _ _ _ _ _ (by intro c a d v wz h; cases d <;> exact h) ?_
            intros
            go_wp2
            go_meet
            exact ⟨rfl, by assumption⟩
          · have h1 : ¬ p3 < p3 := by omega
            have h3 : ¬ (ri : Int) < p1 := by omega
            have h4 : ((ri : Int) == p1) = false := beq_eq_false_iff_ne.2 (by omega)
            clear c1
            refine rr9c _ _ N cV bk ok KN cK q ri y p1 p2 p3 wo S0 g0 hlt K2M h3 h4 _ _ _ _ _ _ _ _ _ _ _ _ _ _ _ _ _ _ _ _ _ _ _ _ _ _ _ _ _ _ _ _ _ _ _ _ _ _ _ _ _ _ _ _ _ _ _ _ _ _ _ _ _ _ _ _ _ _ _ _ _ _ _ _ _ _ _ _ _ _ _ _ _ _ _ _ _ _ _ _ _ _ _ _ _ _ _ _ _ _ _ _ _ _ _ _ _ _ _ _ _ _ _ _ _ _ _ _ _ _ _ _ _ _ _ _ _ _ _ _ _ _ _ _ _ _ _ _ _ _ _ _ _ _ _ _ _ _ _ _ _ _ _ _ _ _ _ _ _ _ _ _ _ _ _ _ _ _ _ _ _ _ _ _ _ _ _ _ _ _ _ _ _ _ _ _ _ _ _ _ _ _ _ _ _ _ _ _ _ _ _ _ _ _ _ _ _ _ _ _ _ _ _ _ _ _ _ _ _ _ _ _ _ _ _ _ _ _ _ _ _ _ _ _ _ _ _ _ _ _ _ _ _ _ _ _ _ _ _ _ _ _ _ _ _ _ _ _ _ _ _ _ _ _ _ _ _ _ _ (by intro c a d v wz h; cases d <;> exact h) ?_
            intros
            go_wp2
            go_meet
            exact ⟨rfl, by assumption⟩
          · have h5 : ¬ y ≤ p2 := by omega
            clear c1
            refine rr9d _ _ N cV bk ok KN cK q ri y p2 p3 wo S0 g0 hlt K2M h5 _ _ _ _ _ _ _ _ _ _ _ _ _ _ _ _ _ _ _ _ _ _ _ _ _ _ _ _ _ _ _ _ _ _ _ _ _ _ _ _ _ _ _ _ _ _ _ _ _ _ _ _ _ _ _ _ _ _ _ _ _ _ _ _ _ _ _ _ _ _ _ _ _ _ _ _ _ _ _ _ _ _ _ _ _ _ _ _ _ _ _ _ _ _ _ _ _ _ _ _ _ _ _ _ _ _ _ _ _ _ _ _ _ _ _ _ _ _ _ _ _ _ _ _ _ _ _ _ _ _ _ _ _ _ _ _ _ _ _ _ _ _ _ _ _ _ _ _ _ _ _ _ _ _ _ _ _ _ _ _ _ _ _ _ _ _ _ _ _ _ _ _ _ _ _ _ _ _ _ _ _ _ _ _ _ _ _ _ _ _ _ _ _ _ _ _ _ _ _ _ _ _ _ _ _ _ _ _ _ _ _ _ _ _ _ _ _ _ _ _ _ _ _ _ _ _ _ _ _ _ _ _ _ _ _ _ _ _ _ _ _ _ _ _ _ _ _ _ _ _ _ _ _ _ _ _ _ _ _ (by intro c a d v wz h; cases d <;> exact h) ?_
            intros
            go_wp2
            go_meet
            exact ⟨rfl, by assumption⟩
      case rest =>
      obtain ⟨w9, rfl⟩ : ∃ x : World, x = wc := ⟨_, rfl⟩
      obtain ⟨rfl, HB9⟩ := hcut
      have K9 : Hid (w9.rangeAt bk (ok + i * 3) [.int .i64 ri, .int .i64 y, .int .i64 i3]) := Lib.hid (range_below HBB.out HR0.out HB9.out)
      have V9 : Hid (w9.rangeAt b (off + ri * 11) [.string ⟨nm.toArray⟩, .int .i64 fr, .int .i64 tu, .int .i64 mo, .int .i64 kk, .int .i64 vv, .int .i64 dd, .int .i64 nn, .int .i64 cc, .int .i64 sv, .string ⟨lt.toArray⟩]) := Lib.hid (range_below (Nat.lt_of_lt_of_le hb HB.out.size) HRR.out HB9.out)
      have KL9 : Hid (bk < w9.heap.size) := Lib.hid (Nat.lt_of_lt_of_le HBB.out HB9.out.size)
      have D9 := Lib.hid (bstep HB.out HB9.out)
      clear HP HR0 HRR HBB HB9 HB hdb hib
      have a0 : w9.cell? ⟨bk, ok + i * 3, none⟩ = some (.int .i64 ri) := K9.out 0 _ rfl
      have i0 : ¬ (ri : Int) < 0 := by omega
      have i1 : ¬ (N : Int) ≤ (ri : Int) := by omega
      have wri : IntKind.i64.wrap (ri : Int) = (ri : Int) := by rw [IntKind.wrap_i64]; omega
      have hC1 := Cs.new w9 [.string ⟨nm.toArray⟩, .int .i64 fr, .int .i64 tu, .int .i64 mo, .int .i64 kk, .int .i64 vv, .int .i64 dd, .int .i64 nn, .int .i64 cc, .int .i64 sv, .string ⟨lt.toArray⟩] 43
      have S0 : Hid (RsS w bk (ok + i * 3) ri y i3 w9.heap.size [.string ⟨nm.toArray⟩, .int .i64 fr, .int .i64 tu, .int .i64 mo, .int .i64 kk, .int .i64 vv, .int .i64 dd, .int .i64 nn, .int .i64 cc, .int .i64 sv, .string ⟨lt.toArray⟩] (w9.alloc (Obj.cells #[.string ⟨nm.toArray⟩, .int .i64 fr, .int .i64 tu, .int .i64 mo, .int .i64 kk, .int .i64 vv, .int .i64 dd, .int .i64 nn, .int .i64 cc, .int .i64 sv, .string ⟨lt.toArray⟩] 43))) := Lib.hid ⟨range_below KL9.out K9.out ((Below.refl w9.heap.size w9).alloc (Nat.le_refl _) _), by have := KL9.out; simp; omega, hC1, (bstep B3.out D9.out).alloc (bstep B3.out D9.out).size _⟩
      have D0 : Hid (Below w3.heap.size w3 (w9.alloc (Obj.cells #[.string ⟨nm.toArray⟩, .int .i64 fr, .int .i64 tu, .int .i64 mo, .int .i64 kk, .int .i64 vv, .int .i64 dd, .int .i64 nn, .int .i64 cc, .int .i64 sv, .string ⟨lt.toArray⟩] 43))) := Lib.hid (D9.out.alloc D9.out.size _)
      clear hC1
      go_upto_region 13 with fail
      go_cut [10] (fun p wz => p = .pointer (some ⟨w9.heap.size, 0, none⟩) ∧ w9.alloc (Obj.cells #[.string ⟨nm.toArray⟩, .int .i64 fr, .int .i64 tu, .int .i64 mo, .int .i64 kk, .int .i64 vv, .int .i64 dd, .int .i64 nn, .int .i64 cc, .int .i64 sv, .string ⟨lt.toArray⟩] 43) = wz)
      case first =>
        go_wp2_with (refine ldV V9.out rfl (by rfl) (by rfl) (by rfl) ?_; intro K2 hK2; go_simp)
        go_meet
        exact ⟨rfl, rfl⟩
      case rest =>
      obtain ⟨rfl, hw13⟩ := hcut
      rw [← hw13]
      clear hw13 a0 i0 i1 wri K9 V9 D9
      obtain ⟨g, hg⟩ : ∃ g, w9.heap.size = g := ⟨_, rfl⟩
      rw [hg] at S0 ⊢
      clear hg KL9
      generalize (w9.alloc (Obj.cells #[.string ⟨nm.toArray⟩, .int .i64 fr, .int .i64 tu, .int .i64 mo, .int .i64 kk, .int .i64 vv, .int .i64 dd, .int .i64 nn, .int .i64 cc, .int .i64 sv, .string ⟨lt.toArray⟩] 43)) = w13 at S0 D0 ⊢
      go_upto_region 14 with fail
      go_cut [11, 12] (fun p q wz => p = .int .i64 D ∧ q = .int .i64 0 ∧ Hid (RsS w bk (ok + i * 3) ri y i3 g [.string ⟨nm.toArray⟩, .int .i64 fr, .int .i64 tu, .int .i64 mo, .int .i64 kk, .int .i64 vv, .int .i64 dd, .int .i64 nn, .int .i64 cc, .int .i64 sv, .string ⟨lt.toArray⟩] wz) ∧ Hid (Below w3.heap.size w3 wz))
      case first =>
        clear f1 f2 f3 f4 f5 y1 y2
        refine Hr.Walk.region (R := fun _ x => RsS w bk (ok + i * 3) ri y i3 g [.string ⟨nm.toArray⟩, .int .i64 fr, .int .i64 tu, .int .i64 mo, .int .i64 kk, .int .i64 vv, .int .i64 dd, .int .i64 nn, .int .i64 cc, .int .i64 sv, .string ⟨lt.toArray⟩] x) (by kernel_rfl) ?_
        obtain ⟨w1, hw1⟩ : ∃ z, w13.drew = z := ⟨_, rfl⟩
        have S1 : Hid (RsS w bk (ok + i * 3) ri y i3 g [.string ⟨nm.toArray⟩, .int .i64 fr, .int .i64 tu, .int .i64 mo, .int .i64 kk, .int .i64 vv, .int .i64 dd, .int .i64 nn, .int .i64 cc, .int .i64 sv, .string ⟨lt.toArray⟩] w1) := Lib.hid (by rw [← hw1]; exact S0.out.drew)
        have D1 : Hid (Below w3.heap.size w3 w1) := Lib.hid (by rw [← hw1]; exact below_drewN D0.out 1)
        rw [hw1]
        clear hw1 S0 D0
        refine Hr.Walk.take (i := 0) (v := ?vr0) (fun x => RsS w bk (ok + i * 3) ri y i3 g [.string ⟨nm.toArray⟩, .int .i64 fr, .int .i64 tu, .int .i64 mo, .int .i64 kk, .int .i64 vv, .int .i64 dd, .int .i64 nn, .int .i64 cc, .int .i64 sv, .string ⟨lt.toArray⟩] x) (fun _ => True) rfl (by kernel_rfl) (by kernel_rfl) (by kernel_rfl) (fun _ _ _ h => h) (fun _ _ _ _ _ _ => trivial) (fun _ _ _ h => h) (fun _ _ h => h) trivial (Or.inl ⟨by rfl, ?hyr0⟩) S1.out S1.out ?restr0
        case hyr0 => intro x hx; have k1 := hx.k 1 _ rfl; have r3 := (hx.r.2 3 _ rfl).1; have r4 := (hx.r.2 4 _ rfl).1; have r5 := (hx.r.2 5 _ rfl).1; have r6 := (hx.r.2 6 _ rfl).1; clear hx; go_simp; try with_reducible rfl
        (try go_simp)
        refine Hr.Walk.take (i := 1) (v := ?vr1) (fun x => RsS w bk (ok + i * 3) ri y i3 g [.string ⟨nm.toArray⟩, .int .i64 fr, .int .i64 tu, .int .i64 mo, .int .i64 kk, .int .i64 vv, .int .i64 dd, .int .i64 nn, .int .i64 cc, .int .i64 sv, .string ⟨lt.toArray⟩] x) (fun _ => True) rfl (by kernel_rfl) (by kernel_rfl) (by kernel_rfl) (fun _ _ _ h => h) (fun _ _ _ _ _ _ => trivial) (fun _ _ _ h => h) (fun _ _ h => h) trivial (Or.inl ⟨by rfl, ?hyr1⟩) S1.out S1.out ?restr1
        case hyr1 => intro x hx; have k1 := hx.k 1 _ rfl; have r3 := (hx.r.2 3 _ rfl).1; have r4 := (hx.r.2 4 _ rfl).1; have r5 := (hx.r.2 5 _ rfl).1; have r6 := (hx.r.2 6 _ rfl).1; clear hx; go_simp; try with_reducible rfl
        (try go_simp)
        refine Hr.Walk.take (i := 2) (v := ?vr2) (fun x => RsS w bk (ok + i * 3) ri y i3 g [.string ⟨nm.toArray⟩, .int .i64 fr, .int .i64 tu, .int .i64 mo, .int .i64 kk, .int .i64 vv, .int .i64 dd, .int .i64 nn, .int .i64 cc, .int .i64 sv, .string ⟨lt.toArray⟩] x) (fun _ => True) rfl (by kernel_rfl) (by kernel_rfl) (by kernel_rfl) (fun _ _ _ h => h) (fun _ _ _ _ _ _ => trivial) (fun _ _ _ h => h) (fun _ _ h => h) trivial (Or.inl ⟨by rfl, ?hyr2⟩) S1.out S1.out ?restr2
        case hyr2 => intro x hx; have k1 := hx.k 1 _ rfl; have r3 := (hx.r.2 3 _ rfl).1; have r4 := (hx.r.2 4 _ rfl).1; have r5 := (hx.r.2 5 _ rfl).1; have r6 := (hx.r.2 6 _ rfl).1; clear hx; go_simp; try with_reducible rfl
        (try go_simp)
        refine Hr.Walk.take (i := 3) (v := ?vr3) (fun x => RsS w bk (ok + i * 3) ri y i3 g [.string ⟨nm.toArray⟩, .int .i64 fr, .int .i64 tu, .int .i64 mo, .int .i64 kk, .int .i64 vv, .int .i64 dd, .int .i64 nn, .int .i64 cc, .int .i64 sv, .string ⟨lt.toArray⟩] x) (fun _ => True) rfl (by kernel_rfl) (by kernel_rfl) (by kernel_rfl) (fun _ _ _ h => h) (fun _ _ _ _ _ _ => trivial) (fun _ _ _ h => h) (fun _ _ h => h) trivial (Or.inl ⟨by rfl, ?hyr3⟩) S1.out S1.out ?restr3
        case hyr3 => intro x hx; have k1 := hx.k 1 _ rfl; have r3 := (hx.r.2 3 _ rfl).1; have r4 := (hx.r.2 4 _ rfl).1; have r5 := (hx.r.2 5 _ rfl).1; have r6 := (hx.r.2 6 _ rfl).1; clear hx; go_simp; try with_reducible rfl
        (try go_simp)
        refine Hr.Walk.take (i := 4) (v := ?vr4) (fun x => RsS w bk (ok + i * 3) ri y i3 g [.string ⟨nm.toArray⟩, .int .i64 fr, .int .i64 tu, .int .i64 mo, .int .i64 kk, .int .i64 vv, .int .i64 dd, .int .i64 nn, .int .i64 cc, .int .i64 sv, .string ⟨lt.toArray⟩] x) (fun _ => True) rfl (by kernel_rfl) (by kernel_rfl) (by kernel_rfl) (fun _ _ _ h => h) (fun _ _ _ _ _ _ => trivial) (fun _ _ _ h => h) (fun _ _ h => h) trivial (Or.inl ⟨by rfl, ?hyr4⟩) S1.out S1.out ?restr4
        case hyr4 => intro x hx; have k1 := hx.k 1 _ rfl; have r3 := (hx.r.2 3 _ rfl).1; have r4 := (hx.r.2 4 _ rfl).1; have r5 := (hx.r.2 5 _ rfl).1; have r6 := (hx.r.2 6 _ rfl).1; clear hx; go_simp; try with_reducible rfl
        (try go_simp)
        refine Hr.Walk.take (i := 5) (v := ?vr5) (fun x => RsS w bk (ok + i * 3) ri y i3 g [.string ⟨nm.toArray⟩, .int .i64 fr, .int .i64 tu, .int .i64 mo, .int .i64 kk, .int .i64 vv, .int .i64 dd, .int .i64 nn, .int .i64 cc, .int .i64 sv, .string ⟨lt.toArray⟩] x) (fun _ => True) rfl (by kernel_rfl) (by kernel_rfl) (by kernel_rfl) (fun _ _ _ h => h) (fun _ _ _ _ _ _ => trivial) (fun _ _ _ h => h) (fun _ _ h => h) trivial (Or.inl ⟨by rfl, ?hyr5⟩) S1.out S1.out ?restr5
        case hyr5 => intro x hx; have k1 := hx.k 1 _ rfl; have r3 := (hx.r.2 3 _ rfl).1; have r4 := (hx.r.2 4 _ rfl).1; have r5 := (hx.r.2 5 _ rfl).1; have r6 := (hx.r.2 6 _ rfl).1; clear hx; go_simp; try with_reducible rfl
        (try go_simp)
        refine Hr.Walk.take (i := 6) (v := ?vr6) (fun x => RsS w bk (ok + i * 3) ri y i3 g [.string ⟨nm.toArray⟩, .int .i64 fr, .int .i64 tu, .int .i64 mo, .int .i64 kk, .int .i64 vv, .int .i64 dd, .int .i64 nn, .int .i64 cc, .int .i64 sv, .string ⟨lt.toArray⟩] x) (fun _ => True) rfl (by kernel_rfl) (by kernel_rfl) (by kernel_rfl) (fun _ _ _ h => h) (fun _ _ _ _ _ _ => trivial) (fun _ _ _ h => h) (fun _ _ h => h) trivial (Or.inl ⟨by rfl, ?hyr6⟩) S1.out S1.out ?restr6
        case hyr6 => intro x hx; have k1 := hx.k 1 _ rfl; have r3 := (hx.r.2 3 _ rfl).1; have r4 := (hx.r.2 4 _ rfl).1; have r5 := (hx.r.2 5 _ rfl).1; have r6 := (hx.r.2 6 _ rfl).1; clear hx; go_simp; try with_reducible rfl
        (try go_simp)
        refine Hr.Walk.one (i := 7) (by kernel_rfl) rfl (fun K hK => ?_)
        have hx := S1.out; have k1 := hx.k 1 _ rfl; have r3 := (hx.r.2 3 _ rfl).1; have r4 := (hx.r.2 4 _ rfl).1; have r5 := (hx.r.2 5 _ rfl).1; have r6 := (hx.r.2 6 _ rfl).1; clear hx
        go_simp
        refine hK.out _ _ S1.out ?_
        clear hK K
        refine Hr.Walk.one (i := 8) (by kernel_rfl) rfl (fun K hK => ?_)
        have hx := S1.out; have k1 := hx.k 1 _ rfl; have r3 := (hx.r.2 3 _ rfl).1; have r4 := (hx.r.2 4 _ rfl).1; have r5 := (hx.r.2 5 _ rfl).1; have r6 := (hx.r.2 6 _ rfl).1; clear hx
        go_simp
        refine hK.out _ _ S1.out ?_
        clear hK K
        refine Hr.Walk.one (i := 9) (by kernel_rfl) rfl (fun K hK => ?_)
        go_simp
        refine (res_to y mo kk vv dd D 0 _ (HA.out.stays S1.out.g) HD).mono ?_
        rintro e w5 ⟨rfl, k5⟩
        have S2 := Lib.hid (S1.out.below k5)
        have D2 := Lib.hid (bstep D1.out k5)
        clear k5
        go_simp
        refine hK.out _ _ S2.out ?_
        clear hK K
        refine Hr.Walk.one (i := 10) (by kernel_rfl) rfl (fun K hK => ?_)
        skip
        go_simp
        refine hK.out _ _ S2.out ?_
        clear hK K
        refine Hr.Walk.take (i := 11) (v := ?vr11) (fun x => RsS w bk (ok + i * 3) ri y i3 g [.string ⟨nm.toArray⟩, .int .i64 fr, .int .i64 tu, .int .i64 mo, .int .i64 kk, .int .i64 vv, .int .i64 dd, .int .i64 nn, .int .i64 cc, .int .i64 sv, .string ⟨lt.toArray⟩] x) (fun _ => True) rfl (by kernel_rfl) (by kernel_rfl) (by kernel_rfl) (fun _ _ _ h => h) (fun _ _ _ _ _ _ => trivial) (fun _ _ _ h => h) (fun _ _ h => h) trivial (Or.inl ⟨by rfl, ?hyr11⟩) S2.out S2.out ?restr11
        case hyr11 => intro x hx; have k1 := hx.k 1 _ rfl; have r3 := (hx.r.2 3 _ rfl).1; have r4 := (hx.r.2 4 _ rfl).1; have r5 := (hx.r.2 5 _ rfl).1; have r6 := (hx.r.2 6 _ rfl).1; clear hx; go_simp; try with_reducible rfl
        (try go_simp)
        refine Hr.Walk.take (i := 12) (v := ?vr12) (fun x => RsS w bk (ok + i * 3) ri y i3 g [.string ⟨nm.toArray⟩, .int .i64 fr, .int .i64 tu, .int .i64 mo, .int .i64 kk, .int .i64 vv, .int .i64 dd, .int .i64 nn, .int .i64 cc, .int .i64 sv, .string ⟨lt.toArray⟩] x) (fun _ => True) rfl (by kernel_rfl) (by kernel_rfl) (by kernel_rfl) (fun _ _ _ h => h) (fun _ _ _ _ _ _ => trivial) (fun _ _ _ h => h) (fun _ _ h => h) trivial (Or.inl ⟨by rfl, ?hyr12⟩) S2.out S2.out ?restr12
        case hyr12 => intro x hx; have k1 := hx.k 1 _ rfl; have r3 := (hx.r.2 3 _ rfl).1; have r4 := (hx.r.2 4 _ rfl).1; have r5 := (hx.r.2 5 _ rfl).1; have r6 := (hx.r.2 6 _ rfl).1; clear hx; go_simp; try with_reducible rfl
        (try go_simp)
        refine Hr.Walk.one (i := 13) (by kernel_rfl) rfl (fun K hK => ?_)
        skip
        go_simp
        refine hK.out _ _ S2.out ?_
        clear hK K
        refine Hr.Walk.one (i := 14) (by kernel_rfl) rfl (fun K hK => ?_)
        skip
        go_simp
        refine hK.out _ _ S2.out ?_
        clear hK K
        refine Hr.Walk.done (by kernel_rfl) ?_ _
        go_wp2
        go_meet
        exact ⟨rfl, rfl, S2, D2⟩
      case rest =>
      obtain ⟨w14, rfl⟩ : ∃ x : World, x = wc := ⟨_, rfl⟩
      clear S0 D0
      obtain ⟨rfl, rfl, S4, D4⟩ := hcut
      have k1 := S4.out.k 1 _ rfl
      have k2 := S4.out.k 2 _ rfl
      have r0 := (S4.out.r.2 0 _ rfl).1
      have r1 := (S4.out.r.2 1 _ rfl).1
      have r2 := (S4.out.r.2 2 _ rfl).1
      have r7 := (S4.out.r.2 7 _ rfl).1
      have q1 : ¬ y < fr := by omega
      have q2 : ¬ min tu last < y := by omega
      have hdb := res_bd y mo kk vv dd
      rw [HD.out.1] at hdb
      have e7 := HI3.out
      have wm1 : IntKind.i64.wrap (D * 86400) = D * 86400 := by rw [IntKind.wrap_i64]; omega
      have wm2 : IntKind.i64.wrap (D * 86400 + nn) = i3 := by rw [IntKind.wrap_i64]; omega
      have wm3 : wrap64 (D * 86400 + nn) = i3 := by rw [← e7]; exact IntWalk.wrap64_in _ (by omega)
      have E7 := Lib.hid e7
      have B14 : Hid (Below w3.heap.size w3 w14.drew) := Lib.hid (below_drewN D4.out 1)
      clear f1 f2 f3 f4 f5 y1 e7
      by_cases hle : tu ≤ last
      · have y2' : ¬ tu < y := by omega
        clear y2 hdb
        go_upto_region 15 with fail
        go_region
        all_goals go_wp2
        all_goals go_roundw
        case rel => exact ⟨i + 1, by omega, by go_num, B14⟩
        case measure => simp [intOf]; omega
      · have y2' : ¬ last < y := by omega
        clear y2 hdb
        go_upto_region 15 with fail
        go_region
        all_goals go_wp2
        all_goals go_roundw
        case rel => exact ⟨i + 1, by omega, by go_num, B14⟩
        case measure => simp [intOf]; omega
    · have V4 := Lib.hid (V3.out.below HB.out)
      have B4 := Lib.hid (bstep B3.out HB.out)
      clear HB
      repeat (first | (apply_assumption; exact rsT17 AV N cV NM last AK KN cK L w wo HA V4 HN HLT HRB (by omega) (by omega) B4 KL _ _ _ _ _ _ _ _ _ _ _ _ _ _ _ _ _ _ _ _ _ _ _ _ _ _ _ _ _ _ _ _ _ _ _ _ _ _ _ _ _ _ _ _ _ _ _ _ _ _ _ _ _ _ _ _ _ _ _ _ _ _ _ _ _ _ _ _ _ _ _ _ _ _ _ _ _ _ _ _ _ _ _ _ _ _ _ _ _ _ _ _ _ _ _ _ _ _ _ _ _ _ _ _ _ _ _ _ _ _ _ _ _ _ _ _ _ _ _ _ _ _ _ _ _ _ _ _ _ _ _ _ _ _ _ _ _ _ _ _ _ _ _ _ _ _ _ _ _ _ _ _ _ _ _ _ _ _ _ _ _ _ _ _ _ _ _ _ _ _ _ _ _ _ _ _ _ _ _ _ _ _ _ _ _ _ _ _ _ _ _ _ _ _ _ _ _ _ _ _ _ _ _ _ _ _ _ _ _ _ _ _ _ _ _ _ _ _ _ _ _ _ _ _ _ _ _ _ _ _ _ _ _ _ _ _ _ _ _ _ _ _ _ _ _ _ _ _ _ _ _ _ _ _ _ _ _ _; done) | (go_not_at_region 17; first | go_values | go_skip | go_guarded | go_step | go_upon | go_back | (go_ite <;> go_prune <;> (try go_simp))))

theorem rises_w (v : Value) (name : ByteArray) (last : Int) (L : List RV) (w : World) (hA : Civ.Ahead w) (hv : RulV w v L) (hbd : ∀ r ∈ L, BdV r) (hlen : L.length ≤ maxLen) :
    Calls Tryd.prog 4 #[v, .string name, .int .i64 last] w fun e w' => e = .returned (.bool true) ∧ Below w.heap.size w w' := by
  obtain ⟨NM, rfl⟩ := str_of name
  exact rises_any v NM last L w hA hv hbd hlen
end Ons
end Go.Proofs.YthefgagmjamdkaaDoor
