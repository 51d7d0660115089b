/-
  The reference's Tree over whatever list of components. (Written by gen/gen_trf.py.)
-/
import Derived.Test.YtdakpncfophjnaaTrC
import Derived.Test.YtdakpncfophjnaaBdAG
namespace Go.Proofs.Ytdakpncfophjnaa
open Go.RowKit
namespace Tre
open Lin CutB Cel Ap
open Opn (TxtV)
/-- The ends of those that are open, the last one last. -/
def es (K : Stk) : List Int := K.reverse.map Prod.snd
def RowE (B : Nat) (w : World) (v : Value) (K : Stk) : Prop := RowI B w v (es K)
theorem es_cons (x : Int × Int) (K : Stk) : es (x :: K) = es K ++ [x.2] := by simp [es]
theorem es_len (K : Stk) : (es K).length = K.length := by simp [es]
theorem RowE.top {B : Nat} {w : World} {v : Value} {x : Int × Int} {K : Stk} (h : RowE B w v (x :: K)) : ∃ g c, v = .slice (some ⟨g, 0, none⟩) (K.length + 1) c ∧ g < w.heap.size ∧ w.cell? ⟨g, K.length, none⟩ = some (.int .i64 x.2) := by
  unfold RowE at h
  rw [es_cons] at h
  have hl : (es K ++ [x.2]).length = K.length + 1 := by rw [List.length_append, es_len]; rfl
  obtain ⟨g, c, rfl, _, h2, h3, _⟩ := h.form (by omega)
  refine ⟨g, c, by rw [hl], h2, ?_⟩
  have := h3 K.length (by omega)
  rw [this, List.getElem_append_right (by rw [es_len]; omega)]
  simp
theorem RowE.pop {B : Nat} {w : World} {g c : Nat} {x : Int × Int} {K : Stk} (h : RowE B w (.slice (some ⟨g, 0, none⟩) (K.length + 1) c) (x :: K)) : RowE B w (.slice (some ⟨g, 0, none⟩) K.length c) K := by
  unfold RowE RowI at h ⊢
  rw [es_cons, List.map_append, List.length_append, es_len] at h
  rw [es_len]
  exact ownsRow_pop (by simp [es_len]) h
theorem ral_v (X : ByteArray) (A B : List UInt8) (Y : ByteArray) (r : Bool) (w : World) (hX : X = ⟨A.toArray⟩) (hY : Y = ⟨B.toArray⟩) (ha : A.length ≤ 1000000) (hb : B.length ≤ 1000000) (h : Hid (smN A B = r)) :
    Calls Try.prog 48 #[.string X, .string Y] w fun e w' => e = .returned (.bool r) ∧ Below w.heap.size w w' := by
  subst hX hY
  exact ral_to _ _ A B r w ha hb (Lib.hid rfl) (Lib.hid rfl) h
theorem rnm_v (X : ByteArray) (A : List UInt8) (r : Bool) (w : World) (hX : X = ⟨A.toArray⟩) (ha : A.length ≤ 1000000) (h : Hid (nmB A = r)) :
    Calls Try.prog 49 #[.string X] w fun e w' => e = .returned (.bool r) ∧ w = w' := by
  subst hX
  exact nmv A r w ha h
theorem rli_v (a b : ByteArray) (l : LV) (pv : Value) (r : Bool) (w : World) (ha : a = ⟨l.nm.toArray⟩) (hb : b = ⟨l.vl.toArray⟩) (hp : ParsV w pv l.ps) (hs : smlL l) (hR : Hid (lnB l = r)) :
    Calls Try.prog 21 #[.agg #[.string a, pv, .string b]] w fun e w' => e = .returned (.bool r) ∧ Below w.heap.size w w' := by
  subst ha hb
  obtain ⟨nm, ps, vl⟩ := l
  exact rln_to nm vl pv ps r w (by have := hs.1; simp only at this; omega) hs.2.1 hp hs.2.2.1 hs.2.2.2 hR
set_option maxHeartbeats 3200000 in
set_option maxRecDepth 100000 in
theorem rtr_0 (A : Option Addr) (c : Nat) (w : World) :
    Calls Try.prog 34 #[.slice A 0 c] w fun e w' => e = .returned (.bool false) ∧ Below w.heap.size w w' := by
  go_enter Try.func34, Try.ntmps34
  go_wp2
  go_ret
  exact ⟨rfl, Below.refl _ _⟩
set_option maxHeartbeats 3200000 in
set_option maxRecDepth 100000 in
theorem rtr_no (b off n c : Nat) (o : Int) (w : World) (hn0 : 0 < n) (hn : n ≤ 1000000) (hc : w.cell? ⟨b, off + 2, none⟩ = some (.int .i64 o)) (h : ¬ o = (n : Int) - 1) :
    Calls Try.prog 34 #[.slice (some ⟨b, off, none⟩) n c] w fun e w' => e = .returned (.bool false) ∧ Below w.heap.size w w' := by
  have x0 : ((n : Int) == 0) = false := beq_eq_false_iff_ne.2 (by omega)
  have x2 : ¬ n = 0 := by omega
  have x1 : (o != (n : Int) - 1) = true := bne_iff_ne.2 h
  go_enter Try.func34, Try.ntmps34
  go_wp2
  go_ret
  exact ⟨rfl, Below.refl _ _⟩
set_option maxHeartbeats 51200000 in
set_option maxRecDepth 100000 in
theorem rtr_1 (b off n c : Nat) (L : List CV) (r : Bool) (w : World) (hnl : Hid (L.length = n)) (hn0 : 0 < n) (hn : n ≤ 1000000) (hbl : b < w.heap.size) (hc0 : w.cell? ⟨b, off + 2, none⟩ = some (.int .i64 ((n : Int) - 1))) (hc : Hid (CmpC w b off L)) (hL : Hid (∀ c ∈ L, i64B c.own)) (hsm : Hid (∀ c ∈ L, smlC c)) (h0n : Hid (ownAt L 0 = (n : Int) - 1))
    (hR : Hid (chkG 0 [] L = r)) :
    Calls Try.prog 34 #[.slice (some ⟨b, off, none⟩) n c] w fun e w' => e = .returned (.bool r) ∧ Below w.heap.size w w' := by
  have x0 : ((n : Int) == 0) = false := beq_eq_false_iff_ne.2 (by omega)
  have xn : ¬ n = 0 := by omega
  have x1 : ((n : Int) - 1 != (n : Int) - 1) = false := by simp
  go_enter Try.func34, Try.ntmps34
  go_wp2_with fail
  go_loopw [3, 4] (fun sv iv wr => ∃ (k : Nat) (K : Stk) (A : Option Addr) (m : Nat) (cp : Nat), sv = .slice A m cp ∧ iv = .int .i64 k ∧ k ≤ n ∧ m ≤ 8 ∧ Hid (K.length = m) ∧ Hid (RowE w.heap.size wr (.slice A m cp) K) ∧ Hid (chkG k K (L.drop k) = r) ∧ Hid ((k = 0 → K = []) ∧ (0 < k → k ≤ n → StkOk n K)) ∧ Below w.heap.size w wr) (fun _ iv _ => n - (intOf iv).toNat)
  case atStart => exact ⟨0, [], none, 0, 0, rfl, rfl, by omega, by omega, Lib.hid rfl, Lib.hid (RowI.nil _ _), hR, Lib.hid ⟨fun _ => rfl, fun h => by omega⟩, Below.refl _ _⟩
  case round =>
    obtain ⟨k, K, A, m, cp, rfl, rfl, hk, hm, hKm, hrow, hG, hst, hb⟩ := hrel
    obtain ⟨wo, rfl⟩ : ∃ wo : World, wo = wr := ⟨_, rfl⟩
    by_cases hlt : k < n
    case neg =>
      have HF : Hid (true = r) := Lib.hid (by
        have h1 := hG.out
        rw [List.drop_of_length_le (by rw [hnl.out]; omega), chkG] at h1
        exact h1)
      go_wp2
      go_ret
      exact ⟨ret_b HF.out, hb⟩
    case pos =>
      have hkl : k < L.length := by rw [hnl.out]; exact hlt
      obtain ⟨sa, sn, sc, c0, c1, c2, hlv⟩ := cmp_at hc.out hkl
      obtain ⟨cv, hcv⟩ : ∃ c, L[k]'hkl = c := ⟨_, rfl⟩
      have hG' := hG.out
      rw [chk_drop hkl, hcv] at hG'
      obtain ⟨o1, o2⟩ := hL.out _ (List.getElem_mem hkl)
      have SMC := Lib.hid (hsm.out _ (List.getElem_mem hkl))
      rw [hcv] at c0 c2 hlv o1 o2 SMC
      obtain ⟨o, ho⟩ : ∃ o, cv.own = o := ⟨_, rfl⟩
      have HO := Lib.hid ho
      rw [ho] at c2 hG' o1 o2
      have H0O : Hid (k = 0 → o = (n : Int) - 1) := Lib.hid (fun e => by
        subst e
        rw [← h0n.out, ← ho, ← hcv]
        exact (own_nat L 0 hkl).symm)
      obtain ⟨X0, hX0⟩ : ∃ X : ByteArray, ⟨cv.nm.toArray⟩ = X := ⟨_, rfl⟩
      rw [hX0] at c0
      have H0 := Lib.hid hX0.symm
      have d0 := (hb.cell (p := ⟨b, off + k * 3, none⟩) hbl).trans c0
      have d1 := (hb.cell (p := ⟨b, off + k * 3 + 1, none⟩) hbl).trans c1
      have d2 := (hb.cell (p := ⟨b, off + k * 3 + 2, none⟩) hbl).trans c2
      have HLV := Lib.hid hlv
      have hsn : cv.ls.length = sn := by obtain ⟨_, _, e⟩ := hlv.slice; injection e with _ e _; exact e.symm
      have HSN := Lib.hid hsn
      have xsn : sn ≤ 1000000 := by rw [← hsn]; exact SMC.out.2.1
      obtain ⟨K', hK'⟩ : ∃ K', lvK K k = K' := ⟨_, rfl⟩
      have HK := Lib.hid hK'
      rw [hK'] at hG'
      have HG := Lib.hid hG'
      have hql : K'.length ≤ m := by rw [← hK', ← hKm.out]; exact lv_len K k
      obtain ⟨q, hq⟩ : ∃ q, K'.length = q := ⟨_, rfl⟩
      have HQ := Lib.hid hq
      rw [hq] at hql
      have HE : Hid (∀ x K1, x :: K1 = K' → ¬ k = 0 ∧ 0 ≤ x.2 ∧ x.2 ≤ n ∧ StkOk n (x :: K1)) := Lib.hid (fun x K1 e => by
        by_cases hk0 : k = 0
        · have := hst.out.1 hk0
          rw [this] at hK'
          rw [← hK'] at e
          cases e
        · have h1 := (hst.out.2 (by omega) hk).leave hlt
          rw [hK', ← e] at h1
          obtain ⟨y, K2, e2, e3, e4⟩ := h1.top
          injection e2 with e5 e6
          subst e5
          exact ⟨hk0, e3, e4, h1⟩)
      have HE0 : Hid ([] = K' → k = 0) := Lib.hid (fun e => by
        by_cases hk0 : k = 0
        · exact hk0
        · have h1 := (hst.out.2 (by omega) hk).leave hlt
          rw [hK', ← e] at h1
          obtain ⟨y, K2, e2, _⟩ := h1.top
          cases e2)
      obtain ⟨cb, hcb⟩ : ∃ x, cmpB cv = x := ⟨_, rfl⟩
      have HCB := Lib.hid hcb
      have HB := Lib.hid hb
      clear c0 c1 c2 hlv hX0 hcv ho hG' hG hK' hq hb hst hcb hsn
      go_wp2_with fail
      go_loopw [3] (fun sv wr => ∃ (K1 : Stk) (m1 : Nat), sv = .slice A m1 cp ∧ m1 ≤ m ∧ Hid (K1.length = m1) ∧ Hid (lvK K1 k = K') ∧ Hid (RowE w.heap.size wo (.slice A m1 cp) K1) ∧ wo = wr) (fun sv _ => lenOf sv)
      case atStart => exact ⟨K, m, rfl, Nat.le_refl _, hKm, HK, hrow, rfl⟩
      case round =>
        obtain ⟨K1, m1, rfl, hm1, hl1, hlv, hr, rfl⟩ := hrel
        clear hrow hKm
        cases K1 with
        | nil =>
          have hm0 : (0 : Nat) = m1 := hl1.out
          subst hm0
          have hK0 : [] = K' := hlv.out
          subst hK0
          have hk0 := HE0.out rfl
          subst hk0
          have ho := H0O.out rfl
          subst ho
          have hq0 : (0 : Nat) = q := HQ.out
          subst hq0
          clear HE HE0 H0O hlv hl1
          rw [Nat.zero_mul, Nat.add_zero] at d0 d1 d2
          have D1 := Lib.hid (Cs.new wo [.string X0, .slice sa sn sc, .int .i64 ((n : Int) - 1)] 63)
          have B1 := Lib.hid (HB.out.alloc HB.out.size (Obj.cells #[.string X0, .slice sa sn sc, .int .i64 ((n : Int) - 1)] 63))
          have R1 : Hid (RowE w.heap.size (wo.alloc (Obj.cells #[.string X0, .slice sa sn sc, .int .i64 ((n : Int) - 1)] 63)) (.slice A 0 cp) ([] : Stk)) := Lib.hid (RowI.below hr.out ((Below.refl wo.heap.size wo).alloc (Nat.le_refl _) (Obj.cells #[.string X0, .slice sa sn sc, .int .i64 ((n : Int) - 1)] 63)))
          obtain ⟨nb, hnb⟩ : ∃ x, nmB cv.nm = x := ⟨_, rfl⟩
          have HNB := Lib.hid hnb
          have HSN2 : Hid (nb = false → false = r) := Lib.hid (fun e => by rw [← HG.out, stpB, HCB.out, ← HCB.out, cmpB, HNB.out, e]; simp)
          clear hr hnb
          go_wp2_with fail
          refine (rnm_v X0 cv.nm nb _ H0.out SMC.out.1 HNB).mono ?_
          rintro e w2 ⟨rfl, hw2⟩
          subst hw2
          have gz := D1.out.1
          have y0 := (D1.out.2 0 _ rfl).1
          have y1 := (D1.out.2 1 _ rfl).1
          have y2 := (D1.out.2 2 _ rfl).1
          cases nb with
          | false =>
            have HF := Lib.hid (HSN2.out rfl)
            go_wp2
            go_ret
            exact ⟨ret_b HF.out, B1.out⟩
          | true =>
            have HGY : Hid (cb = true → chkG ((0 + 1 : Nat) : Int) ((((0 : Nat) : Int), ((0 : Nat) : Int) + 1 + ((n : Int) - 1)) :: ([] : Stk)) (L.drop (0 + 1)) = r) := Lib.hid (fun e => by
              rw [← HG.out, stpB, HK.out, HO.out, HCB.out, e, decide_eq_true (show (0 : Int) ≤ (n : Int) - 1 by omega)]
              rfl)
            have HSC : Hid (cb = false → false = r) := Lib.hid (fun e => by rw [← HG.out, stpB, HCB.out, e]; simp)
            clear HSN2 d0 d1 d2
            go_wp2_with fail
            go_loopw [7] (fun iv wx => ∃ j : Nat, j ≤ sn ∧ iv = .int .i64 j ∧ Hid ((cv.ls.take j).all linB = true) ∧ Hid (Cs wo.heap.size wx [.string X0, .slice sa sn sc, .int .i64 ((n : Int) - 1)]) ∧ Hid (RowE w.heap.size wx (.slice A 0 cp) ([] : Stk)) ∧ Below w.heap.size w wx) (fun iv _ => sn - (intOf iv).toNat)
            case atStart => exact ⟨0, Nat.zero_le _, rfl, Lib.hid rfl, D1, R1, B1.out⟩
            case round =>
              obtain ⟨j, hj, rfl, hall, D2, R2, hb⟩ := hrel
              clear D1 R1 B1 y0 y1 y2 gz
              have gz := D2.out.1
              have y1 := (D2.out.2 1 _ rfl).1
              by_cases hjt : j < sn
              · have hjl : j < cv.ls.length := by rw [HSN.out]; exact hjt
                obtain ⟨lb, lo, lc, hAv, hlb, hlc⟩ := HLV.out.form (by omega)
                have hA : sa = some ⟨lb, lo, none⟩ := by injection hAv
                subst hA
                obtain ⟨sv, f0, f1, f2, hpv⟩ := hlc j hjl
                obtain ⟨pa, pn, pc, hsv⟩ : ∃ a n c, sv = .slice a n c := by obtain ⟨a, n, c, h, _⟩ := hpv; exact ⟨a, n, c, h⟩
                subst hsv
                have S1 := Lib.hid (SMC.out.2.2 _ (List.getElem_mem hjl))
                obtain ⟨l, hl⟩ : ∃ l, cv.ls[j]'hjl = l := ⟨_, rfl⟩
                rw [hl] at f0 f2 hpv S1
                have HY : Hid (linB l = true → (cv.ls.take (j + 1)).all linB = true) := Lib.hid (fun q => lin_snoc cv.ls j hjl hall.out (by rw [hl]; exact q))
                have HNO : Hid (linB l = false → false = r) := Lib.hid (fun q => HSC.out (by rw [← HCB.out, cmpB, lin_no cv.ls j hjl (by rw [hl]; exact q)]; simp))
                obtain ⟨Y0, hY0⟩ : ∃ X : ByteArray, ⟨l.nm.toArray⟩ = X := ⟨_, rfl⟩
                obtain ⟨Y2, hY2⟩ : ∃ X : ByteArray, ⟨l.vl.toArray⟩ = X := ⟨_, rfl⟩
                rw [hY0] at f0
                rw [hY2] at f2
                have W0 := Lib.hid hY0.symm
                have W2 := Lib.hid hY2.symm
                have a0 := (hb.cell (p := ⟨lb, lo + j * 3, none⟩) hlb).trans f0
                have a1 := (hb.cell (p := ⟨lb, lo + j * 3 + 1, none⟩) hlb).trans f1
                have a2 := (hb.cell (p := ⟨lb, lo + j * 3 + 2, none⟩) hlb).trans f2
                have F0 := Lib.hid f0
                have HP := Lib.hid (hpv.below hb)
                have B2 := Lib.hid hb
                obtain ⟨t1, ht1⟩ : ∃ x, lnB l = x := ⟨_, rfl⟩
                obtain ⟨t2, ht2⟩ : ∃ x, smN l.nm bgL = x := ⟨_, rfl⟩
                obtain ⟨t3, ht3⟩ : ∃ x, smN l.nm enL = x := ⟨_, rfl⟩
                have T1 := Lib.hid ht1
                have T2 := Lib.hid ht2
                have T3 := Lib.hid ht3
                clear f0 f1 f2 hpv hY0 hY2 hl hb hall hlc hAv ht1 ht2 ht3
                go_wp2_with fail
                refine (rli_v Y0 Y2 l (.slice pa pn pc) t1 _ W0.out W2.out HP.out S1.out T1).mono ?_
                rintro e w3 ⟨rfl, k1⟩
                have D3 := Lib.hid (D2.out.below k1)
                have R3 : Hid (RowE w.heap.size w3 (.slice A 0 cp) ([] : Stk)) := Lib.hid (RowI.below R2.out k1)
                have B3 := Lib.hid (bstep B2.out k1)
                clear k1 a0 a1 a2 y1 gz B2 D2 R2
                cases t1 with
                | false =>
                  have HF := Lib.hid (HNO.out (by rw [linB, T1.out]; simp))
                  go_wp2
                  go_ret
                  exact ⟨ret_b HF.out, B3.out⟩
                | true =>
                  have g3 := D3.out.1
                  have z1 := (D3.out.2 1 _ rfl).1
                  have a0 := (B3.out.cell (p := ⟨lb, lo + j * 3, none⟩) hlb).trans F0.out
                  go_wp2_with fail
                  refine (ral_v Y0 l.nm bgL _ t2 _ W0.out rfl (by have := S1.out.1; omega) (by decide) T2).mono ?_
                  rintro e w4 ⟨rfl, k1⟩
                  have D4 := Lib.hid (D3.out.below k1)
                  have R4 : Hid (RowE w.heap.size w4 (.slice A 0 cp) ([] : Stk)) := Lib.hid (RowI.below R3.out k1)
                  have B4 := Lib.hid (bstep B3.out k1)
                  clear k1 a0 z1 g3 B3 D3 R3
                  cases t2 with
                  | true =>
                    have HF := Lib.hid (HNO.out (by rw [linB, T2.out]; simp))
                    go_wp2
                    go_ret
                    exact ⟨ret_b HF.out, B4.out⟩
                  | false =>
                    have g4 := D4.out.1
                    have z1 := (D4.out.2 1 _ rfl).1
                    have a0 := (B4.out.cell (p := ⟨lb, lo + j * 3, none⟩) hlb).trans F0.out
                    go_wp2_with fail
                    refine (ral_v Y0 l.nm enL _ t3 _ W0.out rfl (by have := S1.out.1; omega) (by decide) T3).mono ?_
                    rintro e w5 ⟨rfl, k1⟩
                    have D5 := Lib.hid (D4.out.below k1)
                    have R5 : Hid (RowE w.heap.size w5 (.slice A 0 cp) ([] : Stk)) := Lib.hid (RowI.below R4.out k1)
                    have B5 := Lib.hid (bstep B4.out k1)
                    clear k1 a0 z1 g4 B4 D4 R4
                    cases t3 with
                    | true =>
                      have HF := Lib.hid (HNO.out (by rw [linB, T3.out]; simp))
                      go_wp2
                      go_ret
                      exact ⟨ret_b HF.out, B5.out⟩
                    | false =>
                      have HYY := Lib.hid (HY.out (by rw [linB, T1.out, T2.out, T3.out]; rfl))
                      go_wp2
                      go_roundw
                      case rel => exact ⟨j + 1, by omega, by go_num, HYY, D5, R5, B5.out⟩
                      case measure => simp [intOf]; omega
              · have HCT : cb = true := by
                  have h1 := hall.out
                  rw [List.take_of_length_le (by rw [HSN.out]; omega)] at h1
                  rw [← HCB.out, cmpB, HNB.out, h1]; rfl
                have HGN := Lib.hid (HGY.out HCT)
                have y2 := (D2.out.2 2 _ rfl).1
                have hB := hb.size
                have hes : (es ([] : Stk)).length ≤ 100000000 := by simp [es]
                have RI : RowI w.heap.size wr (.slice A 0 cp) (es ([] : Stk)) := R2.out
                clear hall HGY HSC
                go_wp2_with (at_builtin; refine appI rfl _ _ rfl w.heap.size _ (es ([] : Stk)) rfl RI (1 + ((n : Int) - 1)) rfl hes hB ?_)
                intro w' g' cap r5 g5
                have HB2 := Lib.hid (g5.below w.heap.size w (Nat.le_refl _) hb hb.size)
                have HR5 : Hid (RowE w.heap.size w' (.slice (some ⟨g', 0, none⟩) (0 + 1) cap) ((((0 : Nat) : Int), ((0 : Nat) : Int) + 1 + ((n : Int) - 1)) :: ([] : Stk))) := Lib.hid (by
                  unfold RowE
                  rw [es_cons]
                  have e : ((0 : Nat) : Int) + 1 + ((n : Int) - 1) = 1 + ((n : Int) - 1) := by omega
                  rw [e]
                  exact r5)
                clear r5 g5 hb
                go_wp2
                go_roundw
                case rel => exact ⟨1, _, _, 1, cap, rfl, by go_num, by omega, by omega, Lib.hid rfl, HR5, HGN, Lib.hid ⟨fun e => by omega, fun _ _ => ⟨⟨[], 0, by simp; omega⟩, fun x hx => by rw [List.mem_singleton.1 hx]; exact ⟨by show (0 : Int) ≤ ((0 : Nat) : Int) + 1 + ((n : Int) - 1); omega, by show ((0 : Nat) : Int) + 1 + ((n : Int) - 1) ≤ n; omega⟩⟩⟩, HB2.out⟩
                case measure => simp [intOf]; omega
        | cons x K1 =>
          have hm2 : K1.length + 1 = m1 := hl1.out
          subst hm2
          obtain ⟨g, c', hv, hgl, t1⟩ := hr.out.top
          have hAg : A = some ⟨g, 0, none⟩ := by injection hv
          subst hAg
          obtain ⟨z, hz⟩ : ∃ z, K1.length = z := ⟨_, rfl⟩
          have HZ := Lib.hid hz
          rw [hz] at hr hm1 t1 ⊢
          clear hz hl1 hv
          have hlc := lv_cons x K1 k
          have hcap : z + 1 ≤ cp := (own_cap hr.out).2.1
          have hcap2 : z ≤ cp := by omega
          by_cases he : x.2 = k
          · have H1 : Hid (lvK K1 k = K') := Lib.hid (by rw [← hlv.out, hlc, if_pos he])
            have H2 : Hid (RowE w.heap.size wo (.slice (some ⟨g, 0, none⟩) z cp) K1) := Lib.hid (by
              have := hr.out
              rw [← HZ.out] at this ⊢
              exact this.pop)
            rw [he] at t1
            clear hlc hlv hr
            go_wp2
            go_roundw
            case rel => exact ⟨K1, z, rfl, by omega, HZ, H1, H2, trivial⟩
            case measure => simp [lenOf]
          · have H1 : x :: K1 = K' := by rw [← hlv.out, hlc, if_neg he]
            subst H1
            obtain ⟨hk0, e0, en, _⟩ := HE.out x K1 rfl
            have STK := Lib.hid (HE.out x K1 rfl).2.2.2
            have hq1 : K1.length + 1 = q := HQ.out
            rw [HZ.out] at hq1
            subst hq1
            obtain ⟨top, htop⟩ : ∃ t, x.2 = t := ⟨_, rfl⟩
            have HTOP := Lib.hid htop
            have hne : (top == (k : Int)) = false := beq_eq_false_iff_ne.2 (by rw [← htop]; exact he)
            have hne2 : ¬ top = (k : Int) := by rw [← htop]; exact he
            rw [htop] at t1 e0 en
            clear hlc hlv HE HE0 H0O he htop
            have D1 := Lib.hid (Cs.new wo [.string X0, .slice sa sn sc, .int .i64 o] 63)
            have B1 := Lib.hid (HB.out.alloc HB.out.size (Obj.cells #[.string X0, .slice sa sn sc, .int .i64 o] 63))
            have R1 : Hid (RowE w.heap.size (wo.alloc (Obj.cells #[.string X0, .slice sa sn sc, .int .i64 o] 63)) (.slice (some ⟨g, 0, none⟩) (z + 1) cp) (x :: K1)) := Lib.hid (RowI.below hr.out ((Below.refl wo.heap.size wo).alloc (Nat.le_refl _) (Obj.cells #[.string X0, .slice sa sn sc, .int .i64 o] 63)))
            obtain ⟨nb, hnb⟩ : ∃ x, nmB cv.nm = x := ⟨_, rfl⟩
            have HNB := Lib.hid hnb
            have HSN2 : Hid (nb = false → false = r) := Lib.hid (fun e => by rw [← HG.out, stpB, HCB.out, ← HCB.out, cmpB, HNB.out, e]; simp)
            clear hr hnb
            go_wp2_with fail
            refine (rnm_v X0 cv.nm nb _ H0.out SMC.out.1 HNB).mono ?_
            rintro e w2 ⟨rfl, hw2⟩
            subst hw2
            have gz := D1.out.1
            have y0 := (D1.out.2 0 _ rfl).1
            have y1 := (D1.out.2 1 _ rfl).1
            have y2 := (D1.out.2 2 _ rfl).1
            cases nb with
            | false =>
              have HF := Lib.hid (HSN2.out rfl)
              go_wp2
              go_ret
              exact ⟨ret_b HF.out, B1.out⟩
            | true =>
              by_cases ho0 : o < 0
              · have HF : Hid (false = r) := Lib.hid (by rw [← HG.out, stpB, HO.out, decide_eq_false (by omega)]; simp)
                go_wp2
                go_ret
                exact ⟨ret_b HF.out, B1.out⟩
              · by_cases hot : top - (k : Int) - 1 < o
                · have HF : Hid (false = r) := Lib.hid (by
                    rw [← HG.out, stpB, HK.out, HO.out, decide_eq_false (show ¬ (k : Int) = 0 by omega)]
                    have : decide (o ≤ topE (x :: K1) - (k : Int) - 1) = false := decide_eq_false (by show ¬ o ≤ x.2 - (k : Int) - 1; rw [HTOP.out]; omega)
                    rw [this]
                    simp)
                  go_wp2
                  go_ret
                  exact ⟨ret_b HF.out, B1.out⟩
                · by_cases h8 : 7 ≤ z
                  · have HF : Hid (false = r) := Lib.hid (by rw [← HG.out, stpB, HK.out, HQ.out, decide_eq_true (show z + 1 = 8 by omega)]; simp)
                    go_wp2
                    go_ret
                    exact ⟨ret_b HF.out, B1.out⟩
                  · have HGY : Hid (cb = true → chkG ((k + 1 : Nat) : Int) ((((k : Nat) : Int), ((k : Nat) : Int) + 1 + o) :: (x :: K1)) (L.drop (k + 1)) = r) := Lib.hid (fun e => by
                      rw [← HG.out, stpB, HK.out, HO.out, HCB.out, HQ.out, e, decide_eq_true (show (0 : Int) ≤ o by omega), decide_eq_false (show ¬ z + 1 = 8 by omega)]
                      have : decide (o ≤ topE (x :: K1) - (k : Int) - 1) = true := decide_eq_true (by show o ≤ x.2 - (k : Int) - 1; rw [HTOP.out]; omega)
                      rw [this]
                      simp)
                    have HSC : Hid (cb = false → false = r) := Lib.hid (fun e => by rw [← HG.out, stpB, HCB.out, e]; simp)
                    clear HSN2 d0 d1 d2
                    go_wp2_with fail
                    go_loopw [7] (fun iv wx => ∃ j : Nat, j ≤ sn ∧ iv = .int .i64 j ∧ Hid ((cv.ls.take j).all linB = true) ∧ Hid (Cs wo.heap.size wx [.string X0, .slice sa sn sc, .int .i64 o]) ∧ Hid (RowE w.heap.size wx (.slice (some ⟨g, 0, none⟩) (z + 1) cp) (x :: K1)) ∧ Below w.heap.size w wx) (fun iv _ => sn - (intOf iv).toNat)
                    case atStart => exact ⟨0, Nat.zero_le _, rfl, Lib.hid rfl, D1, R1, B1.out⟩
                    case round =>
                      obtain ⟨j, hj, rfl, hall, D2, R2, hb⟩ := hrel
                      clear D1 R1 B1 y0 y1 y2 gz
                      have gz := D2.out.1
                      have y1 := (D2.out.2 1 _ rfl).1
                      by_cases hjt : j < sn
                      · have hjl : j < cv.ls.length := by rw [HSN.out]; exact hjt
                        obtain ⟨lb, lo, lc, hAv, hlb, hlc⟩ := HLV.out.form (by omega)
                        have hA : sa = some ⟨lb, lo, none⟩ := by injection hAv
                        subst hA
                        obtain ⟨sv, f0, f1, f2, hpv⟩ := hlc j hjl
                        obtain ⟨pa, pn, pc, hsv⟩ : ∃ a n c, sv = .slice a n c := by obtain ⟨a, n, c, h, _⟩ := hpv; exact ⟨a, n, c, h⟩
                        subst hsv
                        have S1 := Lib.hid (SMC.out.2.2 _ (List.getElem_mem hjl))
                        obtain ⟨l, hl⟩ : ∃ l, cv.ls[j]'hjl = l := ⟨_, rfl⟩
                        rw [hl] at f0 f2 hpv S1
                        have HY : Hid (linB l = true → (cv.ls.take (j + 1)).all linB = true) := Lib.hid (fun q => lin_snoc cv.ls j hjl hall.out (by rw [hl]; exact q))
                        have HNO : Hid (linB l = false → false = r) := Lib.hid (fun q => HSC.out (by rw [← HCB.out, cmpB, lin_no cv.ls j hjl (by rw [hl]; exact q)]; simp))
                        obtain ⟨Y0, hY0⟩ : ∃ X : ByteArray, ⟨l.nm.toArray⟩ = X := ⟨_, rfl⟩
                        obtain ⟨Y2, hY2⟩ : ∃ X : ByteArray, ⟨l.vl.toArray⟩ = X := ⟨_, rfl⟩
                        rw [hY0] at f0
                        rw [hY2] at f2
                        have W0 := Lib.hid hY0.symm
                        have W2 := Lib.hid hY2.symm
                        have a0 := (hb.cell (p := ⟨lb, lo + j * 3, none⟩) hlb).trans f0
                        have a1 := (hb.cell (p := ⟨lb, lo + j * 3 + 1, none⟩) hlb).trans f1
                        have a2 := (hb.cell (p := ⟨lb, lo + j * 3 + 2, none⟩) hlb).trans f2
                        have F0 := Lib.hid f0
                        have HP := Lib.hid (hpv.below hb)
                        have B2 := Lib.hid hb
                        obtain ⟨t1, ht1⟩ : ∃ x, lnB l = x := ⟨_, rfl⟩
                        obtain ⟨t2, ht2⟩ : ∃ x, smN l.nm bgL = x := ⟨_, rfl⟩
                        obtain ⟨t3, ht3⟩ : ∃ x, smN l.nm enL = x := ⟨_, rfl⟩
                        have T1 := Lib.hid ht1
                        have T2 := Lib.hid ht2
                        have T3 := Lib.hid ht3
                        clear f0 f1 f2 hpv hY0 hY2 hl hb hall hlc hAv ht1 ht2 ht3
                        go_wp2_with fail
                        refine (rli_v Y0 Y2 l (.slice pa pn pc) t1 _ W0.out W2.out HP.out S1.out T1).mono ?_
                        rintro e w3 ⟨rfl, k1⟩
                        have D3 := Lib.hid (D2.out.below k1)
                        have R3 : Hid (RowE w.heap.size w3 (.slice (some ⟨g, 0, none⟩) (z + 1) cp) (x :: K1)) := Lib.hid (RowI.below R2.out k1)
                        have B3 := Lib.hid (bstep B2.out k1)
                        clear k1 a0 a1 a2 y1 gz B2 D2 R2
                        cases t1 with
                        | false =>
                          have HF := Lib.hid (HNO.out (by rw [linB, T1.out]; simp))
                          go_wp2
                          go_ret
                          exact ⟨ret_b HF.out, B3.out⟩
                        | true =>
                          have g3 := D3.out.1
                          have z1 := (D3.out.2 1 _ rfl).1
                          have a0 := (B3.out.cell (p := ⟨lb, lo + j * 3, none⟩) hlb).trans F0.out
                          go_wp2_with fail
                          refine (ral_v Y0 l.nm bgL _ t2 _ W0.out rfl (by have := S1.out.1; omega) (by decide) T2).mono ?_
                          rintro e w4 ⟨rfl, k1⟩
                          have D4 := Lib.hid (D3.out.below k1)
                          have R4 : Hid (RowE w.heap.size w4 (.slice (some ⟨g, 0, none⟩) (z + 1) cp) (x :: K1)) := Lib.hid (RowI.below R3.out k1)
                          have B4 := Lib.hid (bstep B3.out k1)
                          clear k1 a0 z1 g3 B3 D3 R3
                          cases t2 with
                          | true =>
                            have HF := Lib.hid (HNO.out (by rw [linB, T2.out]; simp))
                            go_wp2
                            go_ret
                            exact ⟨ret_b HF.out, B4.out⟩
                          | false =>
                            have g4 := D4.out.1
                            have z1 := (D4.out.2 1 _ rfl).1
                            have a0 := (B4.out.cell (p := ⟨lb, lo + j * 3, none⟩) hlb).trans F0.out
                            go_wp2_with fail
                            refine (ral_v Y0 l.nm enL _ t3 _ W0.out rfl (by have := S1.out.1; omega) (by decide) T3).mono ?_
                            rintro e w5 ⟨rfl, k1⟩
                            have D5 := Lib.hid (D4.out.below k1)
                            have R5 : Hid (RowE w.heap.size w5 (.slice (some ⟨g, 0, none⟩) (z + 1) cp) (x :: K1)) := Lib.hid (RowI.below R4.out k1)
                            have B5 := Lib.hid (bstep B4.out k1)
                            clear k1 a0 z1 g4 B4 D4 R4
                            cases t3 with
                            | true =>
                              have HF := Lib.hid (HNO.out (by rw [linB, T3.out]; simp))
                              go_wp2
                              go_ret
                              exact ⟨ret_b HF.out, B5.out⟩
                            | false =>
                              have HYY := Lib.hid (HY.out (by rw [linB, T1.out, T2.out, T3.out]; rfl))
                              go_wp2
                              go_roundw
                              case rel => exact ⟨j + 1, by omega, by go_num, HYY, D5, R5, B5.out⟩
                              case measure => simp [intOf]; omega
                      · have HCT : cb = true := by
                          have h1 := hall.out
                          rw [List.take_of_length_le (by rw [HSN.out]; omega)] at h1
                          rw [← HCB.out, cmpB, HNB.out, h1]; rfl
                        have HGN := Lib.hid (HGY.out HCT)
                        have y2 := (D2.out.2 2 _ rfl).1
                        have hB := hb.size
                        have hes : (es (x :: K1)).length ≤ 100000000 := by rw [es_len, List.length_cons, HZ.out]; omega
                        have RI : RowI w.heap.size wr (.slice (some ⟨g, 0, none⟩) (z + 1) cp) (es (x :: K1)) := R2.out
                        clear hall HGY HSC
                        go_wp2_with (at_builtin; refine appI rfl _ _ rfl w.heap.size _ (es (x :: K1)) rfl RI ((k : Int) + 1 + o) rfl hes hB ?_)
                        intro w' g' cap r5 g5
                        have HB2 := Lib.hid (g5.below w.heap.size w (Nat.le_refl _) hb hb.size)
                        have HR5 : Hid (RowE w.heap.size w' (.slice (some ⟨g', 0, none⟩) ((z + 1) + 1) cap) ((((k : Nat) : Int), ((k : Nat) : Int) + 1 + o) :: (x :: K1))) := Lib.hid (by
                          unfold RowE
                          rw [es_cons]
                          rw [es_len, List.length_cons, HZ.out] at r5
                          exact r5)
                        clear r5 g5 hb
                        go_wp2
                        go_roundw
                        case rel => exact ⟨k + 1, _, _, z + 1 + 1, cap, by rw [es_len, List.length_cons, HZ.out], by go_num, by omega, by omega, Lib.hid (by rw [List.length_cons, List.length_cons, HZ.out]), HR5, HGN, Lib.hid ⟨fun e => by omega, fun _ _ => STK.out.cons (by omega) (by omega)⟩, HB2.out⟩
                        case measure => simp [intOf]; omega
theorem rtr_to (v : Value) (L : List CV) (r : Bool) (w : World) (hv : CmpsV w v L) (hn : L.length ≤ 1000000) (hL : ∀ c ∈ L, i64B c.own) (hsm : ∀ c ∈ L, smlC c) (hR : Hid (chkB L = r)) :
    Calls Try.prog 34 #[v] w fun e w' => e = .returned (.bool r) ∧ Below w.heap.size w w' := by
  have hR' := hR.out
  cases hLc : L with
  | nil =>
    rw [hLc] at hv hR'
    obtain ⟨A, c, rfl⟩ := hv.slice
    have hR' : false = r := hR'
    subst hR'
    exact rtr_0 A c w
  | cons x xs =>
    have hl : 0 < L.length := by rw [hLc]; simp
    obtain ⟨b, off, c, rfl, hb, hc⟩ := hv.form hl
    obtain ⟨sv, _, _, c2, _⟩ := hc 0 hl
    have e0 : (L[0]'hl) = x := by simp [hLc]
    rw [e0, Nat.zero_mul, Nat.add_zero] at c2
    have hlen : ((x :: xs).length : Int) = (xs.length : Int) + 1 := by simp
    rw [hLc, chkB] at hR'
    by_cases ho : x.own = (xs.length : Int)
    · rw [decide_eq_true ho, Bool.true_and] at hR'
      rw [← hLc] at hR'
      refine rtr_1 b off L.length c L r w (Lib.hid rfl) hl hn hb (by rw [c2, ho, hLc, hlen]; congr 2; omega) (Lib.hid hc) (Lib.hid hL) (Lib.hid hsm) (Lib.hid ?_) (Lib.hid hR')
      rw [hLc, hlen]
      show x.own = _
      omega
    · rw [decide_eq_false ho, Bool.false_and] at hR'
      subst hR'
      exact rtr_no b off L.length c x.own w hl hn c2 (by rw [hLc, hlen]; omega)
end Tre
end Go.Proofs.Ytdakpncfophjnaa
