/-
  TreeExact: whether any tree is right, its text, what any text says, any component's own are the reference's.
-/
import Derived.Test.YtdakpncfophjnaaTrTW
import Derived.Test.YtdakpncfophjnaaTrTT
import Derived.Test.YtdakpncfophjnaaTrPT
import Derived.Test.YtdakpncfophjnaaTrZ
import Derived.Test.YtdakpncfophjnaaBdX
namespace Go.Proofs.Ytdakpncfophjnaa
open Go.RowKit
namespace Tre
open Lin CutB Cel Ap
open Opn (TxtV)
set_option maxHeartbeats 3200000 in
set_option maxRecDepth 100000 in
theorem rkd_no (A : Option Addr) (n c : Nat) (at' : Int) (w : World) (_ : n ≤ 100000000) (hi : i64B at') (h : at' < 0 ∨ (n : Int) ≤ at') :
    Calls Try.prog 33 #[.slice A n c, .int .i64 at'] w (KdQ [] w) := by
  obtain ⟨h1, h2⟩ := hi
  by_cases h0 : at' < 0
  · clear h
    go_enter Try.func33, Try.ntmps33
    go_wp2
    go_ret
    exact kq_nil _ _ (Below.refl _ _)
  · have h3 : (n : Int) ≤ at' := by omega
    clear h
    go_enter Try.func33, Try.ntmps33
    go_wp2
    go_ret
    exact kq_nil _ _ (Below.refl _ _)
set_option maxHeartbeats 3200000 in
set_option maxRecDepth 100000 in
theorem rkd_bad (b off n c m : Nat) (o : Int) (w : World) (_ : n ≤ 100000000) (hm : m < n) (ho : i64B o) (hc : w.cell? ⟨b, off + m * 3 + 2, none⟩ = some (.int .i64 o)) (h : o < 0 ∨ (n : Int) - m - 1 < o) :
    Calls Try.prog 33 #[.slice (some ⟨b, off, none⟩) n c, .int .i64 (m : Int)] w (KdQ [] w) := by
  obtain ⟨h1, h2⟩ := ho
  by_cases h0 : o < 0
  · clear h
    go_enter Try.func33, Try.ntmps33
    go_wp2
    go_ret
    exact kq_nil _ _ (Below.refl _ _)
  · have h3 : (n : Int) - m - 1 < o := by omega
    clear h
    go_enter Try.func33, Try.ntmps33
    go_wp2
    go_ret
    exact kq_nil _ _ (Below.refl _ _)
set_option maxHeartbeats 12800000 in
set_option maxRecDepth 100000 in
theorem rkd_ok (b off n c m q : Nat) (L : List CV) (R : List Int) (w : World) (hnl : Hid (L.length = n)) (hn : n ≤ 100000000) (hm : m < n) (hq : q ≤ n - m - 1) (hbl : b < w.heap.size) (hc0 : w.cell? ⟨b, off + m * 3 + 2, none⟩ = some (.int .i64 (q : Int))) (hc : Hid (CmpC w b off L)) (hL : Hid (∀ c ∈ L, i64B c.own))
    (hR : Hid (kdG L ((m : Int) + 1 + q) (L.length + 1) ((m : Int) + 1) [] = R)) :
    Calls Try.prog 33 #[.slice (some ⟨b, off, none⟩) n c, .int .i64 (m : Int)] w (KdQ R w) := by
  obtain ⟨e, he⟩ : ∃ e : Nat, m + 1 + q = e := ⟨_, rfl⟩
  have hen : e ≤ n := by omega
  have HR : Hid (kdG L (e : Int) (n + 1) ((m + 1 : Nat) : Int) [] = R) := Lib.hid (by rw [← hR.out, hnl.out, ← he]; simp)
  have x1 : ¬ (q : Int) < 0 := by omega
  have x2 : ¬ (n : Int) - m - 1 < (q : Int) := by omega
  go_enter Try.func33, Try.ntmps33
  go_wp2_with fail
  rw [show ((m : Int) + 1 + (q : Int)) = (e : Int) by omega]
  go_loopw [5, 7] (fun sv iv wr => ∃ (k f : Nat) (acc : List Int) (A : Option Addr) (cp : Nat), sv = .slice A acc.length cp ∧ iv = .int .i64 k ∧ k ≤ e ∧ acc.length ≤ k ∧ e < k + f ∧ Hid (kdG L (e : Int) f (k : Int) acc = R) ∧ Hid (RowI w.heap.size wr (.slice A acc.length cp) acc) ∧ Below w.heap.size w wr) (fun _ iv _ => e - (intOf iv).toNat)
  case atStart => exact ⟨m + 1, n + 1, [], none, 0, rfl, rfl, by omega, by simp, by omega, HR, Lib.hid (RowI.nil _ _), Below.refl _ _⟩
  case round =>
    obtain ⟨k, f, acc, A, cp, rfl, rfl, hk, hacc, hf, hG, hrow, hb⟩ := hrel
    obtain ⟨f, rfl⟩ : ∃ g, f = g + 1 := ⟨f - 1, by omega⟩
    obtain ⟨al, hal⟩ : ∃ x, acc.length = x := ⟨_, rfl⟩
    have HAL := Lib.hid hal
    rw [hal] at hrow hacc ⊢
    by_cases hlt : k < e
    · have hkl : k < L.length := by rw [hnl.out]; omega
      obtain ⟨sv, _, _, d2, _⟩ := hc.out k hkl
      obtain ⟨o, ho⟩ : ∃ o, (L[k]'hkl).own = o := ⟨_, rfl⟩
      obtain ⟨o1, o2⟩ := hL.out _ (List.getElem_mem hkl)
      rw [ho] at d2 o1 o2
      have y2 := (hb.cell (p := ⟨b, off + k * 3 + 2, none⟩) hbl).trans d2
      have hG' := hG.out
      rw [kd_step, if_pos (by omega), own_nat L k hkl, ho] at hG'
      have HG := Lib.hid hG'
      clear hG' hal d2 ho
      by_cases h0 : o < 0
      · have HE : Hid (([] : List Int) = R) := Lib.hid (by rw [← HG.out, if_pos (Or.inl h0)])
        go_wp2
        go_ret
        rw [← HE.out]
        exact kq_nil _ _ hb
      · by_cases h3 : (e : Int) - k - 1 < o
        · have HE : Hid (([] : List Int) = R) := Lib.hid (by rw [← HG.out, if_pos (Or.inr h3)])
          go_wp2
          go_ret
          rw [← HE.out]
          exact kq_nil _ _ hb
        · obtain ⟨p, hp⟩ : ∃ p : Nat, o = (p : Int) := ⟨o.toNat, by omega⟩
          subst hp
          have HE : Hid (kdG L (e : Int) f ((k + 1 + p : Nat) : Int) (acc ++ [(k : Int)]) = R) := Lib.hid (by
            rw [← HG.out, if_neg (by omega)]
            congr 1)
          have hB := hb.size
          clear hG HG
          go_wp2_with (at_builtin; refine appI rfl _ _ rfl w.heap.size _ acc rfl hrow.out (k : Int) rfl (by rw [HAL.out]; omega) hB ?_)
          intro w' g cap r5 g5
          have HB := Lib.hid (g5.below w.heap.size w (Nat.le_refl _) hb hb.size)
          have HW := Lib.hid r5
          rw [HAL.out] at HW ⊢
          have y3 := (HB.out.cell (p := ⟨b, off + k * 3 + 2, none⟩) hbl).trans ((hb.cell (p := ⟨b, off + k * 3 + 2, none⟩) hbl).symm.trans y2)
          have e1 : (acc ++ [(k : Int)]).length = al + 1 := by rw [List.length_append, HAL.out]; rfl
          have E1 := Lib.hid e1
          clear r5 g5 hb y2 hrow e1
          go_wp2
          go_roundw
          case rel => exact ⟨k + 1 + p, f, acc ++ [(k : Int)], _, cap, by rw [E1.out], by go_num, by omega, by rw [E1.out]; omega, by omega, HE, by rw [E1.out]; exact HW, HB.out⟩
          case measure => simp [intOf]; omega
    · have HE : Hid (acc = R) := Lib.hid (by
        have h1 := hG.out
        rw [kd_step, if_neg (by omega)] at h1
        exact h1)
      go_wp2
      go_ret
      refine ⟨_, rfl, ?_, hb⟩
      rw [← HE.out]
      exact hrow.out
theorem rkd_to (v : Value) (L : List CV) (at' : Int) (R : List Int) (w : World) (hv : CmpsV w v L) (hn : L.length ≤ 100000000) (hi : i64B at') (hL : ∀ c ∈ L, i64B c.own) (hR : Hid (kids L at' = R)) :
    Calls Try.prog 33 #[v, .int .i64 at'] w (KdQ R w) := by
  have hR' := hR.out
  by_cases h : at' < 0 ∨ (L.length : Int) ≤ at'
  · obtain ⟨A, c, rfl⟩ := hv.slice
    have : kdR L at' = false := decide_eq_false (by omega)
    rw [kids, this, if_neg (by decide)] at hR'
    subst hR'
    exact rkd_no A _ c at' w hn hi h
  · obtain ⟨m, rfl⟩ : ∃ m : Nat, at' = (m : Int) := ⟨at'.toNat, by omega⟩
    have hm : m < L.length := by omega
    obtain ⟨b, off, c, rfl, hb, hc⟩ := hv.form (by omega)
    obtain ⟨sv, _, _, c2, _⟩ := hc m hm
    have hown := own_nat L m hm
    have hb2 := hL _ (List.getElem_mem hm)
    obtain ⟨o, ho⟩ : ∃ o, (L[m]'hm).own = o := ⟨_, rfl⟩
    rw [ho] at c2 hown hb2
    by_cases h2 : o < 0 ∨ (L.length : Int) - m - 1 < o
    · have : kdR L (m : Int) = false := decide_eq_false (by rw [hown]; omega)
      rw [kids, this, if_neg (by decide)] at hR'
      subst hR'
      exact rkd_bad b off _ c m o w hn hm hb2 c2 h2
    · obtain ⟨q, rfl⟩ : ∃ q : Nat, o = (q : Int) := ⟨o.toNat, by omega⟩
      have : kdR L (m : Int) = true := decide_eq_true (by rw [hown]; omega)
      rw [kids, this, if_pos rfl, hown] at hR'
      exact rkd_ok b off _ c m q L R w (Lib.hid rfl) hn hm (by omega) hb c2 (Lib.hid hc) (Lib.hid hL) (Lib.hid hR')
set_option maxHeartbeats 3200000 in
set_option maxRecDepth 100000 in
theorem kin_n (A A2 : Option Addr) (n c c2 : Nat) (R : List Int) (w : World) (hnl : Hid (R.length = n)) (hn : n ≤ 100000000) (h1 : Hid (0 < R.length → ∃ g, A = some ⟨g, 0, none⟩ ∧ ∀ (j : Nat) (h : j < R.length), w.cell? ⟨g, j, none⟩ = some (.int .i64 R[j]))) (h2 : Hid (0 < R.length → ∃ g, A2 = some ⟨g, 0, none⟩ ∧ ∀ (j : Nat) (h : j < R.length), w.cell? ⟨g, j, none⟩ = some (.int .i64 R[j]))) :
    Calls Try.prog 31 #[.slice A n c, .slice A2 n c2] w fun e w' => e = .returned (.bool true) ∧ Below w.heap.size w w' := by
  have hne : ((n : Int) != (n : Int)) = false := by simp
  go_enter Try.func31, Try.ntmps31
  go_wp2_with fail
  go_loopw [5] (fun i wr => ∃ k : Nat, k ≤ n ∧ i = .int .i64 k ∧ ∃ m, wr = w.drewN m) (fun i _ => n - (intOf i).toNat)
  case atStart => exact ⟨0, by omega, rfl, 0, rfl⟩
  case round =>
    obtain ⟨k, hk, rfl, m, rfl⟩ := hrel
    by_cases hlt : k < n
    · have hkl : k < R.length := by rw [hnl.out]; exact hlt
      obtain ⟨g1, hA1, q1⟩ := h1.out (by omega)
      obtain ⟨g2, hA2, q2⟩ := h2.out (by omega)
      subst hA1 hA2
      have p1 := q1 k hkl
      have p2 := q2 k hkl
      obtain ⟨x, hx⟩ : ∃ x, R[k]'hkl = x := ⟨_, rfl⟩
      rw [hx] at p1 p2
      have hxx : (x != x) = false := by simp
      clear q1 q2 hx
      go_wp2_with fail
      go_quiet (fail)
      go_wp2
      go_roundw
      case rel => exact ⟨k + 1, by omega, by go_num, m + nq, by first | rfl | rw [World.drewN_drewN]⟩
      case measure => simp [intOf]; omega
    · go_wp2
      go_ret
      exact ⟨rfl, below_drewN (Below.refl _ _) _⟩
theorem kin_t (v u : Value) (R : List Int) (B B' : Nat) (w : World) (h1 : RowI B w v R) (h2 : RowI B' w u R) (hn : R.length ≤ 100000000) :
    Calls Try.prog 31 #[v, u] w fun e w' => e = .returned (.bool true) ∧ Below w.heap.size w w' := by
  obtain ⟨A, c, rfl⟩ := h1.forms
  obtain ⟨A2, c2, rfl⟩ := h2.forms
  refine kin_n A A2 _ c c2 R w (Lib.hid rfl) hn (Lib.hid (fun h => ?_)) (Lib.hid (fun h => ?_))
  · obtain ⟨g, _, e, _, _, q, _⟩ := h1.form h
    injection e with e
    exact ⟨g, e, q⟩
  · obtain ⟨g, _, e, _, _, q, _⟩ := h2.form h
    injection e with e
    exact ⟨g, e, q⟩
theorem kdG_len (L : List CV) (bh : Int) : ∀ (f : Nat) (i : Int) (acc : List Int), (kdG L bh f i acc).length ≤ acc.length + f
  | 0, _, _ => by simp [kdG]
  | f + 1, i, acc => by
    rw [kd_step]
    split
    · split
      · simp
      · have := kdG_len L bh f (i + 1 + ownAt L i) (acc ++ [i])
        rw [List.length_append] at this
        simp at this
        omega
    · omega
theorem kids_len (L : List CV) (i : Int) : (kids L i).length ≤ L.length + 1 := by
  rw [kids]
  split
  · have := kdG_len L (i + 1 + ownAt L i) (L.length + 1) (i + 1) []
    simpa using this
  · simp
theorem pTr_sml {S : List UInt8} (hS : S.length ≤ 3000) {P : List CV} {x : Int} (h : pTr S = (P, x)) : P.length ≤ 1000000 ∧ ∀ c ∈ P, smlC c := by
  rcases pTr_cases S with ⟨e, h1, _⟩ | ⟨xs, L, h1, _⟩
  · rw [h1] at h
    injection h with h _
    subst h
    exact ⟨by simp, by simp⟩
  · rw [h1] at h
    injection h with h _
    subst h
    obtain ⟨_, a2, _, a4, _⟩ := reads_all hS h1
    exact ⟨a2, a4⟩
set_option maxHeartbeats 51200000 in
set_option maxRecDepth 100000 in
theorem tex_1 (v : Value) (L : List CV) (s : ByteArray) (S : List UInt8) (a : Int) (w : World) (hv : CmpsV w v L) (bL : BdT L) (hsz : s.size ≤ maxLen) (hS : Hid (s.data.toList = S)) (ha : i64B a) :
    Calls Try.prog 7 #[v, .string s, .int .i64 a] w fun e w' => e = .returned (.bool true) ∧ Below w.heap.size w w' := by
  unfold maxLen at hsz
  have HV := Lib.hid hv
  have BL := Lib.hid bL
  have HA := Lib.hid ha
  obtain ⟨vA, vc, hvx⟩ := hv.slice
  subst hvx
  obtain ⟨n, hn⟩ : ∃ n, L.length = n := ⟨_, rfl⟩
  have HN := Lib.hid hn
  rw [hn] at HV ⊢
  clear hv bL ha hn
  go_enter Try.func7, Try.ntmps7
  go_wp2_with fail
  refine (thv_to _ L _ HV.out BL.out).mono ?_
  rintro e w1 ⟨b1, rfl, q1, k1⟩
  have V1 := Lib.hid (HV.out.below k1)
  have B1 := Lib.hid k1
  clear k1 HV
  cases b1 with
  | true =>
    go_wp2
    go_ret
    exact ⟨rfl, B1.out⟩
  | false =>
    by_cases h3 : 3000 < s.size
    · clear q1
      go_wp2
      go_ret
      exact ⟨rfl, B1.out⟩
    · have l1 := (q1.out (by trivial)).1
      have N1 := Lib.hid (q1.out (by trivial)).2
      have S1 := Lib.hid (fun c hc => light_c (N1.out c hc))
      have W1 := Lib.hid (fun c hc l hl => light_w ((N1.out c hc).2.2 l hl))
      have O1 := Lib.hid (fun c hc => (BL.out.2 c hc).2.2.1)
      have L1 := Lib.hid l1
      rw [HN.out] at l1
      have hs3 : s.size ≤ 3000 := by omega
      obtain ⟨⟨T1, x1⟩, h1⟩ : ∃ r, txT L = r := ⟨_, rfl⟩
      have H1 := Lib.hid h1
      obtain ⟨⟨P, xp⟩, hp⟩ : ∃ r, pTr S = r := ⟨_, rfl⟩
      have HP := Lib.hid hp
      have HQ : Hid (rpT S = (P, xp)) := Lib.hid (by rw [← pt_same]; exact hp)
      obtain ⟨hP1, hP2⟩ := pTr_sml (by rw [← hS.out]; simpa using hs3) hp
      have HP1 := Lib.hid hP1
      have HP2 := Lib.hid hP2
      obtain ⟨R, hR⟩ : ∃ R, kids L a = R := ⟨_, rfl⟩
      have HR := Lib.hid hR
      have HRL : Hid (R.length ≤ 100000000) := Lib.hid (by rw [← hR]; have := kids_len L a; have := L1.out; omega)
      obtain ⟨tb, htb⟩ : ∃ b, chkB L = b := ⟨_, rfl⟩
      have HC := Lib.hid htb
      have hxp : (xp != xp) = false := by simp
      clear q1 h1 hp hP1 hP2 hR htb h3 BL
      go_wp2_with fail
      refine (tcm_to _ L _ V1.out L1.out N1.out).mono ?_
      rintro e w2 ⟨u, rfl, hu, k1⟩
      obtain ⟨uA, uc, hux⟩ := hu.cmps.slice
      subst hux
      have U2 := Lib.hid hu.cmps
      have V2 := Lib.hid (V1.out.below k1)
      have B2 := Lib.hid (bstep B1.out k1)
      clear k1 hu V1 B1
      rw [HN.out] at U2 ⊢
      go_wp2_with fail
      refine (tx_to _ L (T1, x1) _ U2.out (by rw [HN.out]; omega) O1.out S1.out W1.out H1).mono ?_
      rintro e w3 ⟨rfl, k1⟩
      have U3 := Lib.hid (U2.out.below k1)
      have V3 := Lib.hid (V2.out.below k1)
      have B3 := Lib.hid (bstep B2.out k1)
      clear k1 U2 V2 B2
      go_wp2_with fail
      refine (pa_to s S (P, xp) _ (by omega) hS.out HP).mono ?_
      rintro e w4 ⟨A4, n4, c4, rfl, hq4, k1⟩
      have Q4 : Hid (CmpsV w4 (.slice A4 n4 c4) P) := hq4
      have U4 := Lib.hid (U3.out.below k1)
      have V4 := Lib.hid (V3.out.below k1)
      have B4 := Lib.hid (bstep B3.out k1)
      clear k1 U3 V3 B3 hq4
      go_wp2_with fail
      refine (rpt_to s S (P, xp) _ hs3 hS.out HQ).mono ?_
      rintro e w5 ⟨A5, n5, c5, rfl, hq5, k1⟩
      have R5 : Hid (CmpsV w5 (.slice A5 n5 c5) P) := hq5
      have Q5 := Lib.hid (Q4.out.below k1)
      have U5 := Lib.hid (U4.out.below k1)
      have V5 := Lib.hid (V4.out.below k1)
      have B5 := Lib.hid (bstep B4.out k1)
      clear k1 U4 V4 B4 Q4 hq5
      go_wp2_with fail
      refine (kcm_t _ _ P _ Q5.out R5.out HP1.out HP2.out).mono ?_
      rintro e w6 ⟨rfl, k1⟩
      have U6 := Lib.hid (U5.out.below k1)
      have V6 := Lib.hid (V5.out.below k1)
      have B6 := Lib.hid (bstep B5.out k1)
      clear k1 U5 V5 B5 Q5 R5
      go_wp2_with fail
      refine (kd_to _ L a R _ U6.out (by rw [HN.out]; omega) HA.out O1.out HR).mono ?_
      rintro e w7 ⟨kv, rfl, hk, k1⟩
      obtain ⟨kA, kc, hkv⟩ := hk.forms
      subst hkv
      have K7 := Lib.hid hk
      have U7 := Lib.hid (U6.out.below k1)
      have V7 := Lib.hid (V6.out.below k1)
      have B7 := Lib.hid (bstep B6.out k1)
      clear k1 U6 V6 B6 hk
      go_wp2_with fail
      refine (rkd_to _ L a R _ V7.out (by rw [HN.out]; omega) HA.out O1.out HR).mono ?_
      rintro e w8 ⟨kv, rfl, hk, k1⟩
      obtain ⟨kA2, kc2, hkv⟩ := hk.forms
      subst hkv
      have J8 := Lib.hid hk
      have K8 := Lib.hid (RowI.below K7.out k1)
      have U8 := Lib.hid (U7.out.below k1)
      have V8 := Lib.hid (V7.out.below k1)
      have B8 := Lib.hid (bstep B7.out k1)
      clear k1 U7 V7 B7 hk K7
      go_wp2_with fail
      refine (kin_t _ _ R _ _ _ K8.out J8.out HRL.out).mono ?_
      rintro e w9 ⟨rfl, k1⟩
      have U9 := Lib.hid (U8.out.below k1)
      have V9 := Lib.hid (V8.out.below k1)
      have B9 := Lib.hid (bstep B8.out k1)
      clear k1 U8 V8 B8 K8 J8
      go_wp2_with fail
      refine (kcm_t _ _ L _ U9.out V9.out (by rw [HN.out]; omega) S1.out).mono ?_
      rintro e w10 ⟨rfl, k1⟩
      have U10 := Lib.hid (U9.out.below k1)
      have V10 := Lib.hid (V9.out.below k1)
      have B10 := Lib.hid (bstep B9.out k1)
      clear k1 U9 V9 B9
      go_wp2_with fail
      refine (rtr_to _ L tb _ V10.out (by rw [HN.out]; omega) O1.out S1.out HC).mono ?_
      rintro e w11 ⟨rfl, k1⟩
      have U11 := Lib.hid (U10.out.below k1)
      have V11 := Lib.hid (V10.out.below k1)
      have B11 := Lib.hid (bstep B10.out k1)
      clear k1 U10 V10 B10
      cases tb with
      | false =>
        have hT : ([], (20 : Int)) = (T1, x1) := by rw [← H1.out, txT, HC.out]; rfl
        injection hT with e1 e2
        subst e1 e2
        go_wp2_with fail
        refine (ck_to _ L false _ U11.out (by rw [HN.out]; omega) O1.out S1.out HC).mono ?_
        rintro e w12 ⟨rfl, k1⟩
        have B12 := Lib.hid (bstep B11.out k1)
        clear k1 U11 V11 B11
        go_wp2_with fail
        refine (wakes19_any _).mono ?_
        rintro e w13 ⟨rfl, k1⟩
        go_wp2
        go_ret
        exact ⟨rfl, bstep B12.out k1⟩
      | true =>
        have HX : Hid (rtT L = (T1, x1)) := Lib.hid (by rw [← tx_same HC.out]; exact H1.out)
        obtain ⟨X1, hX1⟩ : ∃ X : ByteArray, ⟨T1.toArray⟩ = X := ⟨_, rfl⟩
        have HX1 := Lib.hid hX1
        have hxx : (x1 == x1) = true := by simp
        go_wp2_with fail
        refine (rtt_to _ L (T1, x1) _ V11.out L1.out N1.out HC.out HX).mono ?_
        rintro e w12 ⟨rfl, k1⟩
        simp only [hX1]
        have U12 := Lib.hid (U11.out.below k1)
        have B12 := Lib.hid (bstep B11.out k1)
        clear k1 U11 V11 B11 hX1
        go_wp2_with fail
        refine (ck_to _ L true _ U12.out (by rw [HN.out]; omega) O1.out S1.out HC).mono ?_
        rintro e w13 ⟨rfl, k1⟩
        have B13 := Lib.hid (bstep B12.out k1)
        clear k1 U12 B12
        go_wp2_with fail
        refine (wakes19_any _).mono ?_
        rintro e w14 ⟨rfl, k1⟩
        go_wp2
        go_ret
        exact ⟨rfl, bstep B13.out k1⟩
end Tre
end Go.Proofs.Ytdakpncfophjnaa
