/-
  The reference's ParseTree of whatever text. (Written by gen/gen_trpt.py.)
-/
import Derived.Test.YtdakpncfophjnaaTrOA
import Derived.Test.YtdakpncfophjnaaTrF
import Derived.Test.YtdakpncfophjnaaTrR
import Derived.Test.YtdakpncfophjnaaBdAK
namespace Go.Proofs.Ytdakpncfophjnaa
open Go.RowKit
namespace Tre
open Lin CutB Cel Ap
open Opn (TxtV)
def rbO : Option (List CV) → List CV × Int
  | none => ([], 20)
  | some C => (C, 0)
def rlO : Option (List LV) → List CV × Int
  | none => ([], 18)
  | some xs => rbO (rbG xs [] [])
theorem rpt_eq (S : List UInt8) : rpT S = if Fld.okCR S = true then rlO (lnsG (Fld.unfS S) []) else ([], 18) := by
  rw [rpT]
  split
  · cases lnsG (Fld.unfS S) [] with
    | none => rfl
    | some xs =>
      show rbR xs = rbO _
      rw [rbR]
      cases rbG xs [] [] <;> rfl
  · rfl
theorem rpl_at (s : ByteArray) (S : List UInt8) (r : Bool × LV) (w : World) (hs : s.size ≤ 90000) (hS : s.data.toList = S) (h : Hid (Lin.rlR S = r)) :
    Calls Try.prog 17 #[.string s] w (PlQ r w) := by
  rw [← h.out]
  exact rpl_to s S w hs (Lib.hid hS)
set_option maxHeartbeats 3200000 in
set_option maxRecDepth 100000 in
theorem rpt_no (s : ByteArray) (S : List UInt8) (w : World) (hs : s.size ≤ 3000) (hS : Hid (s.data.toList = S)) (h : Hid (Fld.unfR S = ([], 18))) :
    Calls Try.prog 29 #[.string s] w (PaQ ([], 18) w) := by
  go_enter Try.func29, Try.ntmps29
  go_wp2_with fail
  refine (Fld.runf_any s S [] 18 _ (by omega) hS h).mono ?_
  rintro e w1 ⟨v, rfl, hv, k1⟩
  obtain ⟨A, c, hvx⟩ := hv.slice
  subst hvx
  have K1 := Lib.hid k1
  clear hv k1
  go_wp2
  go_ret2
  exact pq_no _ _ 18 _ rfl K1.out
set_option maxHeartbeats 51200000 in
set_option maxRecDepth 100000 in
theorem rpt_ok (s : ByteArray) (S : List UInt8) (T : List (List UInt8)) (n : Nat) (r : List CV × Int) (w : World) (hs : s.size ≤ 3000) (hS : Hid (s.data.toList = S)) (hU : Hid (Fld.unfR S = (T, 0))) (hn : Hid (T.length = n)) (hn6 : n ≤ 3001) (hT : Hid (∀ t ∈ T, t.length ≤ 3000)) (hr : Hid (rlO (lnsG T []) = r)) :
    Calls Try.prog 29 #[.string s] w (PaQ r w) := by
  go_enter Try.func29, Try.ntmps29
  go_wp2_with fail
  refine (Fld.runf_any s S T 0 _ (by omega) hS hU).mono ?_
  rintro e w1 ⟨v, rfl, hv, k1⟩
  obtain ⟨A, c, hvx⟩ := hv.slice
  subst hvx
  rw [hn.out] at hv ⊢
  have HV := Lib.hid hv
  have K1 := Lib.hid k1
  clear hv k1
  go_wp2_with fail
  go_loopw [6, 7] (fun av iv wr => ∃ (k : Nat) (acc : List LV) (aA : Option Addr) (ac : Nat), av = .slice aA k ac ∧ iv = .int .i64 k ∧ k ≤ n ∧ Hid (acc.length = k) ∧ Hid (rlO (lnsG (T.drop k) acc) = r) ∧ Hid (∀ l ∈ acc, smlL l) ∧ Hid (LinO w1.heap.size wr (.slice aA k ac) acc) ∧ Below w1.heap.size w1 wr) (fun _ iv _ => n - (intOf iv).toNat)
  case atStart => exact ⟨0, [], none, 0, rfl, rfl, Nat.zero_le _, Lib.hid rfl, hr, Lib.hid (by simp), Lib.hid (LinO.nil _ _), Below.refl _ _⟩
  case round =>
    obtain ⟨k, acc, aA, ac, rfl, rfl, hk, hacc, hG, hsm, hM, hB⟩ := hrel
    obtain ⟨W, rfl⟩ : ∃ W : World, W = wr := ⟨_, rfl⟩
    by_cases hlt : k < n
    · have hkT : k < T.length := by rw [hn.out]; exact hlt
      obtain ⟨b, off, c', hAv, hbl, hcell⟩ := HV.out.form (by omega)
      have hA : A = some ⟨b, off, none⟩ := by injection hAv
      subst hA
      have d0 := (hB.cell (p := ⟨b, off + k, none⟩) hbl).trans (hcell k hkT)
      have ht6 := hT.out _ (List.getElem_mem hkT)
      have hG' := hG.out
      rw [lns_drop hkT] at hG'
      obtain ⟨t, ht⟩ : ∃ t, T[k]'hkT = t := ⟨_, rfl⟩
      rw [ht] at d0 ht6 hG'
      obtain ⟨X, hX⟩ : ∃ X : ByteArray, ⟨t.toArray⟩ = X := ⟨_, rfl⟩
      have hXs : X.size = t.length := by rw [← hX]; rfl
      have HXT : Hid (X.data.toList = t) := Lib.hid (by rw [← hX])
      rw [hX] at d0
      have hX9 : X.size ≤ 90000 := by omega
      have HB := Lib.hid hB
      have sB := hB.size
      clear hcell hAv ht hB hX
      cases hx : lnX t with
      | none =>
        have HP : Hid (Lin.rlR t = (false, LV.zero)) := Lib.hid (by rw [Lin.rlR, hx])
        rw [hx] at hG'
        have HR : Hid (([], 18) = r) := Lib.hid hG'
        clear hx hG' hXs
        go_wp2_with fail
        refine (rpl_at X t (false, LV.zero) _ hX9 HXT.out HP).mono ?_
        rintro e w3 ⟨pv, rfl, hq, k3⟩
        obtain ⟨pa, pc, hpv⟩ := hq.out.2.2.2.form
        subst hpv
        have B3 := Lib.hid (HB.out.trans (k3.mono sB))
        clear hq k3
        go_wp2
        go_ret2
        exact pq_no _ _ 18 _ HR.out (bstep K1.out (by repeat (first | with_reducible exact B3.out | with_reducible refine Below.alloc ?_ (by have := B3.out.size; simp; omega) _ | with_reducible refine Below.setCell ?_ (by have := B3.out.size; simp; omega) _)))
      | some l =>
        have HP : Hid (Lin.rlR t = (true, l)) := Lib.hid (by rw [Lin.rlR, hx])
        have HOK := Lib.hid (lnB_nm (lnX_ok hx))
        have hlw := lnX_len hx
        rw [lw_eq] at hlw
        have HVL : Hid (l.vl.length ≤ 1000000) := Lib.hid (by omega)
        rw [hx] at hG'
        have HG2 := Lib.hid hG'
        clear hx hG' hXs hlw
        go_wp2_with fail
        refine (rpl_at X t (true, l) _ hX9 HXT.out HP).mono ?_
        rintro e w3 ⟨pv, rfl, hq, k3⟩
        obtain ⟨pa, pc, hpv⟩ := hq.out.2.2.2.form
        subst hpv
        have HM3 := Lib.hid (hM.out.below k3)
        have B3 := Lib.hid (HB.out.trans (k3.mono sB))
        have PP := Lib.hid (parLow sB hq.out.2.2.2)
        have HSM : Hid (∀ x ∈ acc ++ [l], smlL x) := Lib.hid (fun x hx => by
          rcases List.mem_append.1 hx with h | h
          · exact hsm.out x h
          · rw [List.mem_singleton.1 h]
            exact ⟨by have := HOK.out; omega, HVL.out, hq.out.2.1, hq.out.2.2.1⟩)
        obtain ⟨pn, hpn⟩ : ∃ x, l.ps.length = x := ⟨_, rfl⟩
        obtain ⟨a, ha⟩ : ∃ x : ByteArray, ⟨l.nm.toArray⟩ = x := ⟨_, rfl⟩
        obtain ⟨a2, ha2⟩ : ∃ x : ByteArray, ⟨l.vl.toArray⟩ = x := ⟨_, rfl⟩
        simp only at PP ⊢
        rw [hpn] at PP
        rw [hpn, ha, ha2]
        have HA1 : Hid (Value.string a = .string ⟨l.nm.toArray⟩) := Lib.hid (by rw [ha])
        have HA2 : Hid (Value.string a2 = .string ⟨l.vl.toArray⟩) := Lib.hid (by rw [ha2])
        have HM4 := Lib.hid (HM3.out.below ((Below.refl w3.heap.size w3).alloc (Nat.le_refl _) (Obj.cells #[.string a, .slice pa pn pc, .string a2] 24)))
        have PP4 := Lib.hid (PP.out.alloc (Obj.cells #[.string a, .slice pa pn pc, .string a2] 24))
        have s4 : w1.heap.size ≤ (w3.alloc (Obj.cells #[.string a, .slice pa pn pc, .string a2] 24)).heap.size := by have := B3.out.size; simp; omega
        have B4 := Lib.hid (B3.out.alloc B3.out.size (Obj.cells #[.string a, .slice pa pn pc, .string a2] 24))
        have HZ4 : Hid (w3.heap.size + 1 = (w3.alloc (Obj.cells #[.string a, .slice pa pn pc, .string a2] 24)).heap.size) := Lib.hid (by simp)
        clear hq k3 hpn ha ha2
        go_wp2_with (at_builtin; refine appLO rfl _ _ rfl w1.heap.size _ acc rfl HM4.out l _ _ _ HA1.out HA2.out PP4.out (by exact congrArg (fun z => Value.slice (some ⟨z, 0, none⟩) 1 1) HZ4.out) (by rw [hacc.out]; omega) s4 ?_)
        intro w6 g6 c6 r6 gr6
        have HM6 : Hid (LinO w1.heap.size w6 (.slice (some ⟨g6, 0, none⟩) (k + 1) c6) (acc ++ [l])) := Lib.hid (by have h := r6; rw [hacc.out] at h; exact h)
        have B6 := Lib.hid (gr6.below w1.heap.size w1 (Nat.le_refl _) B4.out s4)
        rw [hacc.out]
        clear r6 gr6
        go_wp2
        go_roundw
        case rel => exact ⟨k + 1, acc ++ [l], some ⟨g6, 0, none⟩, c6, by first | rfl | go_num, by go_num, by omega, Lib.hid (by rw [List.length_append, hacc.out]; rfl), HG2, HSM, HM6, B6.out⟩
        case measure => simp [intOf]; omega
    · have hkn' : T.drop k = [] := List.drop_of_length_le (by rw [hn.out]; omega)
      obtain ⟨o, ho⟩ : ∃ o, rbG acc [] [] = o := ⟨_, rfl⟩
      have HO0 := Lib.hid ho
      have HRO : Hid (rbO o = r) := Lib.hid (by
        have h := hG.out
        rw [hkn', lnsG] at h
        rw [← ho]
        exact h)
      have BW := Lib.hid (bstep K1.out hB)
      have HVL := Lib.hid hM.out.lins
      have HNL := hacc
      have hn30 : k ≤ 3001 := by omega
      clear hkn' ho hG hB hacc
      go_wp2_with fail
      go_loopw [10, 11, 12] (fun lv sv iv wr => ∃ (k' : Nat) (C : List CV) (K : List Nat) (A : Option Addr) (cn cp : Nat) (A2 : Option Addr) (kn cp2 : Nat), lv = .slice A cn cp ∧ sv = .slice A2 kn cp2 ∧ iv = .int .i64 k' ∧ k' ≤ k ∧ cn ≤ k' ∧ kn ≤ k' ∧ Hid (rbG (acc.drop k') C K = o) ∧ Hid (BdS W C K A cn cp A2 kn cp2 wr) ∧ Hid (∀ c ∈ C, c.nm.length ≤ 1000000) ∧ Hid (∀ c ∈ C, c.ls.length ≤ k')) (fun _ _ iv _ => k - (intOf iv).toNat)
      case atStart => exact ⟨0, [], [], none, 0, 0, none, 0, 0, rfl, rfl, rfl, by omega, by omega, by omega, HO0, Lib.hid ⟨rfl, rfl, by simp, CmpR.nil _ _ _, RowI.nil _ _, Below.refl _ _⟩, Lib.hid (by simp), Lib.hid (by simp)⟩
      case round =>
        obtain ⟨k', C, K, A', cn, cp, A2, kn, cp2, rfl, rfl, rfl, hk', hcnk, hknk, hG, hS, HNS, HLS⟩ := hrel
        obtain ⟨wo, rfl⟩ : ∃ wo : World, wo = wr := ⟨_, rfl⟩
        clear HO0
        by_cases hlt : k' < k
        · have hkl : k' < acc.length := by rw [HNL.out]; exact hlt
          obtain ⟨bl, off2, cl0, hAv, hbl, hlc⟩ := HVL.out.form (by omega)
          have hA : aA = some ⟨bl, off2, none⟩ := by injection hAv
          subst hA
          obtain ⟨sv, e0, e1, e2, hpv⟩ := hlc k' hkl
          obtain ⟨pa, pn, pc, hsv, hpn, _⟩ := id hpv
          subst hsv
          have hG' := hG.out
          rw [List.drop_eq_getElem_cons hkl, rb_cons] at hG'
          have HSM := Lib.hid (hsm.out _ (List.getElem_mem hkl))
          obtain ⟨l, hl⟩ : ∃ l, acc[k']'hkl = l := ⟨_, rfl⟩
          rw [hl] at e0 e2 hpv hpn hG' HSM
          obtain ⟨X0, hX0⟩ : ∃ X : ByteArray, ⟨l.nm.toArray⟩ = X := ⟨_, rfl⟩
          obtain ⟨X2, hX2⟩ : ∃ X : ByteArray, ⟨l.vl.toArray⟩ = X := ⟨_, rfl⟩
          rw [hX0] at e0
          rw [hX2] at e2
          have H0 := Lib.hid hX0.symm
          have H2 := Lib.hid hX2.symm
          have HPV := Lib.hid hpv
          have HPN := Lib.hid hpn
          have hBo := hS.out.2.2.2.2.2
          have f0 := (hBo.cell (p := ⟨bl, off2 + k' * 3, none⟩) hbl).trans e0
          have f1 := (hBo.cell (p := ⟨bl, off2 + k' * 3 + 1, none⟩) hbl).trans e1
          have f2 := (hBo.cell (p := ⟨bl, off2 + k' * 3 + 2, none⟩) hbl).trans e2
          have HNSV : Hid (∀ c ∈ C ++ [(⟨l.vl, [], 0⟩ : CV)], c.nm.length ≤ 1000000) := Lib.hid (fun c hc => by
            rcases List.mem_append.1 hc with h | h
            · exact HNS.out c h
            · rw [List.mem_singleton.1 h]; exact HSM.out.2.1)
          have HLSV : Hid (∀ c ∈ C ++ [(⟨l.vl, [], 0⟩ : CV)], c.ls.length ≤ k' + 1) := Lib.hid (fun c hc => by
            rcases List.mem_append.1 hc with h | h
            · have := HLS.out c h; omega
            · rw [List.mem_singleton.1 h]; simp)
          have HNSO : ∀ (k0 : Nat) (m : Int), Hid (∀ c ∈ C.modify k0 (setO m), c.nm.length ≤ 1000000) := fun k0 m => Lib.hid (mod_all C k0 (setO m) (fun c => c.nm.length ≤ 1000000) HNS.out (fun c h => h))
          have HLSO : ∀ (k0 : Nat) (m : Int), Hid (∀ c ∈ C.modify k0 (setO m), c.ls.length ≤ k' + 1) := fun k0 m => Lib.hid (mod_all C k0 (setO m) (fun c => c.ls.length ≤ k' + 1) (fun c hc => by have := HLS.out c hc; omega) (fun c h => h))
          have HNSL : ∀ (k0 : Nat), Hid (∀ c ∈ C.modify k0 (addL l), c.nm.length ≤ 1000000) := fun k0 => Lib.hid (mod_all C k0 (addL l) (fun c => c.nm.length ≤ 1000000) HNS.out (fun c h => h))
          have HLSL : ∀ (k0 : Nat), Hid (∀ c ∈ C.modify k0 (addL l), c.ls.length ≤ k' + 1) := fun k0 => Lib.hid (mod_all2 C k0 (addL l) (fun c => c.ls.length ≤ k') (fun c => c.ls.length ≤ k' + 1) HLS.out (fun c h => by omega) (fun c h => by show (c.ls ++ [l]).length ≤ _; rw [List.length_append]; simp only [List.length_cons, List.length_nil]; omega))
          obtain ⟨nb, hnb⟩ : ∃ x, nmB l.vl = x := ⟨_, rfl⟩
          have HNB := Lib.hid hnb
          rw [hnb] at hG'
          clear e0 e1 e2 hpv hX0 hX2 hl hlc hAv hBo hpn hnb
          cases h1 : smN l.nm bgL with
          | true =>
            have h2 := be_no l.nm h1
            have N1 := Lib.hid h1
            have N2 := Lib.hid h2
            rw [h1, h2, if_pos rfl] at hG'
            clear h1 h2
            go_upto_region 18 with fail
            have hbW : Below wo.heap.size wo (wo.alloc (Obj.cells #[.string X0, .slice pa pn pc, .string X2] 24)) := (Below.refl _ _).alloc (Nat.le_refl _) _
            have D0 := Lib.hid (Cs.new wo [.string X0, .slice pa pn pc, .string X2] 24)
            obtain ⟨Wx, hWx⟩ : ∃ x, wo.alloc (Obj.cells #[.string X0, .slice pa pn pc, .string X2] 24) = x := ⟨_, rfl⟩
            have HLW : Hid ((wo.alloc (Obj.cells #[.string X0, .slice pa pn pc, .string X2] 24)).heap[wo.heap.size]? = some (.cells #[.string X0, .slice pa pn pc, .string X2] 24 (0, 0))) := Lib.hid (heap_alloc_new wo _)
            rw [hWx] at hbW D0 HLW ⊢
            have z0 := (D0.out.2 0 _ rfl).1
            have cz0 := cell_regrown z0
            have d1 := Lib.hid (fun dd os => Calls.regrown_of (ral_v X0 l.nm bgL ⟨#[66, 69, 71, 73, 78]⟩ true (Sort.grow (redrawn Wx dd) os) H0.out rfl (by have := HSM.out.1; omega) (by decide) N1))
            have d2 := Lib.hid (fun dd os => Calls.regrown_of (ral_v X0 l.nm enL ⟨#[69, 78, 68]⟩ false (Sort.grow (redrawn Wx dd) os) H0.out rfl (by have := HSM.out.1; omega) (by decide) N2))
            clear hWx
            refine wp_region_quiet_below (by kernel_rfl) (by kernel_rfl) ?_
            repeat (quiet_step (first | with_reducible exact d1.out _ _ | with_reducible exact d2.out _ _))
            refine wpQuiet_nil ?_
            intro w' hw'
            obtain ⟨⟨dq, osq⟩, rfl⟩ := hw'
            have hz := bstep hbW (below_regrown Wx dq osq)
            have D1 := Lib.hid (D0.out.below (below_regrown Wx dq osq))
            obtain ⟨wq, hwq⟩ : ∃ x, Sort.grow (redrawn Wx dq) osq = x := ⟨_, rfl⟩
            have HLB : Hid (∃ cur, wq.heap[wo.heap.size]? = some (.cells cur 24 (0, 0))) := Lib.hid ⟨_, by rw [← hwq, (below_regrown Wx dq osq).block wo.heap.size (D0.out.1)]; exact HLW.out⟩
            rw [hwq] at hz D1 ⊢
            have ST := Lib.hid (hS.out.below hz)
            have gq := D1.out.1
            have y0 := (D1.out.2 0 _ rfl).1
            have y1 := (D1.out.2 1 _ rfl).1
            have y2 := (D1.out.2 2 _ rfl).1
            have HZ := Lib.hid hz
            clear hwq hbW D0 z0 cz0 d1 d2 hz HLW
            by_cases hp : pn = 0
            · subst hp
              have hps : l.ps = [] := List.eq_nil_of_length_eq_zero HPN.out.symm
              go_wp2_with fail
              refine (rnm_v X2 l.vl nb _ H2.out HSM.out.2.1 HNB).mono ?_
              rintro e w9 ⟨rfl, hw9⟩
              subst hw9
              cases nb with
              | false =>
                have HR : Hid (none = o) := Lib.hid (by
                  rw [if_pos ⟨rfl, Or.inr rfl⟩] at hG'
                  exact hG')
                clear hG' hps
                go_wp2
                go_ret2
                exact pq_no _ _ 20 _ (by rw [← HRO.out, ← HR.out]; rfl) (bstep BW.out ST.out.2.2.2.2.2)
              | true =>
                rw [if_neg (by rintro ⟨_, e | e⟩; exact e hps; cases e)] at hG'
                by_cases hkz : kn = 0
                · subst hkz
                  have hKe : K = [] := List.eq_nil_of_length_eq_zero ST.out.2.1
                  by_cases hcz : cn = 0
                  · subst hcz
                    have hCe : C = [] := List.eq_nil_of_length_eq_zero ST.out.1
                    rw [if_neg (by rw [hCe, hKe]; simp)] at hG'
                    have HG2 := Lib.hid hG'
                    clear hG' hps hKe hCe
                    have hcl := ST.out.1
                    have hkl2 := ST.out.2.1
                    have HCL := Lib.hid hcl
                    have HKL := Lib.hid hkl2
                    have sB := ST.out.2.2.2.2.2.size
                    clear hcl hkl2
                    go_wp2_with (at_builtin; refine appI rfl _ _ rfl W.heap.size _ (KI K) rfl ST.out.2.2.2.2.1 0 rfl (by rw [KI_len, HKL.out]; omega) sB ?_)
                    intro w5 g5 c5 r5 gr5
                    have CR5 := Lib.hid (ST.out.2.2.2.1.grewI gr5 ST.out.2.2.2.2.1)
                    have B5 := Lib.hid (gr5.below _ _ (Nat.le_refl _) ST.out.2.2.2.2.2 sB)
                    have RI5 : Hid (RowI W.heap.size w5 (.slice (some ⟨g5, 0, none⟩) (0 + 1) c5) (KI (C.length :: K))) := Lib.hid (by
                      have h := r5
                      rw [KI_len, HKL.out] at h
                      rw [KI_cons, HCL.out]
                      exact h)
                    rw [KI_len, HKL.out]
                    have D5 : Hid (Cs wo.heap.size w5 [.string X0, .slice pa 0 pc, .string X2]) := Lib.hid ⟨Nat.lt_of_lt_of_le gq gr5.size, fun i v hv => by
                      have hne : some wo.heap.size ≠ (Value.slice A2 0 cp2).ownBlock := by
                        intro e
                        have hob := (show (Value.slice A2 0 cp2).ownBlock ≠ some wo.heap.size from fun e2 => by
                          obtain ⟨cur, hcur⟩ : ∃ cur, wq.heap[wo.heap.size]? = some (.cells cur 24 (0, 0)) := HLB.out
                          exact own_far' ST.out.2.2.2.2.1 hcur (by decide) e2)
                        exact hob e.symm
                      exact ⟨(gr5.cell (p := ⟨wo.heap.size, i, none⟩) gq hne).trans (D1.out.2 i v hv).1, (gr5.frozen (p := ⟨wo.heap.size, i, none⟩) gq hne).trans (D1.out.2 i v hv).2⟩⟩
                    have g5q := D5.out.1
                    have x2 := (D5.out.2 2 _ rfl).1
                    have sB5 := B5.out.size
                    clear r5 gr5 y0 y1 y2
                    go_wp2_with (at_builtin; refine appC rfl _ _ rfl W.heap.size W _ C rfl CR5.out l.vl X2 H2.out rfl (by rw [HCL.out]; omega) sB5 ?_)
                    intro w6 g6 c6 r6 gr6
                    have RI6 := Lib.hid (RI5.out.grewC gr6 CR5.out)
                    have B6 := Lib.hid (gr6.below _ _ (Nat.le_refl _) B5.out sB5)
                    have CR6 := Lib.hid r6
                    rw [HCL.out] at CR6 ⊢
                    clear r6 gr6
                    have HS6 : Hid (BdS W (C ++ [⟨l.vl, [], 0⟩]) (C.length :: K) (some ⟨g6, 0, none⟩) (0 + 1) c6 (some ⟨g5, 0, none⟩) (0 + 1) c5 w6) := Lib.hid ⟨by rw [List.length_append, HCL.out]; rfl, by rw [List.length_cons, HKL.out], fun x hx => by
                      rcases List.mem_cons.1 hx with rfl | hx
                      · rw [HCL.out]; omega
                      · have := ST.out.2.2.1 x hx; omega, CR6.out, RI6.out, B6.out⟩
                    go_wp2
                    go_roundw
                    case rel => exact ⟨k' + 1, C ++ [⟨l.vl, [], 0⟩], C.length :: K, some ⟨g6, 0, none⟩, 0 + 1, c6, some ⟨g5, 0, none⟩, 0 + 1, c5, by first | rfl | go_num, by first | rfl | go_num, by go_num, by omega, by omega, by omega, HG2, HS6, HNSV, HLSV⟩
                    case measure => simp [intOf]; omega
                  · have HR : Hid (none = o) := Lib.hid (by
                      rw [if_pos (Or.inl ⟨hKe, fun e => hcz (by rw [← ST.out.1, e]; rfl)⟩)] at hG'
                      exact hG')
                    have hcp : 0 < cn := by omega
                    clear hG' hps hKe
                    go_wp2
                    go_ret2
                    exact pq_no _ _ 20 _ (by rw [← HRO.out, ← HR.out]; rfl) (bstep BW.out ST.out.2.2.2.2.2)
                · have hkp0 : ((kn : Int) == 0) = false := beq_eq_false_iff_ne.2 (by omega)
                  by_cases hk8 : 8 ≤ kn
                  · have HR : Hid (none = o) := Lib.hid (by
                      rw [if_pos (Or.inr (by rw [ST.out.2.1]; exact hk8))] at hG'
                      exact hG')
                    clear hG' hps
                    go_wp2
                    go_ret2
                    exact pq_no _ _ 20 _ (by rw [← HRO.out, ← HR.out]; rfl) (bstep BW.out ST.out.2.2.2.2.2)
                  · rw [if_neg (by
                      rintro (e | e)
                      · exact hkz (by rw [← ST.out.2.1, e.1]; rfl)
                      · rw [ST.out.2.1] at e; exact hk8 e)] at hG'
                    have HG2 := Lib.hid hG'
                    clear hG' hps
                    have hcl := ST.out.1
                    have hkl2 := ST.out.2.1
                    have HCL := Lib.hid hcl
                    have HKL := Lib.hid hkl2
                    have sB := ST.out.2.2.2.2.2.size
                    clear hcl hkl2
                    go_wp2_with (at_builtin; refine appI rfl _ _ rfl W.heap.size _ (KI K) rfl ST.out.2.2.2.2.1 (cn : Int) rfl (by rw [KI_len, HKL.out]; omega) sB ?_)
                    intro w5 g5 c5 r5 gr5
                    have CR5 := Lib.hid (ST.out.2.2.2.1.grewI gr5 ST.out.2.2.2.2.1)
                    have B5 := Lib.hid (gr5.below _ _ (Nat.le_refl _) ST.out.2.2.2.2.2 sB)
                    have RI5 : Hid (RowI W.heap.size w5 (.slice (some ⟨g5, 0, none⟩) (kn + 1) c5) (KI (C.length :: K))) := Lib.hid (by
                      have h := r5
                      rw [KI_len, HKL.out] at h
                      rw [KI_cons, HCL.out]
                      exact h)
                    rw [KI_len, HKL.out]
                    have D5 : Hid (Cs wo.heap.size w5 [.string X0, .slice pa 0 pc, .string X2]) := Lib.hid ⟨Nat.lt_of_lt_of_le gq gr5.size, fun i v hv => by
                      have hne : some wo.heap.size ≠ (Value.slice A2 kn cp2).ownBlock := by
                        intro e
                        have hob := (show (Value.slice A2 kn cp2).ownBlock ≠ some wo.heap.size from fun e2 => by
                          obtain ⟨cur, hcur⟩ : ∃ cur, wq.heap[wo.heap.size]? = some (.cells cur 24 (0, 0)) := HLB.out
                          exact own_far' ST.out.2.2.2.2.1 hcur (by decide) e2)
                        exact hob e.symm
                      exact ⟨(gr5.cell (p := ⟨wo.heap.size, i, none⟩) gq hne).trans (D1.out.2 i v hv).1, (gr5.frozen (p := ⟨wo.heap.size, i, none⟩) gq hne).trans (D1.out.2 i v hv).2⟩⟩
                    have g5q := D5.out.1
                    have x2 := (D5.out.2 2 _ rfl).1
                    have sB5 := B5.out.size
                    clear r5 gr5 y0 y1 y2
                    go_wp2_with (at_builtin; refine appC rfl _ _ rfl W.heap.size W _ C rfl CR5.out l.vl X2 H2.out rfl (by rw [HCL.out]; omega) sB5 ?_)
                    intro w6 g6 c6 r6 gr6
                    have RI6 := Lib.hid (RI5.out.grewC gr6 CR5.out)
                    have B6 := Lib.hid (gr6.below _ _ (Nat.le_refl _) B5.out sB5)
                    have CR6 := Lib.hid r6
                    rw [HCL.out] at CR6 ⊢
                    clear r6 gr6
                    have HS6 : Hid (BdS W (C ++ [⟨l.vl, [], 0⟩]) (C.length :: K) (some ⟨g6, 0, none⟩) (cn + 1) c6 (some ⟨g5, 0, none⟩) (kn + 1) c5 w6) := Lib.hid ⟨by rw [List.length_append, HCL.out]; rfl, by rw [List.length_cons, HKL.out], fun x hx => by
                      rcases List.mem_cons.1 hx with rfl | hx
                      · rw [HCL.out]; omega
                      · have := ST.out.2.2.1 x hx; omega, CR6.out, RI6.out, B6.out⟩
                    go_wp2
                    go_roundw
                    case rel => exact ⟨k' + 1, C ++ [⟨l.vl, [], 0⟩], C.length :: K, some ⟨g6, 0, none⟩, cn + 1, c6, some ⟨g5, 0, none⟩, kn + 1, c5, by first | rfl | go_num, by first | rfl | go_num, by go_num, by omega, by omega, by omega, HG2, HS6, HNSV, HLSV⟩
                    case measure => simp [intOf]; omega
            · have HR : Hid (none = o) := Lib.hid (by
                rw [if_pos ⟨rfl, Or.inl (fun e => hp (by rw [HPN.out, e]; rfl))⟩] at hG'
                exact hG')
              have hpp : 0 < pn := by omega
              clear hG'
              go_wp2
              go_ret2
              exact pq_no _ _ 20 _ (by rw [← HRO.out, ← HR.out]; rfl) (bstep BW.out ST.out.2.2.2.2.2)
          | false =>
            cases h2 : smN l.nm enL with
            | true =>
              have N1 := Lib.hid h1
              have N2 := Lib.hid h2
              rw [h1, h2, if_neg (show ¬ (false = true) by decide)] at hG'
              clear h1 h2
              go_upto_region 18 with fail
              have hbW : Below wo.heap.size wo (wo.alloc (Obj.cells #[.string X0, .slice pa pn pc, .string X2] 24)) := (Below.refl _ _).alloc (Nat.le_refl _) _
              have D0 := Lib.hid (Cs.new wo [.string X0, .slice pa pn pc, .string X2] 24)
              obtain ⟨Wx, hWx⟩ : ∃ x, wo.alloc (Obj.cells #[.string X0, .slice pa pn pc, .string X2] 24) = x := ⟨_, rfl⟩
              have HLW : Hid ((wo.alloc (Obj.cells #[.string X0, .slice pa pn pc, .string X2] 24)).heap[wo.heap.size]? = some (.cells #[.string X0, .slice pa pn pc, .string X2] 24 (0, 0))) := Lib.hid (heap_alloc_new wo _)
              rw [hWx] at hbW D0 HLW ⊢
              have z0 := (D0.out.2 0 _ rfl).1
              have cz0 := cell_regrown z0
              have d1 := Lib.hid (fun dd os => Calls.regrown_of (ral_v X0 l.nm bgL ⟨#[66, 69, 71, 73, 78]⟩ false (Sort.grow (redrawn Wx dd) os) H0.out rfl (by have := HSM.out.1; omega) (by decide) N1))
              have d2 := Lib.hid (fun dd os => Calls.regrown_of (ral_v X0 l.nm enL ⟨#[69, 78, 68]⟩ true (Sort.grow (redrawn Wx dd) os) H0.out rfl (by have := HSM.out.1; omega) (by decide) N2))
              clear hWx
              refine wp_region_quiet_below (by kernel_rfl) (by kernel_rfl) ?_
              repeat (quiet_step (first | with_reducible exact d1.out _ _ | with_reducible exact d2.out _ _))
              refine wpQuiet_nil ?_
              intro w' hw'
              obtain ⟨⟨dq, osq⟩, rfl⟩ := hw'
              have hz := bstep hbW (below_regrown Wx dq osq)
              have D1 := Lib.hid (D0.out.below (below_regrown Wx dq osq))
              obtain ⟨wq, hwq⟩ : ∃ x, Sort.grow (redrawn Wx dq) osq = x := ⟨_, rfl⟩
              have HLB : Hid (∃ cur, wq.heap[wo.heap.size]? = some (.cells cur 24 (0, 0))) := Lib.hid ⟨_, by rw [← hwq, (below_regrown Wx dq osq).block wo.heap.size (D0.out.1)]; exact HLW.out⟩
              rw [hwq] at hz D1 ⊢
              have ST := Lib.hid (hS.out.below hz)
              have gq := D1.out.1
              have y0 := (D1.out.2 0 _ rfl).1
              have y1 := (D1.out.2 1 _ rfl).1
              have y2 := (D1.out.2 2 _ rfl).1
              have HZ := Lib.hid hz
              clear hwq hbW D0 z0 cz0 d1 d2 hz HLW
              by_cases hp : pn = 0
              · subst hp
                have hps : l.ps = [] := List.eq_nil_of_length_eq_zero HPN.out.symm
                go_wp2_with fail
                refine (rnm_v X2 l.vl nb _ H2.out HSM.out.2.1 HNB).mono ?_
                rintro e w9 ⟨rfl, hw9⟩
                subst hw9
                cases nb with
                | false =>
                  have HR : Hid (none = o) := Lib.hid (by
                    rw [if_pos ⟨rfl, Or.inr rfl⟩] at hG'
                    exact hG')
                  clear hG' hps
                  go_wp2
                  go_ret2
                  exact pq_no _ _ 20 _ (by rw [← HRO.out, ← HR.out]; rfl) (bstep BW.out ST.out.2.2.2.2.2)
                | true =>
                  rw [if_neg (by rintro ⟨_, e | e⟩; exact e hps; cases e)] at hG'
                  by_cases hkz : kn = 0
                  · subst hkz
                    have hKe : K = [] := List.eq_nil_of_length_eq_zero ST.out.2.1
                    have HR : Hid (none = o) := Lib.hid (by rw [hKe] at hG'; exact hG')
                    clear hG' hps hKe
                    go_wp2
                    go_ret2
                    exact pq_no _ _ 20 _ (by rw [← HRO.out, ← HR.out]; rfl) (bstep BW.out ST.out.2.2.2.2.2)
                  · have hkp0 : ((kn : Int) == 0) = false := beq_eq_false_iff_ne.2 (by omega)
                    have HG := Lib.hid hG'
                    clear hG' hps
                    obtain ⟨k0, K', rfl⟩ : ∃ k0 K', K = k0 :: K' := by
                      cases K with
                      | nil => exact absurd ST.out.2.1.symm (by simp; omega)
                      | cons a b => exact ⟨a, b, rfl⟩
                    obtain ⟨kp, hkp⟩ : ∃ x, K'.length = x := ⟨_, rfl⟩
                    have HKP := Lib.hid hkp
                    have hkn1 : kn = kp + 1 := by rw [← ST.out.2.1, ← hkp]; rfl
                    subst hkn1
                    have hk0 : k0 < cn := ST.out.2.2.1 k0 (by simp)
                    have hk0C : k0 < C.length := by rw [ST.out.1]; exact hk0
                    obtain ⟨gI, cI, hvI, hgI, tI⟩ := ST.out.2.2.2.2.1.topK
                    rw [hkp] at hvI tI
                    injection hvI with eI _ _
                    subst eI
                    obtain ⟨gC, cC, la, ln, lcp, hvC, hBC, hgC, n0, n1, n2, nf, hlin⟩ := ST.out.2.2.2.1.at hk0C
                    rw [ST.out.1] at hvC
                    injection hvC with eC _ _
                    subst eC
                    have nf0 := nf (k0 * 3 + 1)
                    have nf2 := nf (k0 * 3 + 2)
                    have HLIN := Lib.hid hlin
                    obtain ⟨cm, hcm⟩ : ∃ c, C[k0]'hk0C = c := ⟨_, rfl⟩
                    have HCM := Lib.hid hcm
                    have HNM : Hid (nmAt C (k0 : Int) = cm.nm) := Lib.hid (by rw [nmAt_k C k0 hk0C, hcm])
                    rw [hcm] at n0 n2 HLIN
                    clear hkp nf hlin hcm
                    obtain ⟨Z0, hZ0⟩ : ∃ X : ByteArray, ⟨cm.nm.toArray⟩ = X := ⟨_, rfl⟩
                    rw [hZ0] at n0
                    have HZN := Lib.hid hZ0.symm
                    obtain ⟨b3, hb3⟩ : ∃ x, smN cm.nm l.vl = x := ⟨_, rfl⟩
                    have N3 := Lib.hid hb3
                    have HCNM : Hid (cm.nm.length ≤ 1000000) := Lib.hid (by rw [← HCM.out]; exact HNS.out _ (List.getElem_mem hk0C))
                    clear hZ0 hb3
                    go_wp2_with fail
                    go_upto_region 32 with fail
                    have cy2 := cell_regrown y2
                    have cn0 := cell_regrown n0
                    have d3 := Lib.hid (fun dd os => Calls.regrown_of (ral_v Z0 cm.nm l.vl X2 b3 (Sort.grow (redrawn wq dd) os) HZN.out H2.out HCNM.out HSM.out.2.1 N3))
                    refine wp_region_quiet_below (by kernel_rfl) (by kernel_rfl) ?_
                    repeat (quiet_step (first | with_reducible exact d3.out _ _))
                    refine wpQuiet_nil ?_
                    intro w' hw'
                    obtain ⟨⟨dr, osr⟩, rfl⟩ := hw'
                    have hz2 := below_regrown wq dr osr
                    obtain ⟨ws, hws⟩ : ∃ x, Sort.grow (redrawn wq dr) osr = x := ⟨_, rfl⟩
                    rw [hws] at hz2 ⊢
                    have ST2 := Lib.hid (ST.out.below hz2)
                    have tI2 := (hz2.cell (p := ⟨gI, _, none⟩) hgI).trans tI
                    have n22 := (hz2.cell (p := ⟨gC, _, none⟩) hgC).trans n2
                    have nf22 := (hz2.frozen (p := ⟨gC, _, none⟩) hgC).trans nf2
                    clear hws cy2 cn0 d3 y0 y1 y2 n0 n1 n2 nf0 nf2 tI hz2
                    cases b3 with
                    | false =>
                      have HR : Hid (none = o) := Lib.hid (by rw [← HG.out, HNM.out, N3.out]; rfl)
                      go_wp2
                      go_ret2
                      exact pq_no _ _ 20 _ (by rw [← HRO.out, ← HR.out]; rfl) (bstep BW.out ST2.out.2.2.2.2.2)
                    | true =>
                      have HG2 : Hid (rbG (acc.drop (k' + 1)) (C.modify k0 (setO ((cn : Int) - k0 - 1))) K' = o) := Lib.hid (by rw [← HG.out, HNM.out, N3.out, ST.out.1]; rfl)
                      have hcap : kp + 1 ≤ cp2 := (own_cap ST2.out.2.2.2.2.1).2.1
                      have HSO : Hid (BdS W (C.modify k0 (setO ((cn : Int) - k0 - 1))) K' (some ⟨gC, 0, none⟩) cn cp (some ⟨gI, 0, none⟩) kp cp2 (ws.setCell ⟨gC, k0 * 3 + 2, none⟩ (.int .i64 ((cn : Int) - k0 - 1)))) := Lib.hid (by
                        obtain ⟨s1, s2, s3, s4, s5, s6⟩ := ST2.out
                        refine ⟨by rw [List.length_modify]; exact s1, HKP.out, fun x hx => s3 x (by simp [hx]), ?_, ?_, s6.setCell (p := ⟨gC, k0 * 3 + 2, none⟩) hBC _⟩
                        · have h := CmpR.setOwn (c := cp) k0 ((cn : Int) - k0 - 1) (by rw [s1]; exact s4)
                          rw [List.length_modify, s1] at h
                          exact h
                        · have h := s5
                          rw [KI_cons, ← HKP.out] at h
                          rw [← KI_len] at h
                          have h2 := h.pop
                          rw [KI_len, HKP.out] at h2
                          exact h2.setC s4)
                      have w1 : IntKind.i64.wrap ((cn : Int) - (k0 : Int) - 1) = (cn : Int) - (k0 : Int) - 1 := by rw [IntKind.wrap_i64]; omega
                      have w2 : IntKind.i64.wrap ((cn : Int) - (k0 : Int)) = (cn : Int) - (k0 : Int) := by rw [IntKind.wrap_i64]; omega
                      have hcap2 : kp ≤ cp2 := by omega
                      clear HG
                      go_wp2
                      go_roundw
                      case rel => exact ⟨k' + 1, _, K', some ⟨gC, 0, none⟩, cn, cp, some ⟨gI, 0, none⟩, kp, cp2, by first | rfl | go_num, by first | rfl | go_num, by go_num, by omega, by omega, by omega, HG2, HSO, HNSO _ _, HLSO _ _⟩
                      case measure => simp [intOf]; omega
              · have HR : Hid (none = o) := Lib.hid (by
                  rw [if_pos ⟨rfl, Or.inl (fun e => hp (by rw [HPN.out, e]; rfl))⟩] at hG'
                  exact hG')
                have hpp : 0 < pn := by omega
                clear hG'
                go_wp2
                go_ret2
                exact pq_no _ _ 20 _ (by rw [← HRO.out, ← HR.out]; rfl) (bstep BW.out ST.out.2.2.2.2.2)
            | false =>
              have N1 := Lib.hid h1
              have N2 := Lib.hid h2
              rw [h1, h2, if_neg (by simp), if_neg (show ¬ (false = true) by decide)] at hG'
              clear h1 h2
              go_upto_region 18 with fail
              have hbW : Below wo.heap.size wo (wo.alloc (Obj.cells #[.string X0, .slice pa pn pc, .string X2] 24)) := (Below.refl _ _).alloc (Nat.le_refl _) _
              have D0 := Lib.hid (Cs.new wo [.string X0, .slice pa pn pc, .string X2] 24)
              obtain ⟨Wx, hWx⟩ : ∃ x, wo.alloc (Obj.cells #[.string X0, .slice pa pn pc, .string X2] 24) = x := ⟨_, rfl⟩
              have HLW : Hid ((wo.alloc (Obj.cells #[.string X0, .slice pa pn pc, .string X2] 24)).heap[wo.heap.size]? = some (.cells #[.string X0, .slice pa pn pc, .string X2] 24 (0, 0))) := Lib.hid (heap_alloc_new wo _)
              rw [hWx] at hbW D0 HLW ⊢
              have z0 := (D0.out.2 0 _ rfl).1
              have cz0 := cell_regrown z0
              have d1 := Lib.hid (fun dd os => Calls.regrown_of (ral_v X0 l.nm bgL ⟨#[66, 69, 71, 73, 78]⟩ false (Sort.grow (redrawn Wx dd) os) H0.out rfl (by have := HSM.out.1; omega) (by decide) N1))
              have d2 := Lib.hid (fun dd os => Calls.regrown_of (ral_v X0 l.nm enL ⟨#[69, 78, 68]⟩ false (Sort.grow (redrawn Wx dd) os) H0.out rfl (by have := HSM.out.1; omega) (by decide) N2))
              clear hWx
              refine wp_region_quiet_below (by kernel_rfl) (by kernel_rfl) ?_
              repeat (quiet_step (first | with_reducible exact d1.out _ _ | with_reducible exact d2.out _ _))
              refine wpQuiet_nil ?_
              intro w' hw'
              obtain ⟨⟨dq, osq⟩, rfl⟩ := hw'
              have hz := bstep hbW (below_regrown Wx dq osq)
              have D1 := Lib.hid (D0.out.below (below_regrown Wx dq osq))
              obtain ⟨wq, hwq⟩ : ∃ x, Sort.grow (redrawn Wx dq) osq = x := ⟨_, rfl⟩
              have HLB : Hid (∃ cur, wq.heap[wo.heap.size]? = some (.cells cur 24 (0, 0))) := Lib.hid ⟨_, by rw [← hwq, (below_regrown Wx dq osq).block wo.heap.size (D0.out.1)]; exact HLW.out⟩
              rw [hwq] at hz D1 ⊢
              have ST := Lib.hid (hS.out.below hz)
              have gq := D1.out.1
              have y0 := (D1.out.2 0 _ rfl).1
              have y1 := (D1.out.2 1 _ rfl).1
              have y2 := (D1.out.2 2 _ rfl).1
              have HZ := Lib.hid hz
              clear hwq hbW D0 z0 cz0 d1 d2 hz HLW
              by_cases hkz : kn = 0
              · subst hkz
                have hKe : K = [] := List.eq_nil_of_length_eq_zero ST.out.2.1
                have HR : Hid (none = o) := Lib.hid (by rw [hKe] at hG'; exact hG')
                clear hG' hKe
                go_wp2
                go_ret2
                exact pq_no _ _ 20 _ (by rw [← HRO.out, ← HR.out]; rfl) (bstep BW.out ST.out.2.2.2.2.2)
              · have hkp0 : ((kn : Int) == 0) = false := beq_eq_false_iff_ne.2 (by omega)
                have HG := Lib.hid hG'
                clear hG'
                obtain ⟨k0, K', rfl⟩ : ∃ k0 K', K = k0 :: K' := by
                  cases K with
                  | nil => exact absurd ST.out.2.1.symm (by simp; omega)
                  | cons a b => exact ⟨a, b, rfl⟩
                obtain ⟨kp, hkp⟩ : ∃ x, K'.length = x := ⟨_, rfl⟩
                have HKP := Lib.hid hkp
                have hkn1 : kn = kp + 1 := by rw [← ST.out.2.1, ← hkp]; rfl
                subst hkn1
                have hk0 : k0 < cn := ST.out.2.2.1 k0 (by simp)
                have hk0C : k0 < C.length := by rw [ST.out.1]; exact hk0
                obtain ⟨gI, cI, hvI, hgI, tI⟩ := ST.out.2.2.2.2.1.topK
                rw [hkp] at hvI tI
                injection hvI with eI _ _
                subst eI
                obtain ⟨gC, cC, la, ln, lcp, hvC, hBC, hgC, n0, n1, n2, nf, hlin⟩ := ST.out.2.2.2.1.at hk0C
                rw [ST.out.1] at hvC
                injection hvC with eC _ _
                subst eC
                have nf0 := nf (k0 * 3 + 1)
                have nf2 := nf (k0 * 3 + 2)
                have HLIN := Lib.hid hlin
                obtain ⟨cm, hcm⟩ : ∃ c, C[k0]'hk0C = c := ⟨_, rfl⟩
                have HCM := Lib.hid hcm
                have HNM : Hid (nmAt C (k0 : Int) = cm.nm) := Lib.hid (by rw [nmAt_k C k0 hk0C, hcm])
                rw [hcm] at n0 n2 HLIN
                clear hkp nf hlin hcm
                have HG2 : Hid (rbG (acc.drop (k' + 1)) (C.modify k0 (addL l)) (k0 :: K') = o) := Lib.hid (by rw [← HG.out]; rfl)
                obtain ⟨cl, hcl⟩ : ∃ x, cm.ls.length = x := ⟨_, rfl⟩
                have HCLS := Lib.hid hcl
                have hlnc : ln = cl := by
                  obtain ⟨_, _, e⟩ := HLIN.out.forms
                  injection e with _ e _
                  rw [e, hcl]
                subst hlnc
                have HLN0 : Hid (LinR W.heap.size W wq.drew (.slice la ln lcp) cm.ls) := Lib.hid (HLIN.out.below (Below.refl _ _).drew)
                have HLN1 : Hid (cm.ls.length ≤ 100000000) := Lib.hid (by
                  have := HLS.out _ (List.getElem_mem hk0C)
                  rw [HCM.out] at this
                  omega)
                have sBq : W.heap.size ≤ wq.drew.heap.size := ST.out.2.2.2.2.2.size
                have HX0 : Hid (Value.string X0 = .string ⟨l.nm.toArray⟩) := Lib.hid (by rw [H0.out])
                have HX2 : Hid (Value.string X2 = .string ⟨l.vl.toArray⟩) := Lib.hid (by rw [H2.out])
                clear hcl
                go_wp2_with fail
                go_upto_region 20 with fail
                have SZ : Hid (Cs wo.heap.size wq.drew [.string X0, .slice pa pn pc, .string X2] ∧ wq.drew.cell? ⟨gC, k0 * 3 + 1, none⟩ = some (.slice la ln lcp)) := Lib.hid ⟨D1.out.below (Below.refl _ _).drew, n1⟩
                refine Hr.Walk.region (R := fun up x => up.getD 12 false = false → Cs wo.heap.size x [.string X0, .slice pa pn pc, .string X2] ∧ x.cell? ⟨gC, k0 * 3 + 1, none⟩ = some (.slice la ln lcp)) (by kernel_rfl) ?_
                refine Hr.Walk.take (i := 0) (v := ?v0) (fun x => Cs wo.heap.size x [.string X0, .slice pa pn pc, .string X2] ∧ x.cell? ⟨gC, k0 * 3 + 1, none⟩ = some (.slice la ln lcp)) (fun up => up.getD 12 false = false) rfl (by kernel_rfl) (by kernel_rfl) (by kernel_rfl) (fun _ _ _ h => h) (Hr.keepI (s := 12) rfl (by kernel_rfl)) (fun _ _ hu hr => hr hu) (fun up y => Hr.keepR (s := 12) (i := 0) (S := fun x => Cs wo.heap.size x [.string X0, .slice pa pn pc, .string X2] ∧ x.cell? ⟨gC, k0 * 3 + 1, none⟩ = some (.slice la ln lcp)) (by decide) up y) rfl (Or.inl ⟨by rfl, ?hy0⟩) SZ.out (fun _ => SZ.out) ?rest0
                case hy0 => intro x hx; have f0 := (hx.1.2 0 _ rfl).1; have f1 := (hx.1.2 1 _ rfl).1; have f2 := (hx.1.2 2 _ rfl).1; have f3 := hx.2; clear hx; go_simp; try with_reducible rfl
                refine Hr.Walk.take (i := 1) (v := ?v1) (fun x => Cs wo.heap.size x [.string X0, .slice pa pn pc, .string X2] ∧ x.cell? ⟨gC, k0 * 3 + 1, none⟩ = some (.slice la ln lcp)) (fun up => up.getD 12 false = false) rfl (by kernel_rfl) (by kernel_rfl) (by kernel_rfl) (fun _ _ _ h => h) (Hr.keepI (s := 12) rfl (by kernel_rfl)) (fun _ _ hu hr => hr hu) (fun up y => Hr.keepR (s := 12) (i := 1) (S := fun x => Cs wo.heap.size x [.string X0, .slice pa pn pc, .string X2] ∧ x.cell? ⟨gC, k0 * 3 + 1, none⟩ = some (.slice la ln lcp)) (by decide) up y) rfl (Or.inl ⟨by rfl, ?hy1⟩) SZ.out (fun _ => SZ.out) ?rest1
                case hy1 => intro x hx; have f0 := (hx.1.2 0 _ rfl).1; have f1 := (hx.1.2 1 _ rfl).1; have f2 := (hx.1.2 2 _ rfl).1; have f3 := hx.2; clear hx; go_simp; try with_reducible rfl
                refine Hr.Walk.take (i := 2) (v := ?v2) (fun x => Cs wo.heap.size x [.string X0, .slice pa pn pc, .string X2] ∧ x.cell? ⟨gC, k0 * 3 + 1, none⟩ = some (.slice la ln lcp)) (fun up => up.getD 12 false = false) rfl (by kernel_rfl) (by kernel_rfl) (by kernel_rfl) (fun _ _ _ h => h) (Hr.keepI (s := 12) rfl (by kernel_rfl)) (fun _ _ hu hr => hr hu) (fun up y => Hr.keepR (s := 12) (i := 2) (S := fun x => Cs wo.heap.size x [.string X0, .slice pa pn pc, .string X2] ∧ x.cell? ⟨gC, k0 * 3 + 1, none⟩ = some (.slice la ln lcp)) (by decide) up y) rfl (Or.inl ⟨by rfl, ?hy2⟩) SZ.out (fun _ => SZ.out) ?rest2
                case hy2 => intro x hx; have f0 := (hx.1.2 0 _ rfl).1; have f1 := (hx.1.2 1 _ rfl).1; have f2 := (hx.1.2 2 _ rfl).1; have f3 := hx.2; clear hx; go_simp; try with_reducible rfl
                refine Hr.Walk.take (i := 3) (v := ?v3) (fun x => Cs wo.heap.size x [.string X0, .slice pa pn pc, .string X2] ∧ x.cell? ⟨gC, k0 * 3 + 1, none⟩ = some (.slice la ln lcp)) (fun up => up.getD 12 false = false) rfl (by kernel_rfl) (by kernel_rfl) (by kernel_rfl) (fun _ _ _ h => h) (Hr.keepI (s := 12) rfl (by kernel_rfl)) (fun _ _ hu hr => hr hu) (fun up y => Hr.keepR (s := 12) (i := 3) (S := fun x => Cs wo.heap.size x [.string X0, .slice pa pn pc, .string X2] ∧ x.cell? ⟨gC, k0 * 3 + 1, none⟩ = some (.slice la ln lcp)) (by decide) up y) rfl (Or.inl ⟨by rfl, ?hy3⟩) SZ.out (fun _ => SZ.out) ?rest3
                case hy3 => intro x hx; have f0 := (hx.1.2 0 _ rfl).1; have f1 := (hx.1.2 1 _ rfl).1; have f2 := (hx.1.2 2 _ rfl).1; have f3 := hx.2; clear hx; go_simp; try with_reducible rfl
                refine Hr.Walk.take (i := 4) (v := ?v4) (fun x => Cs wo.heap.size x [.string X0, .slice pa pn pc, .string X2] ∧ x.cell? ⟨gC, k0 * 3 + 1, none⟩ = some (.slice la ln lcp)) (fun up => up.getD 12 false = false) rfl (by kernel_rfl) (by kernel_rfl) (by kernel_rfl) (fun _ _ _ h => h) (Hr.keepI (s := 12) rfl (by kernel_rfl)) (fun _ _ hu hr => hr hu) (fun up y => Hr.keepR (s := 12) (i := 4) (S := fun x => Cs wo.heap.size x [.string X0, .slice pa pn pc, .string X2] ∧ x.cell? ⟨gC, k0 * 3 + 1, none⟩ = some (.slice la ln lcp)) (by decide) up y) rfl (Or.inl ⟨by rfl, ?hy4⟩) SZ.out (fun _ => SZ.out) ?rest4
                case hy4 => intro x hx; have f0 := (hx.1.2 0 _ rfl).1; have f1 := (hx.1.2 1 _ rfl).1; have f2 := (hx.1.2 2 _ rfl).1; have f3 := hx.2; clear hx; go_simp; try with_reducible rfl
                refine Hr.Walk.take (i := 5) (v := ?v5) (fun x => Cs wo.heap.size x [.string X0, .slice pa pn pc, .string X2] ∧ x.cell? ⟨gC, k0 * 3 + 1, none⟩ = some (.slice la ln lcp)) (fun up => up.getD 12 false = false) rfl (by kernel_rfl) (by kernel_rfl) (by kernel_rfl) (fun _ _ _ h => h) (Hr.keepI (s := 12) rfl (by kernel_rfl)) (fun _ _ hu hr => hr hu) (fun up y => Hr.keepR (s := 12) (i := 5) (S := fun x => Cs wo.heap.size x [.string X0, .slice pa pn pc, .string X2] ∧ x.cell? ⟨gC, k0 * 3 + 1, none⟩ = some (.slice la ln lcp)) (by decide) up y) rfl (Or.inl ⟨by rfl, ?hy5⟩) SZ.out (fun _ => SZ.out) ?rest5
                case hy5 => intro x hx; have f0 := (hx.1.2 0 _ rfl).1; have f1 := (hx.1.2 1 _ rfl).1; have f2 := (hx.1.2 2 _ rfl).1; have f3 := hx.2; clear hx; go_simp; try with_reducible rfl
                refine Hr.Walk.take (i := 6) (v := ?v6) (fun x => Cs wo.heap.size x [.string X0, .slice pa pn pc, .string X2] ∧ x.cell? ⟨gC, k0 * 3 + 1, none⟩ = some (.slice la ln lcp)) (fun up => up.getD 12 false = false) rfl (by kernel_rfl) (by kernel_rfl) (by kernel_rfl) (fun _ _ _ h => h) (Hr.keepI (s := 12) rfl (by kernel_rfl)) (fun _ _ hu hr => hr hu) (fun up y => Hr.keepR (s := 12) (i := 6) (S := fun x => Cs wo.heap.size x [.string X0, .slice pa pn pc, .string X2] ∧ x.cell? ⟨gC, k0 * 3 + 1, none⟩ = some (.slice la ln lcp)) (by decide) up y) rfl (Or.inl ⟨by rfl, ?hy6⟩) SZ.out (fun _ => SZ.out) ?rest6
                case hy6 => intro x hx; have f0 := (hx.1.2 0 _ rfl).1; have f1 := (hx.1.2 1 _ rfl).1; have f2 := (hx.1.2 2 _ rfl).1; have f3 := hx.2; clear hx; go_simp; try with_reducible rfl
                refine Hr.Walk.take (i := 7) (v := ?v7) (fun x => Cs wo.heap.size x [.string X0, .slice pa pn pc, .string X2] ∧ x.cell? ⟨gC, k0 * 3 + 1, none⟩ = some (.slice la ln lcp)) (fun up => up.getD 12 false = false) rfl (by kernel_rfl) (by kernel_rfl) (by kernel_rfl) (fun _ _ _ h => h) (Hr.keepI (s := 12) rfl (by kernel_rfl)) (fun _ _ hu hr => hr hu) (fun up y => Hr.keepR (s := 12) (i := 7) (S := fun x => Cs wo.heap.size x [.string X0, .slice pa pn pc, .string X2] ∧ x.cell? ⟨gC, k0 * 3 + 1, none⟩ = some (.slice la ln lcp)) (by decide) up y) rfl (Or.inl ⟨by rfl, ?hy7⟩) SZ.out (fun _ => SZ.out) ?rest7
                case hy7 => intro x hx; have f0 := (hx.1.2 0 _ rfl).1; have f1 := (hx.1.2 1 _ rfl).1; have f2 := (hx.1.2 2 _ rfl).1; have f3 := hx.2; clear hx; go_simp; try with_reducible rfl
                refine Hr.Walk.one (i := 8) (by kernel_rfl) rfl (fun K hK => ?_)
                go_simp
                have SA : Hid (Cs wo.heap.size (wq.drew.alloc (Obj.cells #[.string X0, .slice pa pn pc, .string X2] 24)) [.string X0, .slice pa pn pc, .string X2] ∧ (wq.drew.alloc (Obj.cells #[.string X0, .slice pa pn pc, .string X2] 24)).cell? ⟨gC, k0 * 3 + 1, none⟩ = some (.slice la ln lcp)) := Lib.hid ⟨SZ.out.1.alloc _, ((Below.refl wq.drew.heap.size wq.drew).alloc (Nat.le_refl _) _).cell (p := ⟨gC, k0 * 3 + 1, none⟩) hgC |>.trans SZ.out.2⟩
                refine hK.out _ _ (fun _ => SA.out) ?_
                clear hK K
                refine Hr.Walk.one (i := 9) (by kernel_rfl) rfl (fun K hK => ?_)
                refine stepL rfl _ _ rfl W.heap.size W (.slice la ln lcp) cm.ls rfl HLN0.out l _ _ _ HX0.out HX2.out HPV.out rfl HLN1.out sBq ?_
                intro w6 g6 c6 r6 gr6 hat6
                have hltw : ∀ q, (Value.slice la ln lcp).ownBlock = some q → q < wo.heap.size := by
                  intro q hq
                  obtain ⟨g', c', la', ln', lc'', hv', _, hg', _, n1', _, _, hl'⟩ := hS.out.2.2.2.1.at hk0C
                  rw [hS.out.1] at hv'
                  injection hv' with e _ _
                  injection e with e
                  injection e with e _ _
                  subst e
                  have e := n1.symm.trans ((HZ.out.cell (p := ⟨gC, k0 * 3 + 1, none⟩) hg').trans n1')
                  injection e with e
                  rw [e] at hq
                  obtain ⟨us, _, q2, _⟩ := hl'
                  exact (q2.lt q hq).2
                have hneD : some wo.heap.size ≠ (Value.slice la ln lcp).ownBlock := fun e => Nat.lt_irrefl _ (hltw _ e.symm)
                have gW6 : wo.heap.size < (wq.drew.alloc (Obj.cells #[.string X0, .slice pa pn pc, .string X2] 24)).heap.size := SA.out.1.1
                have gC6 : gC < w6.heap.size := Nat.lt_of_lt_of_le hgC (Nat.le_trans (by simp) gr6.size)
                have hneC : some gC ≠ (Value.slice la ln lcp).ownBlock := by
                  obtain ⟨xs, hx⟩ := ST.out.2.2.2.1.row
                  obtain ⟨us, _, q2, _⟩ := HLIN.out
                  intro e
                  rcases Rws.apart hx q2 (by decide) with z | z
                  · cases z
                  · exact z (by show some gC = _; exact e)
                have cC6 := (gr6.cell_far ⟨gC, k0 * 3 + 1, none⟩ (by simp; omega) hneC).trans (show ((wq.drew.alloc (Obj.cells #[.string X0, .slice pa pn pc, .string X2] 24)).cell? ⟨gC, k0 * 3 + 1, none⟩ = some (.slice la ln lcp)) from ((((Below.refl wq.heap.size wq).drew.alloc (Nat.le_refl _) _).cell (p := ⟨gC, k0 * 3 + 1, none⟩) hgC).trans n1))
                have fC6 := (gr6.frozen_far ⟨gC, k0 * 3 + 1, none⟩ (by simp; omega) hneC).trans (show ((wq.drew.alloc (Obj.cells #[.string X0, .slice pa pn pc, .string X2] 24)).frozen? ⟨gC, k0 * 3 + 1, none⟩ = false) from ((((Below.refl wq.heap.size wq).drew.alloc (Nat.le_refl _) _).frozen (p := ⟨gC, k0 * 3 + 1, none⟩) hgC).trans nf0))
                have HS6 : Hid (BdS W (C.modify k0 (addL l)) (k0 :: K') (some ⟨gC, 0, none⟩) cn cp (some ⟨gI, 0, none⟩) (kp + 1) cp2 (w6.setCell ⟨gC, k0 * 3 + 1, none⟩ (.slice (some ⟨g6, 0, none⟩) (ln + 1) c6))) := Lib.hid (by
                  obtain ⟨s1, s2, s3, s4, s5, s6⟩ := (ST.out.below (Below.refl _ _).drew)
                  have rr : LinR W.heap.size W w6 (.slice (some ⟨g6, 0, none⟩) (ln + 1) c6) ((C[k0]'hk0C).ls ++ [l]) := by
                    have h := r6
                    rw [HCLS.out] at h
                    rw [HCM.out]
                    exact h
                  have h1 := CmpR.addLn (w := wq.drew) (g := gC) (c := cp) (x := l) (by rw [s1]; exact s4) hk0C n1 gr6 rr (by
                    rcases hat6 with e | e
                    · exact Or.inl e
                    · exact Or.inr (by rw [e]; rfl))
                  rw [List.length_modify, s1] at h1
                  refine ⟨by rw [List.length_modify]; exact s1, s2, s3, h1, ?_, ((s6.alloc s6.size (Obj.cells #[.string X0, .slice pa pn pc, .string X2] 24)).grown gr6 (by have := s6.size; simp; omega) (fun q hq => ?_)).setCell (p := ⟨gC, k0 * 3 + 1, none⟩) hBC _⟩
                  · exact RowI.setR (s5.grownL gr6 HLN0.out) (CmpR.addL0 s4 gr6 HLN0.out)
                  · obtain ⟨us, _, q2, _⟩ := HLN0.out
                    exact (q2.lt q hq).1)
                have S6 : Hid (Cs wo.heap.size w6 [.string X0, .slice pa pn pc, .string X2] ∧ w6.cell? ⟨gC, k0 * 3 + 1, none⟩ = some (.slice la ln lcp)) := Lib.hid ⟨⟨Nat.lt_of_lt_of_le gW6 gr6.size, fun i v hv => ⟨(gr6.cell_far ⟨wo.heap.size, i, none⟩ gW6 hneD).trans (SA.out.1.2 i v hv).1, (gr6.frozen_far ⟨wo.heap.size, i, none⟩ gW6 hneD).trans (SA.out.1.2 i v hv).2⟩⟩, cC6⟩
                have HLL := HCLS.out
                rw [HLL]
                clear r6 hat6 HG
                refine hK.out _ _ (fun _ => S6.out) ?_
                clear hK K
                refine Hr.Walk.one (i := 10) (by kernel_rfl) rfl (fun K hK => ?_)
                go_simp
                refine hK.out _ _ (fun _ => S6.out) ?_
                clear hK K
                refine Hr.Walk.one (i := 11) (by kernel_rfl) rfl (fun K hK => ?_)
                go_simp
                refine hK.out _ _ (fun _ => S6.out) ?_
                clear hK K
                refine Hr.Walk.one (i := 12) (by kernel_rfl) rfl (fun K hK => ?_)
                go_simp
                refine hK.out _ _ (fun h => by cases h) ?_
                clear hK K
                refine Hr.Walk.done (by kernel_rfl) ?_ _
                go_wp2
                go_roundw
                case rel => exact ⟨k' + 1, _, _, some ⟨gC, 0, none⟩, cn, cp, some ⟨gI, 0, none⟩, kp + 1, cp2, by first | rfl | go_num, by first | rfl | go_num, by go_num, by omega, by omega, by omega, HG2, HS6, HNSL _, HLSL _⟩
                case measure => simp [intOf]; omega
        · have hkn : acc.drop k' = [] := List.drop_of_length_le (by rw [HNL.out]; omega)
          have hG' := hG.out
          rw [hkn, rbG] at hG'
          have ST := hS
          by_cases hcz : cn = 0
          · subst hcz
            have hCe : C = [] := List.eq_nil_of_length_eq_zero ST.out.1
            rw [if_pos (Or.inl hCe)] at hG'
            have HR := Lib.hid hG'
            clear hG' hCe
            go_wp2
            go_ret2
            exact pq_no _ _ 20 _ (by rw [← HRO.out, ← HR.out]; rfl) (bstep BW.out ST.out.2.2.2.2.2)
          · have hcp : ((cn : Int) == 0) = false := beq_eq_false_iff_ne.2 (by omega)
            by_cases hkz : kn = 0
            · subst hkz
              have hKe : K = [] := List.eq_nil_of_length_eq_zero ST.out.2.1
              rw [if_neg (by
                rintro (e | e)
                · exact hcz (by rw [← ST.out.1, e]; rfl)
                · exact e hKe)] at hG'
              have HO := Lib.hid hG'
              clear hG' hKe
              go_wp2
              go_ret2
              refine ⟨_, _, _, by rw [← HRO.out, ← HO.out]; rfl, Lib.hid ?_, bstep BW.out ST.out.2.2.2.2.2⟩
              rw [← HRO.out, ← HO.out]
              exact ST.out.2.2.2.1.cmps ST.out.2.2.2.2.2
            · rw [if_pos (Or.inr (fun e => hkz (by rw [← ST.out.2.1, e]; rfl)))] at hG'
              have HR := Lib.hid hG'
              have hkp0 : 0 < kn := by omega
              clear hG'
              go_wp2
              go_ret2
              exact pq_no _ _ 20 _ (by rw [← HRO.out, ← HR.out]; rfl) (bstep BW.out ST.out.2.2.2.2.2)
theorem rpt_to (s : ByteArray) (S : List UInt8) (r : List CV × Int) (w : World) (hs : s.size ≤ 3000) (hS : s.data.toList = S) (hr : Hid (rpT S = r)) :
    Calls Try.prog 29 #[.string s] w (PaQ r w) := by
  have hl : S.length ≤ 3000 := by rw [← hS]; simpa using hs
  have hr' := hr.out
  rw [rpt_eq] at hr'
  cases ho : Fld.okCR S with
  | false =>
    rw [ho, if_neg (by decide)] at hr'
    subst hr'
    exact rpt_no s S w hs (Lib.hid hS) (Lib.hid (by rw [Fld.unfR, ho]; rfl))
  | true =>
    rw [ho, if_pos rfl] at hr'
    obtain ⟨u1, u2⟩ := unf_bd S.length S [] (Nat.le_refl _)
    exact rpt_ok s S (Fld.unfS S) _ r w hs (Lib.hid hS) (Lib.hid (by rw [Fld.unfR, ho]; rfl)) (Lib.hid rfl) (by have : (Fld.unfS S).length ≤ S.length + 1 := u1; omega) (Lib.hid (fun t ht => by have := u2 t ht; simp at this; omega)) (Lib.hid hr')
end Tre
end Go.Proofs.Ytdakpncfophjnaa
