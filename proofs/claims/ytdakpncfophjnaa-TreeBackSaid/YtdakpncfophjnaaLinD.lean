/-
  Contracts of package line: Check of whatever line.
-/
import Derived.Test.YtdakpncfophjnaaLinC
namespace Go.Proofs.Ytdakpncfophjnaa
open Go.RowKit
namespace Lin
open CutB Cel
open Opn (TxtV)
open Rws (RowS)
/-- A value reads as a list of parameters, wherever it came from. -/
def ParsV (w : World) (v : Value) (ps : List PV) : Prop := ∃ a n c, v = .slice a n c ∧ n = ps.length ∧ ∀ (j : Nat) (hj : j < ps.length), ∃ b off sv, a = some ⟨b, off, none⟩ ∧ b < w.heap.size ∧ w.cell? ⟨b, off + j * 2, none⟩ = some (.string ⟨(ps[j]).nm.toArray⟩) ∧ w.cell? ⟨b, off + j * 2 + 1, none⟩ = some sv ∧ TxtV w sv (ps[j]).vs
theorem ParsV.below {w w' : World} {v : Value} {ps : List PV} (h : ParsV w v ps) (hb : Below w.heap.size w w') : ParsV w' v ps := by
  obtain ⟨a, n, c, rfl, hn, h⟩ := h
  refine ⟨a, n, c, rfl, hn, fun j hj => ?_⟩
  obtain ⟨b, off, sv, h1, h2, h3, h4, h5⟩ := h j hj
  exact ⟨b, off, sv, h1, Nat.lt_of_lt_of_le h2 hb.size, (hb.cell (p := ⟨b, _, none⟩) h2).trans h3, (hb.cell (p := ⟨b, _, none⟩) h2).trans h4, h5.below hb⟩
theorem ParsV.form {w : World} {v : Value} {ps : List PV} (h : ParsV w v ps) (h0 : 0 < ps.length) : ∃ b off c, v = .slice (some ⟨b, off, none⟩) ps.length c ∧ b < w.heap.size ∧ ∀ (j : Nat) (hj : j < ps.length), ∃ sv, w.cell? ⟨b, off + j * 2, none⟩ = some (.string ⟨(ps[j]).nm.toArray⟩) ∧ w.cell? ⟨b, off + j * 2 + 1, none⟩ = some sv ∧ TxtV w sv (ps[j]).vs := by
  obtain ⟨a, n, c, rfl, rfl, h⟩ := h
  obtain ⟨b, off, sv, rfl, h2, _⟩ := h 0 h0
  refine ⟨b, off, c, rfl, h2, fun j hj => ?_⟩
  obtain ⟨b', off', sv', e, _, h3, h4, h5⟩ := h j hj
  injection e with e
  injection e with e1 e2 _
  subst e1 e2
  exact ⟨sv', h3, h4, h5⟩
theorem ParsV.nil {w : World} {v : Value} (h : ParsV w v []) : ∃ a c, v = .slice a 0 c := by
  obtain ⟨a, n, c, rfl, rfl, _⟩ := h
  exact ⟨a, c, rfl⟩
theorem ParsV.none (w : World) : ParsV w (.slice none 0 0) [] := ⟨_, _, _, rfl, rfl, fun j hj => by simp at hj⟩
def smlP (p : PV) : Prop := p.nm.length ≤ 1000000 ∧ p.vs.length ≤ 1000000 ∧ ∀ v ∈ p.vs, v.length ≤ 1000000
theorem par_snoc (ps : List PV) (k : Nat) (hk : k < ps.length) (h : (ps.take k).all parB = true) (hc : parB ps[k] = true) : (ps.take (k + 1)).all parB = true := by
  rw [List.take_succ_eq_append_getElem hk, List.all_append, h, List.all_cons, hc]
  rfl
theorem par_no (ps : List PV) (k : Nat) (hk : k < ps.length) (hc : parB ps[k] = false) : ps.all parB = false := by
  cases e : ps.all parB with
  | false => rfl
  | true =>
    have := List.all_eq_true.1 e ps[k] (List.getElem_mem hk)
    rw [hc] at this; cases this
theorem val_snoc (vs : List (List UInt8)) (k : Nat) (hk : k < vs.length) (h : (vs.take k).all valB = true) (hc : valB vs[k] = true) : (vs.take (k + 1)).all valB = true := by
  rw [List.take_succ_eq_append_getElem hk, List.all_append, h, List.all_cons, hc]
  rfl
theorem val_no (vs : List (List UInt8)) (k : Nat) (hk : k < vs.length) (hc : valB vs[k] = false) : vs.all valB = false := by
  cases e : vs.all valB with
  | false => rfl
  | true =>
    have := List.all_eq_true.1 e vs[k] (List.getElem_mem hk)
    rw [hc] at this; cases this
theorem iby_v (s : ByteArray) (S : List UInt8) (v : Int) (w : World) (hS : Hid (s.data.toList = S)) (h : Hid (Lib.indexByte S 34 = v)) :
    Calls Try.prog 53 #[.string s, .int .u8 34] w fun e w' => e = .returned (.int .i64 v) ∧ w = w' :=
  (Try.strings_IndexByte s 34 w).mono fun _ _ ⟨he, hw⟩ => ⟨by rw [he, hS.out]; show Ending.returned (.int .i64 (Lib.indexByte S 34)) = _; rw [h.out], hw.symm⟩
theorem ib_has (S : List UInt8) : S.contains 34 = decide (0 ≤ Lib.indexByte S 34) := by
  rw [← Lib.contains_iff_indexByte S 34]
set_option maxHeartbeats 3200000 in
set_option maxRecDepth 100000 in
theorem lck_1 (nm vl : List UInt8) (pv : Value) (w : World) (h1 : nm.length ≤ 1000000) (hn : Hid (nmB nm = false)) :
    Calls Try.prog 22 #[.agg #[.string ⟨nm.toArray⟩, pv, .string ⟨vl.toArray⟩]] w fun e w' => e = .returned (.int .i64 18) ∧ Below w.heap.size w w' := by
  have Z1 : Hid ((⟨nm.toArray⟩ : ByteArray).size ≤ 1000000) := Lib.hid h1
  go_enter Try.func22, Try.ntmps22
  go_wp2_with fail
  refine (lnm_to _ nm false _ Z1.out (Lib.hid rfl) hn).mono ?_
  rintro e w1 ⟨rfl, rfl⟩
  go_wp2
  go_ret
  exact ⟨rfl, (Below.refl _ _).alloc (Nat.le_refl _) _⟩
set_option maxHeartbeats 3200000 in
set_option maxRecDepth 100000 in
theorem lck_2 (nm vl : List UInt8) (pv : Value) (w : World) (h1 : nm.length ≤ 1000000) (h2 : vl.length ≤ 1000000) (hn : Hid (nmB nm = true)) (hv : Hid (plnB vl = false)) :
    Calls Try.prog 22 #[.agg #[.string ⟨nm.toArray⟩, pv, .string ⟨vl.toArray⟩]] w fun e w' => e = .returned (.int .i64 18) ∧ Below w.heap.size w w' := by
  have Z1 : Hid ((⟨nm.toArray⟩ : ByteArray).size ≤ 1000000) := Lib.hid h1
  have Z2 : Hid ((⟨vl.toArray⟩ : ByteArray).size ≤ 1000000) := Lib.hid h2
  go_enter Try.func22, Try.ntmps22
  go_wp2_with fail
  refine (lnm_to _ nm true _ Z1.out (Lib.hid rfl) hn).mono ?_
  rintro e w1 ⟨rfl, rfl⟩
  go_wp2_with fail
  refine (lpl_to _ vl false _ Z2.out (Lib.hid rfl) hv).mono ?_
  rintro e w1 ⟨rfl, rfl⟩
  go_wp2
  go_ret
  exact ⟨rfl, (Below.refl _ _).alloc (Nat.le_refl _) _⟩
set_option maxHeartbeats 3200000 in
set_option maxRecDepth 100000 in
theorem lck_3 (nm vl : List UInt8) (a : Option Addr) (c : Nat) (w : World) (h1 : nm.length ≤ 1000000) (h2 : vl.length ≤ 1000000) (hn : Hid (nmB nm = true)) (hv : Hid (plnB vl = true)) :
    Calls Try.prog 22 #[.agg #[.string ⟨nm.toArray⟩, .slice a 0 c, .string ⟨vl.toArray⟩]] w fun e w' => e = .returned (.int .i64 0) ∧ Below w.heap.size w w' := by
  have Z1 : Hid ((⟨nm.toArray⟩ : ByteArray).size ≤ 1000000) := Lib.hid h1
  have Z2 : Hid ((⟨vl.toArray⟩ : ByteArray).size ≤ 1000000) := Lib.hid h2
  go_enter Try.func22, Try.ntmps22
  go_wp2_with fail
  refine (lnm_to _ nm true _ Z1.out (Lib.hid rfl) hn).mono ?_
  rintro e w1 ⟨rfl, rfl⟩
  go_wp2_with fail
  refine (lpl_to _ vl true _ Z2.out (Lib.hid rfl) hv).mono ?_
  rintro e w1 ⟨rfl, rfl⟩
  go_wp2
  go_loopw [20] (fun i wr => i = .int .i64 0 ∧ Below w.heap.size w wr) (fun _ _ => 0)
  case atStart => exact ⟨rfl, (Below.refl _ _).alloc (Nat.le_refl _) _⟩
  case round =>
    obtain ⟨rfl, hb⟩ := hrel
    go_wp2
    go_ret
    exact ⟨rfl, hb⟩
set_option maxHeartbeats 12800000 in
set_option maxRecDepth 100000 in
theorem lck_4 (nm vl : List UInt8) (b off c : Nat) (ps : List PV) (e : Int) (w : World) (h1 : nm.length ≤ 1000000) (h2 : vl.length ≤ 1000000) (hn : Hid (nmB nm = true)) (hv : Hid (plnB vl = true))
    (hbl : b < w.heap.size) (hp : Hid (∀ (j : Nat) (hj : j < ps.length), ∃ sv, w.cell? ⟨b, off + j * 2, none⟩ = some (.string ⟨(ps[j]).nm.toArray⟩) ∧ w.cell? ⟨b, off + j * 2 + 1, none⟩ = some sv ∧ TxtV w sv (ps[j]).vs)) (hlen : ps.length ≤ 1000000) (hsm : Hid (∀ p ∈ ps, smlP p))
    (hE : Hid ((if ps.all parB = true then (0 : Int) else 18) = e)) :
    Calls Try.prog 22 #[.agg #[.string ⟨nm.toArray⟩, .slice (some ⟨b, off, none⟩) ps.length c, .string ⟨vl.toArray⟩]] w fun x w' => x = .returned (.int .i64 e) ∧ Below w.heap.size w w' := by
  have Z1 : Hid ((⟨nm.toArray⟩ : ByteArray).size ≤ 1000000) := Lib.hid h1
  have Z2 : Hid ((⟨vl.toArray⟩ : ByteArray).size ≤ 1000000) := Lib.hid h2
  obtain ⟨N, hN⟩ : ∃ N, ps.length = N := ⟨_, rfl⟩
  rw [hN] at hlen ⊢
  have HN := Lib.hid hN
  clear hN h1 h2
  go_enter Try.func22, Try.ntmps22
  go_wp2_with fail
  refine (lnm_to _ nm true _ Z1.out (Lib.hid rfl) hn).mono ?_
  rintro e w1 ⟨rfl, rfl⟩
  go_wp2_with fail
  refine (lpl_to _ vl true _ Z2.out (Lib.hid rfl) hv).mono ?_
  rintro e w1 ⟨rfl, rfl⟩
  go_wp2
  go_loopw [20] (fun i wr => ∃ k : Nat, k ≤ N ∧ i = .int .i64 k ∧ Hid ((ps.take k).all parB = true) ∧ Below w.heap.size w wr) (fun i _ => N - (intOf i).toNat)
  case atStart => exact ⟨0, Nat.zero_le _, rfl, Lib.hid rfl, (Below.refl _ _).alloc (Nat.le_refl _) _⟩
  case round =>
    obtain ⟨k, hk, rfl, hall, hb⟩ := hrel
    obtain ⟨wo, rfl⟩ : ∃ wo : World, wo = wr := ⟨_, rfl⟩
    by_cases hlt : k < N
    · have hkp : k < ps.length := by rw [HN.out]; exact hlt
      obtain ⟨sv, c0, c1, ht⟩ := hp.out k hkp
      obtain ⟨p, hpk⟩ : ∃ p, ps[k]'hkp = p := ⟨_, rfl⟩
      rw [hpk] at c0 ht
      obtain ⟨s1, s2, s3⟩ := hsm.out p (hpk ▸ List.getElem_mem hkp)
      have HNX : Hid (parB p = true → (ps.take (k + 1)).all parB = true) := Lib.hid (fun q => par_snoc ps k hkp hall.out (by rw [hpk]; exact q))
      have HNO : Hid (parB p = false → 18 = e) := Lib.hid (fun q => by rw [← hE.out, if_neg (by rw [par_no ps k hkp (by rw [hpk]; exact q)]; decide)])
      have d0 := (hb.cell (p := ⟨b, off + k * 2, none⟩) hbl).trans c0
      have d1 := (hb.cell (p := ⟨b, off + k * 2 + 1, none⟩) hbl).trans c1
      have Z3 : Hid ((⟨p.nm.toArray⟩ : ByteArray).size ≤ 1000000) := Lib.hid s1
      have HS3 := Lib.hid s3
      have HB := Lib.hid hb
      have HT := Lib.hid (ht.below hb)
      clear hpk hkp c0 c1 ht s1 s3 hb hall
      cases hnm : nmB p.nm with
      | false =>
        have HR := Lib.hid (HNO.out (by rw [parB, hnm]; rfl))
        have HM := Lib.hid hnm
        obtain ⟨a', c', rfl⟩ := HT.out.slice
        clear hnm HT
        go_wp2_with fail
        refine (lnm_to _ p.nm false _ Z3.out (Lib.hid rfl) HM).mono ?_
        rintro e w1 ⟨rfl, rfl⟩
        go_wp2
        go_ret
        exact ⟨ret_i HR.out, HB.out.alloc HB.out.size _⟩
      | true =>
        have HM := Lib.hid hnm
        clear hnm
        by_cases hz : p.vs.length = 0
        · have hz' : p.vs = [] := List.eq_nil_of_length_eq_zero hz
          have HR := Lib.hid (HNO.out (by rw [parB, hz']; simp))
          have ht := HT.out
          rw [hz'] at ht
          obtain ⟨a', c', rfl⟩ := ht.nil
          clear ht hz hz' HT
          go_wp2_with fail
          refine (lnm_to _ p.nm true _ Z3.out (Lib.hid rfl) HM).mono ?_
          rintro e w1 ⟨rfl, rfl⟩
          go_wp2
          go_ret
          exact ⟨ret_i HR.out, HB.out.alloc HB.out.size _⟩
        · obtain ⟨b2, off2, c2, rfl, hb2, hc2⟩ := HT.out.form (by omega)
          obtain ⟨M, hM⟩ : ∃ M, p.vs.length = M := ⟨_, rfl⟩
          have HMM := Lib.hid hM
          have HC2 := Lib.hid hc2
          have x1 : ((M : Int) == 0) = false := beq_eq_false_iff_ne.2 (by omega)
          have x2 : ¬ M = 0 := by omega
          have hM1 : M ≤ 1000000 := by omega
          rw [hM] at d1
          clear hz hM hc2 HT s2
          go_wp2_with fail
          refine (lnm_to _ p.nm true _ Z3.out (Lib.hid rfl) HM).mono ?_
          rintro e w1 ⟨rfl, rfl⟩
          go_wp2
          go_loopw [37] (fun i wr => ∃ j : Nat, j ≤ M ∧ i = .int .i64 j ∧ Hid ((p.vs.take j).all valB = true) ∧ Below wo.heap.size wo wr) (fun i _ => M - (intOf i).toNat)
          case atStart => exact ⟨0, Nat.zero_le _, rfl, Lib.hid rfl, (Below.refl _ _).alloc (Nat.le_refl _) _⟩
          case round =>
            obtain ⟨j, hj, rfl, hvall, hbi⟩ := hrel
            by_cases hjt : j < M
            · have hjv : j < p.vs.length := by rw [HMM.out]; exact hjt
              have f0 := (hbi.cell (p := ⟨b2, off2 + j, none⟩) hb2).trans (HC2.out j hjv)
              obtain ⟨v, hvj⟩ : ∃ v, p.vs[j]'hjv = v := ⟨_, rfl⟩
              rw [hvj] at f0
              have Z4 : Hid ((⟨v.toArray⟩ : ByteArray).size ≤ 1000000) := Lib.hid (HS3.out v (hvj ▸ List.getElem_mem hjv))
              have HVX : Hid (valB v = true → (p.vs.take (j + 1)).all valB = true) := Lib.hid (fun q => val_snoc p.vs j hjv hvall.out (by rw [hvj]; exact q))
              have HVN : Hid (valB v = false → 18 = e) := Lib.hid (fun q => HNO.out (by rw [parB, val_no p.vs j hjv (by rw [hvj]; exact q)]; simp))
              have HBI := Lib.hid hbi
              clear hvj hjv hbi hvall
              cases hpl : plnB v with
              | false =>
                have HR := Lib.hid (HVN.out (by rw [valB, hpl]; rfl))
                have HPL := Lib.hid hpl
                clear hpl
                go_wp2_with fail
                refine (lpl_to _ v false _ Z4.out (Lib.hid rfl) HPL).mono ?_
                rintro e w1 ⟨rfl, rfl⟩
                go_wp2
                go_ret
                exact ⟨ret_i HR.out, bstep HB.out HBI.out⟩
              | true =>
                have HPL := Lib.hid hpl
                obtain ⟨q, hq⟩ : ∃ q, Lib.indexByte v 34 = q := ⟨_, rfl⟩
                have HQ := Lib.hid hq
                have hcon := ib_has v
                rw [hq] at hcon
                clear hq
                by_cases hge : 0 ≤ q
                · have HR := Lib.hid (HVN.out (by rw [valB, hpl, hcon, decide_eq_true hge]; rfl))
                  clear hpl hcon
                  go_wp2_with fail
                  refine (lpl_to _ v true _ Z4.out (Lib.hid rfl) HPL).mono ?_
                  rintro e w1 ⟨rfl, rfl⟩
                  go_wp2_with fail
                  refine (iby_v _ v q _ (Lib.hid rfl) HQ).mono ?_
                  rintro e w1 ⟨rfl, rfl⟩
                  go_wp2
                  go_ret
                  exact ⟨ret_i HR.out, bstep HB.out HBI.out⟩
                · have HVV := Lib.hid (HVX.out (by rw [valB, hpl, hcon, decide_eq_false hge]; rfl))
                  clear hpl hcon
                  go_wp2_with fail
                  refine (lpl_to _ v true _ Z4.out (Lib.hid rfl) HPL).mono ?_
                  rintro e w1 ⟨rfl, rfl⟩
                  go_wp2_with fail
                  refine (iby_v _ v q _ (Lib.hid rfl) HQ).mono ?_
                  rintro e w1 ⟨rfl, rfl⟩
                  go_wp2
                  go_roundw
                  case rel => exact ⟨j + 1, by omega, by go_num, HVV, HBI.out⟩
                  case measure => simp [intOf]; omega
            · have HPP := Lib.hid (HNX.out (by
                rw [parB, HM.out]
                have := hvall.out
                rw [List.take_of_length_le (by rw [HMM.out]; omega)] at this
                rw [this, HMM.out, decide_eq_true (show 0 < M by omega)]
                rfl))
              have HBO := Lib.hid (bstep HB.out hbi)
              clear hvall hbi
              go_wp2
              go_roundw
              case rel => exact ⟨k + 1, by omega, by go_num, HPP, HBO.out⟩
              case measure => simp [intOf]; omega
    · have HR : Hid (0 = e) := Lib.hid (by
        rw [← hE.out, if_pos]
        have := hall.out
        rw [List.take_of_length_le (by rw [HN.out]; omega)] at this
        exact this)
      go_wp2
      go_ret
      exact ⟨ret_i HR.out, hb⟩
theorem lchk_to (nm vl : List UInt8) (pv : Value) (ps : List PV) (e : Int) (w : World) (h1 : nm.length ≤ 1000000) (h2 : vl.length ≤ 1000000) (hp : ParsV w pv ps) (hlen : ps.length ≤ 1000000) (hsm : ∀ p ∈ ps, smlP p) (hE : Hid (lnE ⟨nm, ps, vl⟩ = e)) :
    Calls Try.prog 22 #[.agg #[.string ⟨nm.toArray⟩, pv, .string ⟨vl.toArray⟩]] w fun x w' => x = .returned (.int .i64 e) ∧ Below w.heap.size w w' := by
  have hE := hE.out
  rw [lnE, lnB] at hE
  simp only at hE
  cases q1 : nmB nm with
  | false =>
    rw [q1] at hE
    have hE : (18 : Int) = e := hE
    subst hE
    exact lck_1 nm vl pv w h1 (Lib.hid q1)
  | true =>
    cases q2 : plnB vl with
    | false =>
      rw [q1, q2] at hE
      have hE : (18 : Int) = e := hE
      subst hE
      exact lck_2 nm vl pv w h1 h2 (Lib.hid q1) (Lib.hid q2)
    | true =>
      rw [q1, q2, Bool.true_and, Bool.true_and] at hE
      cases ps with
      | nil =>
        have hE : (0 : Int) = e := hE
        subst hE
        obtain ⟨a, c, rfl⟩ := hp.nil
        exact lck_3 nm vl a c w h1 h2 (Lib.hid q1) (Lib.hid q2)
      | cons p ps =>
        obtain ⟨b, off, c, rfl, hb, hc⟩ := hp.form (by simp)
        exact lck_4 nm vl b off c (p :: ps) e w h1 h2 (Lib.hid q1) (Lib.hid q2) hb (Lib.hid hc) hlen (Lib.hid hsm) (Lib.hid hE)
end Lin
end Go.Proofs.Ytdakpncfophjnaa
