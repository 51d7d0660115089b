/-
  Lines, the reference's words: Line.
-/
import Derived.Test.YtdakpncfophjnaaLnRA
namespace Go.Proofs.Ytdakpncfophjnaa
open Go.RowKit
namespace Lin
open CutB Cel
open Opn (TxtV)
theorem nmv (l : List UInt8) (b : Bool) (w : World) (hs : l.length ≤ 1000000) (h : Hid (nmB l = b)) :
    Calls Try.prog 49 #[.string ⟨l.toArray⟩] w fun e w' => e = .returned (.bool b) ∧ w = w' := rnm_to _ l b w hs (Lib.hid rfl) h
theorem clv (l : List UInt8) (q b : Bool) (w : World) (hs : l.length ≤ 1000000) (h : Hid (clB q l = b)) :
    Calls Try.prog 50 #[.string ⟨l.toArray⟩, .bool q] w fun e w' => e = .returned (.bool b) ∧ w = w' := rcl_to _ l q b w hs (Lib.hid rfl) h
set_option maxHeartbeats 3200000 in
set_option maxRecDepth 100000 in
theorem rln_1 (nm vl : List UInt8) (pv : Value) (w : World) (h1 : nm.length ≤ 1000000) (hn : Hid (nmB nm = false)) :
    Calls Try.prog 21 #[.agg #[.string ⟨nm.toArray⟩, pv, .string ⟨vl.toArray⟩]] w (KlQ false w) := by
  go_enter Try.func21, Try.ntmps21
  go_wp2_with fail
  refine (nmv nm false _ h1 hn).mono ?_
  rintro e w1 ⟨rfl, rfl⟩
  go_wp2
  go_ret
  exact ⟨rfl, (Below.refl _ _).alloc (Nat.le_refl _) _⟩
set_option maxHeartbeats 3200000 in
set_option maxRecDepth 100000 in
theorem rln_2 (nm vl : List UInt8) (pv : Value) (w : World) (h1 : nm.length ≤ 1000000) (h2 : vl.length ≤ 1000000) (hn : Hid (nmB nm = true)) (hv : Hid (clB false vl = false)) :
    Calls Try.prog 21 #[.agg #[.string ⟨nm.toArray⟩, pv, .string ⟨vl.toArray⟩]] w (KlQ false w) := by
  go_enter Try.func21, Try.ntmps21
  go_wp2_with fail
  refine (nmv nm true _ h1 hn).mono ?_
  rintro e w1 ⟨rfl, rfl⟩
  go_wp2_with fail
  refine (clv vl false false _ h2 hv).mono ?_
  rintro e w1 ⟨rfl, rfl⟩
  go_wp2
  go_ret
  exact ⟨rfl, (Below.refl _ _).alloc (Nat.le_refl _) _⟩
set_option maxHeartbeats 3200000 in
set_option maxRecDepth 100000 in
theorem rln_3 (nm vl : List UInt8) (a : Option Addr) (c : Nat) (w : World) (h1 : nm.length ≤ 1000000) (h2 : vl.length ≤ 1000000) (hn : Hid (nmB nm = true)) (hv : Hid (clB false vl = true)) :
    Calls Try.prog 21 #[.agg #[.string ⟨nm.toArray⟩, .slice a 0 c, .string ⟨vl.toArray⟩]] w (KlQ true w) := by
  go_enter Try.func21, Try.ntmps21
  go_wp2_with fail
  refine (nmv nm true _ h1 hn).mono ?_
  rintro e w1 ⟨rfl, rfl⟩
  go_wp2_with fail
  refine (clv vl false true _ h2 hv).mono ?_
  rintro e w1 ⟨rfl, rfl⟩
  go_wp2
  go_loopw [3] (fun i wr => i = .int .i64 0 ∧ wr = w.alloc (Obj.cells #[.string ⟨nm.toArray⟩, .slice a 0 c, .string ⟨vl.toArray⟩] 24)) (fun _ _ => 0)
  case atStart => exact ⟨rfl, rfl⟩
  case round =>
    obtain ⟨rfl, rfl⟩ := hrel
    go_wp2
    go_ret
    exact ⟨rfl, (Below.refl _ _).alloc (Nat.le_refl _) _⟩
set_option maxHeartbeats 12800000 in
set_option maxRecDepth 100000 in
theorem rln_4 (nm vl : List UInt8) (b off c N : Nat) (ps : List PV) (r : Bool) (w : World) (h1 : nm.length ≤ 1000000) (h2 : vl.length ≤ 1000000) (hn : Hid (nmB nm = true)) (hv : Hid (clB false vl = true)) (hN : Hid (ps.length = N)) (hlen : N ≤ 1000000)
    (hbl : b < w.heap.size) (hp : Hid (∀ (j : Nat) (hj : j < ps.length), ∃ sv, w.cell? ⟨b, off + j * 2, none⟩ = some (.string ⟨(ps[j]).nm.toArray⟩) ∧ w.cell? ⟨b, off + j * 2 + 1, none⟩ = some sv ∧ TxtV w sv (ps[j]).vs)) (hsm : Hid (∀ p ∈ ps, smlP p)) (hR : Hid (ps.all parB = r)) :
    Calls Try.prog 21 #[.agg #[.string ⟨nm.toArray⟩, .slice (some ⟨b, off, none⟩) N c, .string ⟨vl.toArray⟩]] w (KlQ r w) := by
  have C0 := Lib.hid (Cs.new w [.string ⟨nm.toArray⟩, .slice (some ⟨b, off, none⟩) N c, .string ⟨vl.toArray⟩] 24)
  go_enter Try.func21, Try.ntmps21
  go_wp2_with fail
  refine (nmv nm true _ h1 hn).mono ?_
  rintro e w1 ⟨rfl, rfl⟩
  go_wp2_with fail
  refine (clv vl false true _ h2 hv).mono ?_
  rintro e w1 ⟨rfl, rfl⟩
  go_wp2
  go_loopw [3] (fun i wr => ∃ k : Nat, k ≤ N ∧ i = .int .i64 k ∧ Hid ((ps.take k).all parB = true) ∧ Cs w.heap.size wr [.string ⟨nm.toArray⟩, .slice (some ⟨b, off, none⟩) N c, .string ⟨vl.toArray⟩] ∧ Below w.heap.size w wr) (fun i _ => N - (intOf i).toNat)
  case atStart => exact ⟨0, Nat.zero_le _, rfl, Lib.hid rfl, C0.out, (Below.refl _ _).alloc (Nat.le_refl _) _⟩
  case round =>
    obtain ⟨k, hk, rfl, hall, hc, hb⟩ := hrel
    have HC := Lib.hid hc
    have HB := Lib.hid hb
    have gq : w.heap.size < wr.heap.size := hc.1
    have z1 := (hc.2 1 _ rfl).1
    clear hc hb C0
    by_cases hlt : k < N
    · have hkp : k < ps.length := by rw [hN.out]; exact hlt
      obtain ⟨sv, c0, c1, ht⟩ := hp.out k hkp
      obtain ⟨p, hpk⟩ : ∃ p, ps[k]'hkp = p := ⟨_, rfl⟩
      rw [hpk] at c0 ht
      obtain ⟨s1, s2, s3⟩ := hsm.out p (hpk ▸ List.getElem_mem hkp)
      have HNX : Hid (parB p = true → (ps.take (k + 1)).all parB = true) := Lib.hid (fun q => par_snoc ps k hkp hall.out (by rw [hpk]; exact q))
      have HNO : Hid (parB p = false → false = r) := Lib.hid (fun q => by rw [← hR.out]; exact (par_no ps k hkp (by rw [hpk]; exact q)).symm)
      have d0 := (HB.out.cell (p := ⟨b, off + k * 2, none⟩) hbl).trans c0
      have d1 := (HB.out.cell (p := ⟨b, off + k * 2 + 1, none⟩) hbl).trans c1
      have gb : b < wr.heap.size := Nat.lt_of_lt_of_le hbl HB.out.size
      have HT := Lib.hid ht
      have S3 := Lib.hid s3
      obtain ⟨a2, c2, hsv⟩ := ht.slice
      subst hsv
      obtain ⟨M, hM⟩ : ∃ M, p.vs.length = M := ⟨_, rfl⟩
      have HM := Lib.hid hM
      rw [hM] at d1 s2
      have BA := Lib.hid (HB.out.alloc HB.out.size (Obj.cells #[.string ⟨p.nm.toArray⟩, .slice a2 M c2] 45))
      clear c0 c1 ht hpk hkp hM s3
      cases hnm : nmB p.nm with
      | false =>
        have HR := Lib.hid (HNO.out (by rw [parB, hnm]; rfl))
        have HNM := Lib.hid hnm
        clear hnm hall
        go_wp2_with fail
        refine (nmv p.nm false _ s1 HNM).mono ?_
        rintro e w1 ⟨rfl, rfl⟩
        go_wp2
        go_ret
        exact ⟨ret_b HR.out, BA.out⟩
      | true =>
        have HNM := Lib.hid hnm
        by_cases h0 : M = 0
        · have HR := Lib.hid (HNO.out (by rw [parB, hnm, HM.out, h0]; rfl))
          subst h0
          clear hnm hall
          go_wp2_with fail
          refine (nmv p.nm true _ s1 HNM).mono ?_
          rintro e w1 ⟨rfl, rfl⟩
          go_wp2
          go_ret
          exact ⟨ret_b HR.out, BA.out⟩
        · obtain ⟨b2, off2, c2', hf, hb2, hc2⟩ := HT.out.form (by rw [HM.out]; omega)
          obtain ⟨rfl, -, rfl⟩ : a2 = some ⟨b2, off2, none⟩ ∧ M = p.vs.length ∧ c2 = c2' := by
            injection hf with q1 q2 q3; exact ⟨q1, by rw [HM.out], q3⟩
          have HC2 := Lib.hid hc2
          have x0 : ((M : Int) == 0) = false := beq_eq_false_iff_ne.2 (by omega)
          have CA := Lib.hid (Cs.new wr [.string ⟨p.nm.toArray⟩, .slice (some ⟨b2, off2, none⟩) M c2] 45)
          have HPB : Hid (p.vs.all valB = true → parB p = true) := Lib.hid (fun q => by rw [parB, hnm, q, HM.out, decide_eq_true (show 0 < M by omega)]; rfl)
          have HPN : Hid (p.vs.all valB = false → parB p = false) := Lib.hid (fun q => by rw [parB, q]; simp)
          have HCA := Lib.hid (HC.out.alloc (Obj.cells #[.string ⟨p.nm.toArray⟩, .slice (some ⟨b2, off2, none⟩) M c2] 45))
          clear hnm hf hc2 h0
          go_wp2_with fail
          refine (nmv p.nm true _ s1 HNM).mono ?_
          rintro e w1 ⟨rfl, rfl⟩
          go_wp2
          go_loopw [5] (fun i wx => ∃ j : Nat, j ≤ M ∧ i = .int .i64 j ∧ Hid ((p.vs.take j).all valB = true) ∧ wx = wr.alloc (Obj.cells #[.string ⟨p.nm.toArray⟩, .slice (some ⟨b2, off2, none⟩) M c2] 45)) (fun i _ => M - (intOf i).toNat)
          case atStart => exact ⟨0, Nat.zero_le _, rfl, Lib.hid rfl, rfl⟩
          case round =>
            obtain ⟨j, hj, rfl, hvall, rfl⟩ := hrel
            by_cases hjt : j < M
            · have hjv : j < p.vs.length := by rw [HM.out]; exact hjt
              have f0 := (BA.out.cell (p := ⟨b2, off2 + j, none⟩) hb2).trans (HC2.out j hjv)
              obtain ⟨v, hvj⟩ : ∃ v, p.vs[j]'hjv = v := ⟨_, rfl⟩
              rw [hvj] at f0
              have Z4 := S3.out v (hvj ▸ List.getElem_mem hjv)
              have HVX : Hid (valB v = true → (p.vs.take (j + 1)).all valB = true) := Lib.hid (fun q => val_snoc p.vs j hjv hvall.out (by rw [hvj]; exact q))
              have HVN : Hid (valB v = false → false = r) := Lib.hid (fun q => HNO.out (HPN.out (val_no p.vs j hjv (by rw [hvj]; exact q))))
              clear hvj hjv hvall
              obtain ⟨cv, hcv⟩ : ∃ cv, clB true v = cv := ⟨_, rfl⟩
              have HCV := Lib.hid hcv
              rw [cl_val] at hcv
              cases cv with
              | false =>
                have HR := Lib.hid (HVN.out hcv)
                clear hcv
                go_wp2_with fail
                refine (clv v true false _ Z4 HCV).mono ?_
                rintro e w1 ⟨rfl, rfl⟩
                go_wp2
                go_ret
                exact ⟨ret_b HR.out, BA.out⟩
              | true =>
                have HR := Lib.hid (HVX.out hcv)
                clear hcv
                go_wp2_with fail
                refine (clv v true true _ Z4 HCV).mono ?_
                rintro e w1 ⟨rfl, rfl⟩
                go_wp2
                go_roundw
                case rel => exact ⟨j + 1, by omega, by go_num, HR, trivial⟩
                case measure => simp [intOf]; omega
            · have HPP := Lib.hid (HNX.out (HPB.out (by
                have := hvall.out
                rwa [List.take_of_length_le (by rw [HM.out]; omega)] at this)))
              clear hvall hall
              go_wp2
              go_roundw
              case rel => exact ⟨k + 1, by omega, by go_num, HPP, HCA.out, BA.out⟩
              case measure => simp [intOf]; omega
    · have HR : Hid (true = r) := Lib.hid (by
        rw [← hR.out]
        have := hall.out
        rw [List.take_of_length_le (by rw [hN.out]; omega)] at this
        exact this.symm)
      clear hall
      go_wp2
      go_ret
      exact ⟨ret_b HR.out, HB.out⟩
theorem rln_to (nm vl : List UInt8) (pv : Value) (ps : List PV) (r : Bool) (w : World) (h1 : nm.length ≤ 1000000) (h2 : vl.length ≤ 1000000) (hp : ParsV w pv ps) (hlen : ps.length ≤ 1000000) (hsm : ∀ p ∈ ps, smlP p) (hR : Hid (lnB ⟨nm, ps, vl⟩ = r)) :
    Calls Try.prog 21 #[.agg #[.string ⟨nm.toArray⟩, pv, .string ⟨vl.toArray⟩]] w (KlQ r w) := by
  have hR := hR.out
  rw [lnB] at hR
  simp only at hR
  cases q1 : nmB nm with
  | false =>
    rw [q1] at hR
    have : r = false := by rw [← hR]; rfl
    subst this
    exact rln_1 nm vl pv w h1 (Lib.hid q1)
  | true =>
    cases q2 : plnB vl with
    | false =>
      rw [q1, q2] at hR
      have : r = false := by rw [← hR]; rfl
      subst this
      exact rln_2 nm vl pv w h1 h2 (Lib.hid q1) (Lib.hid (by rw [cl_pln]; exact q2))
    | true =>
      rw [q1, q2, Bool.true_and, Bool.true_and] at hR
      cases ps with
      | nil =>
        have : r = true := by rw [← hR]; rfl
        subst this
        obtain ⟨a, c, rfl⟩ := hp.nil
        exact rln_3 nm vl a c w h1 h2 (Lib.hid q1) (Lib.hid (by rw [cl_pln]; exact q2))
      | cons p ps =>
        obtain ⟨b, off, c, rfl, hb, hc⟩ := hp.form (by simp)
        exact rln_4 nm vl b off c _ (p :: ps) r w h1 h2 (Lib.hid q1) (Lib.hid (by rw [cl_pln]; exact q2)) (Lib.hid rfl) hlen hb (Lib.hid hc) (Lib.hid hsm) (Lib.hid hR)
end Lin
end Go.Proofs.Ytdakpncfophjnaa
