/-
  Contracts of package line: Text of whatever line.
-/
import Derived.Test.YtdakpncfophjnaaBdAB
import Derived.Test.YtdakpncfophjnaaBldK
namespace Go.Proofs.Ytdakpncfophjnaa
open Go.RowKit
namespace Lin
open CutB Cel
open Opn (TxtV)
abbrev IsB (b : Nat) (P : List UInt8) (w : World) : Prop := Lib.IsBuilder 69 5 b b (Lib.byteCells P) w
theorem ib_below {b : Nat} {P : List UInt8} {w w' : World} (h : IsB b P w) (hb : Below w.heap.size w w') : IsB b P w' := by
  have lt : ∀ {o : Obj}, w.heap[b]? = some o → b < w.heap.size := fun h => (Array.getElem?_eq_some_iff.1 h).1
  rcases h with h | h
  · obtain ⟨h1, v, h2, h3, h4⟩ := h
    exact Or.inl ⟨h1, v, by rw [hb.block b (lt h2)]; exact h2, Esc.owns_below h3 hb, h4⟩
  · obtain ⟨h1, v, h2, h3, h4⟩ := h
    exact Or.inr ⟨h1, v, by rw [hb.block b (lt h2)]; exact h2, Esc.owns_below h3 hb, h4⟩
theorem ps_app : ∀ (a b : List PV), psT (a ++ b) = psT a ++ psT b
  | [], _ => rfl
  | p :: a, b => by rw [List.cons_append, psT, psT, ps_app a b, List.append_assoc]
theorem ps_snoc (ps : List PV) (k : Nat) (hk : k < ps.length) : psT (ps.take (k + 1)) = psT (ps.take k) ++ parT ps[k] := by
  rw [List.take_succ_eq_append_getElem hk, ps_app, psT, psT, List.append_nil]
theorem ps_len (ps : List PV) (k : Nat) : (psT (ps.take k)).length ≤ (psT ps).length := by
  have := congrArg List.length (ps_app (ps.take k) (ps.drop k))
  rw [List.take_append_drop, List.length_append] at this
  omega
def mkC (j : Nat) : UInt8 := if j = 0 then 61 else 44
theorem vs_app : ∀ (m : UInt8) (a b : List (List UInt8)), vsT m (a ++ b) = vsT m a ++ vsT (if a = [] then m else 44) b
  | m, [], b => by simp [vsT]
  | m, v :: a, b => by
    have e : (if a = [] then (44 : UInt8) else 44) = 44 := by split <;> rfl
    rw [List.cons_append, vsT, vsT, vs_app 44 a b, e, if_neg (by simp)]
    simp
theorem vs_snoc (vs : List (List UInt8)) (j : Nat) (hj : j < vs.length) : vsT 61 (vs.take (j + 1)) = vsT 61 (vs.take j) ++ (mkC j :: valT vs[j]) := by
  rw [List.take_succ_eq_append_getElem hj, vs_app, vsT, vsT, List.append_nil]
  have e : (if vs.take j = [] then (61 : UInt8) else 44) = mkC j := by
    rw [mkC]
    by_cases h : j = 0
    · subst h; simp
    · rw [if_neg h, if_neg (by intro q; have := congrArg List.length q; rw [List.length_take] at this; simp only [List.length_nil] at this; omega)]
  rw [e]
theorem vs_len (vs : List (List UInt8)) (j : Nat) : (vsT 61 (vs.take j)).length ≤ (vsT 61 vs).length := by
  have := congrArg List.length (vs_app 61 (vs.take j) (vs.drop j))
  rw [List.take_append_drop, List.length_append] at this
  omega
theorem par_len (ps : List PV) (k : Nat) (hk : k < ps.length) : (psT (ps.take k)).length + (parT ps[k]).length ≤ (psT ps).length := by
  have h1 := ps_snoc ps k hk
  have h2 := ps_len ps (k + 1)
  rw [h1, List.length_append] at h2
  exact h2
set_option maxHeartbeats 3200000 in
set_option maxRecDepth 100000 in
theorem ltx_no (nm vl : List UInt8) (pv : Value) (ps : List PV) (w : World) (h1 : nm.length ≤ 1000000) (h2 : vl.length ≤ 1000000) (hp : ParsV w pv ps) (hlen : ps.length ≤ 1000000) (hsm : ∀ p ∈ ps, smlP p) (hE : Hid (lnE ⟨nm, ps, vl⟩ = 18)) :
    Calls Try.prog 14 #[.agg #[.string ⟨nm.toArray⟩, pv, .string ⟨vl.toArray⟩]] w fun x w' => x = .returned (.tuple #[.string ⟨#[]⟩, .int .i64 18]) ∧ Below w.heap.size w w' := by
  obtain ⟨n, a, c, rfl⟩ : ∃ n a c, pv = .slice a n c := by obtain ⟨a, n, c, rfl, _⟩ := hp; exact ⟨n, a, c, rfl⟩
  have HP := Lib.hid hp
  clear hp
  go_enter Try.func14, Try.ntmps14
  go_wp2_with fail
  refine (lchk_to nm vl _ ps 18 _ h1 h2 (HP.out.below ((Below.refl _ _).alloc (Nat.le_refl _) _)) hlen hsm hE).mono ?_
  rintro e w1 ⟨rfl, b1⟩
  go_wp2
  go_ret2
  exact ⟨rfl, bstep ((Below.refl w.heap.size w).alloc (Nat.le_refl _) _) b1⟩
theorem cat1 (x : UInt8) (l : List UInt8) : ((⟨#[x]⟩ : ByteArray) ++ ⟨l.toArray⟩).size = l.length + 1 := by
  have : (⟨#[x]⟩ : ByteArray) ++ ⟨l.toArray⟩ = ⟨(x :: l).toArray⟩ := Rws.bapp [x] l
  rw [this]
  show (x :: l).length = _
  simp
theorem cat1_data (x : UInt8) (l : List UInt8) : ((⟨#[x]⟩ : ByteArray) ++ ⟨l.toArray⟩).data.toList = x :: l := by
  have : (⟨#[x]⟩ : ByteArray) ++ ⟨l.toArray⟩ = ⟨(x :: l).toArray⟩ := Rws.bapp [x] l
  rw [this]
/-- A block of other cells stands when the builder is written. -/
theorem kept_cell {b q : Nat} {w w' : World} {cs : Array Value} {t : TypeId} (hk : Lib.OthersKept 5 (some b) w w') (h : w.heap[q]? = some (.cells cs t (0, 0))) (hq : q ≠ b) (ht : t ≠ 5) (j : Nat) : w'.cell? ⟨q, j, none⟩ = cs[j]? :=
  Lib.cell_of_heap (hk q _ h (fun e => hq (Option.some.inj e)) (fun c fz e => ht (by injection e))) j
set_option maxHeartbeats 25600000 in
set_option maxRecDepth 100000 in
theorem ltx_4 (nm vl : List UInt8) (b off c : Nat) (ps : List PV) (T : List UInt8) (w : World) (h1 : nm.length ≤ 1000000) (h2 : vl.length ≤ 1000000)
    (hbl : b < w.heap.size) (hp : Hid (∀ (j : Nat) (hj : j < ps.length), ∃ sv, w.cell? ⟨b, off + j * 2, none⟩ = some (.string ⟨(ps[j]).nm.toArray⟩) ∧ w.cell? ⟨b, off + j * 2 + 1, none⟩ = some sv ∧ TxtV w sv (ps[j]).vs)) (hpv : Hid (ParsV w (.slice (some ⟨b, off, none⟩) ps.length c) ps)) (hlen : ps.length ≤ 1000000) (hsm : Hid (∀ p ∈ ps, smlP p))
    (hbig : Hid ((psT ps).length ≤ 500000000)) (hT : Hid (lineF ⟨nm, ps, vl⟩ = T)) (hE : Hid (lnE ⟨nm, ps, vl⟩ = 0)) :
    Calls Try.prog 14 #[.agg #[.string ⟨nm.toArray⟩, .slice (some ⟨b, off, none⟩) ps.length c, .string ⟨vl.toArray⟩]] w fun x w' => x = .returned (.tuple #[.string ⟨T.toArray⟩, .int .i64 0]) ∧ Below w.heap.size w w' := by
  have HPV := Lib.hid (hpv.out.below ((Below.refl w.heap.size w).alloc (Nat.le_refl _) (Obj.cells #[.string ⟨nm.toArray⟩, .slice (some ⟨b, off, none⟩) ps.length c, .string ⟨vl.toArray⟩] 24)))
  have C0 := Lib.hid (Cs.new w [.string ⟨nm.toArray⟩, .slice (some ⟨b, off, none⟩) ps.length c, .string ⟨vl.toArray⟩] 24)
  obtain ⟨N, hN⟩ : ∃ N, ps.length = N := ⟨_, rfl⟩
  have HN := Lib.hid hN
  rw [hN] at HPV C0 ⊢
  have hlen' : N ≤ 1000000 := by omega
  have HL := Lib.hid hlen
  have Z1 : Hid ((⟨nm.toArray⟩ : ByteArray).size = nm.length) := Lib.hid rfl
  have H1 := Lib.hid h1
  have H2 := Lib.hid h2
  clear hN hlen hpv
  go_enter Try.func14, Try.ntmps14
  go_wp2_with fail
  refine (lchk_to nm vl _ ps 0 _ h1 h2 HPV.out HL.out hsm.out hE).mono ?_
  rintro e w1 ⟨rfl, b1⟩
  have C1 := Lib.hid (C0.out.below b1)
  have B1 := Lib.hid (bstep ((Below.refl w.heap.size w).alloc (Nat.le_refl _) _) b1)
  have gq : w.heap.size < w1.heap.size := C1.out.1
  have z0 := (C1.out.2 0 _ rfl).1
  clear b1 C0 HPV h1 h2
  go_wp2_with fail
  refine (BldK.wsk_to w1.heap.size w1.heap.size [] _ _ (Bld.fresh w1) (by have := Z1.out; have := H1.out; show 0 + (⟨nm.toArray⟩ : ByteArray).size ≤ 1000000000; omega) (by simp)).mono ?_
  rintro e w2 ⟨rfl, ib, b2, k2⟩
  have IB : Hid (IsB w1.heap.size nm w2) := Lib.hid (by simpa using ib)
  have B2 : Hid (Below w1.heap.size w1 w2) := Lib.hid (((Below.refl w1.heap.size w1).alloc (Nat.le_refl _) _).trans b2)
  have z1 := (B2.out.cell (p := ⟨w.heap.size, 1, none⟩) gq).trans (C1.out.2 1 _ rfl).1
  clear ib b2 k2 z0
  go_wp2
  go_loopw [22] (fun i wr => ∃ k : Nat, k ≤ N ∧ i = .int .i64 k ∧ IsB w1.heap.size (nm ++ psT (ps.take k)) wr ∧ Below w1.heap.size w1 wr) (fun i _ => N - (intOf i).toNat)
  case atStart => exact ⟨0, Nat.zero_le _, rfl, by simpa [psT] using IB.out, B2.out⟩
  case round =>
    obtain ⟨k, hk, rfl, hib, hb⟩ := hrel
    obtain ⟨wo, rfl⟩ : ∃ wo : World, wo = wr := ⟨_, rfl⟩
    have HB := Lib.hid hb
    have HIB := Lib.hid hib
    clear hb hib z1 IB B2
    by_cases hlt : k < N
    · have hkp : k < ps.length := by rw [HN.out]; exact hlt
      obtain ⟨sv, c0, c1, ht⟩ := hp.out k hkp
      obtain ⟨p, hpk⟩ : ∃ p, ps[k]'hkp = p := ⟨_, rfl⟩
      rw [hpk] at c0 ht
      obtain ⟨s1, s2, s3⟩ := hsm.out p (hpk ▸ List.getElem_mem hkp)
      have HSN : Hid (psT (ps.take (k + 1)) = psT (ps.take k) ++ parT p) := Lib.hid (by rw [ps_snoc ps k hkp, hpk])
      have HLN : Hid ((psT (ps.take k)).length + (parT p).length ≤ 500000000) := Lib.hid (by have := par_len ps k hkp; rw [hpk] at this; have := hbig.out; omega)
      have hb0 := B1.out.trans (HB.out.mono B1.out.size)
      have d0 := (hb0.cell (p := ⟨b, off + k * 2, none⟩) hbl).trans c0
      have d1 := (hb0.cell (p := ⟨b, off + k * 2 + 1, none⟩) hbl).trans c1
      have hne : 0 < p.vs.length := by
        have h1 := hE.out
        rw [lnE] at h1
        cases h2 : lnB ⟨nm, ps, vl⟩ with
        | false => rw [h2] at h1; exact absurd h1 (by decide)
        | true =>
          rw [lnB, Bool.and_eq_true, Bool.and_eq_true] at h2
          have h3 := List.all_eq_true.1 h2.2.2 p (hpk ▸ List.getElem_mem hkp)
          rw [parB, Bool.and_eq_true, Bool.and_eq_true] at h3
          exact of_decide_eq_true h3.2.1
      obtain ⟨b2, off2, c2, rfl, hb2, hc2⟩ := ht.form hne
      have HC2 := Lib.hid hc2
      obtain ⟨M, hM⟩ : ∃ M, p.vs.length = M := ⟨_, rfl⟩
      have HMM := Lib.hid hM
      have hM1 : M ≤ 1000000 := by omega
      rw [hM] at d1
      have HS3 := Lib.hid s3
      have gq2 : w1.heap.size ≤ wo.heap.size := HB.out.size
      have ltb := Lib.hid (show w1.heap.size < wo.heap.size from by
        rcases HIB.out with h | h <;> exact h.lt)
      clear c0 c1 ht hpk hkp s3 hb0 hc2 hM hne s2
      go_wp2_with fail
      refine (BldK.wsk_to w1.heap.size w1.heap.size _ _ _ (ib_below HIB.out ((Below.refl _ _).alloc (Nat.le_refl _) _)) (by
        have := HLN.out
        have := H1.out
        have e := cat1 59 p.nm
        rw [List.length_append]
        omega) (by simp; omega)).mono ?_
      rintro e w3 ⟨rfl, ib, b3, k3⟩
      have hq : (wo.alloc (Obj.cells #[.string ⟨p.nm.toArray⟩, .slice (some ⟨b2, off2, none⟩) M c2] 45)).heap[wo.heap.size]? = some (Obj.cells #[.string ⟨p.nm.toArray⟩, .slice (some ⟨b2, off2, none⟩) M c2] 45 (0, 0)) := by
        show (wo.heap.push _)[wo.heap.size]? = some _
        exact Array.getElem?_push_size
      have z1 := kept_cell k3 hq (by have := ltb.out; omega) (by decide) 1
      have IB3 : Hid (IsB w1.heap.size (nm ++ psT (ps.take k) ++ 59 :: p.nm) w3) := Lib.hid (by
        have e := cat1_data 59 p.nm
        rw [e] at ib
        exact ib)
      have B3 : Hid (Below w1.heap.size w1 w3) := Lib.hid ((HB.out.alloc HB.out.size _).trans b3)
      have HPL : Hid ((nm ++ psT (ps.take k) ++ 59 :: p.nm).length + (vsT 61 p.vs).length ≤ 600000000) := Lib.hid (by
        have h0 := HLN.out
        have h1 := H1.out
        rw [parT] at h0
        simp only [List.length_append, List.length_cons] at h0 ⊢
        omega)
      obtain ⟨P, hP⟩ : ∃ P, nm ++ psT (ps.take k) ++ 59 :: p.nm = P := ⟨_, rfl⟩
      have HP := Lib.hid hP
      rw [hP] at IB3 HPL
      clear ib b3 k3 hq hP HIB HB d0 d1 ltb
      go_wp2
      go_loopw [8, 33] (fun mk i wr => ∃ j : Nat, j ≤ M ∧ mk = .int .u8 ((mkC j).toNat : Int) ∧ i = .int .i64 j ∧ IsB w1.heap.size (P ++ vsT 61 (p.vs.take j)) wr ∧ Below w1.heap.size w1 wr) (fun _ i _ => M - (intOf i).toNat)
      case atStart => exact ⟨0, Nat.zero_le _, rfl, rfl, by simpa [vsT] using IB3.out, B3.out⟩
      case round =>
        obtain ⟨j, hj, rfl, rfl, hib, hb⟩ := hrel
        have HB := Lib.hid hb
        have HIB := Lib.hid hib
        clear hb hib z1 IB3 B3
        by_cases hjt : j < M
        · have hjv : j < p.vs.length := by rw [HMM.out]; exact hjt
          have hb0 := B1.out.trans (HB.out.mono B1.out.size)
          have f0 := (hb0.cell (p := ⟨b2, off2 + j, none⟩) hb2).trans (HC2.out j hjv)
          obtain ⟨v, hvj⟩ : ∃ v, p.vs[j]'hjv = v := ⟨_, rfl⟩
          rw [hvj] at f0
          have Z4 : Hid ((⟨v.toArray⟩ : ByteArray).size ≤ 1000000) := Lib.hid (HS3.out v (hvj ▸ List.getElem_mem hjv))
          have HVS : Hid (vsT 61 (p.vs.take (j + 1)) = vsT 61 (p.vs.take j) ++ (mkC j :: valT v)) := Lib.hid (by rw [vs_snoc p.vs j hjv, hvj])
          have HVL : Hid (P.length + (vsT 61 (p.vs.take j)).length + 1 + (valT v).length ≤ 600000000) := Lib.hid (by
            have h1 := vs_len p.vs (j + 1)
            rw [vs_snoc p.vs j hjv, hvj] at h1
            simp only [List.length_append, List.length_cons] at h1
            have := HPL.out
            omega)
          clear hvj hjv hb0
          go_wp2_with fail
          refine (BldK.wbk_to w1.heap.size w1.heap.size _ (mkC j) _ HIB.out (by have := HVL.out; rw [List.length_append]; omega) HB.out.size).mono ?_
          rintro e w4 ⟨rfl, ib, b4, k4⟩
          have IB4 := Lib.hid ib
          have B4 := Lib.hid (HB.out.trans b4)
          clear ib b4 k4 HIB HB f0
          cases hq : qtB v with
          | true =>
            have HQ : Hid (SAny.hitA v [58, 59, 44] = true) := Lib.hid hq
            have HVT : Hid (valT v = 34 :: (v ++ [34])) := Lib.hid (by rw [valT, if_pos hq])
            clear hq
            have sz : (⟨v.toArray⟩ : ByteArray).size = v.length := rfl
            have hv6 : v.length ≤ 1000000 := Z4.out
            go_wp2_with fail
            refine (SAny.ca_any _ _ v [58, 59, 44] true _ sg3 Z4.out (Lib.hid rfl) HQ).mono ?_
            rintro e w5 ⟨rfl, b5⟩
            have IB5 := Lib.hid (ib_below IB4.out b5)
            have B5 := Lib.hid (B4.out.trans (b5.mono B4.out.size))
            clear b5 IB4 B4
            have eq : (⟨#[34]⟩ : ByteArray) ++ ⟨v.toArray⟩ ++ ⟨#[34]⟩ = ⟨(34 :: (v ++ [34])).toArray⟩ := ByteArray.ext (by apply Array.toList_inj.1; simp)
            have EQ := Lib.hid eq
            clear eq
            go_wp2_with fail
            refine (BldK.wsk_to w1.heap.size w1.heap.size (P ++ vsT 61 (p.vs.take j) ++ [mkC j]) _ _ IB5.out ?hl B5.out.size).mono ?_
            case hl =>
              have h0 := HVL.out
              rw [HVT.out] at h0
              rw [EQ.out]
              have h1 : ByteArray.size ⟨(34 :: (v ++ [34])).toArray⟩ = (34 :: (v ++ [34])).length := rfl
              rw [h1]
              simp only [List.length_append, List.length_cons, List.length_nil] at h0 ⊢
              omega
            rintro e w6 ⟨rfl, ib, b6, k6⟩
            have IB6 : Hid (IsB w1.heap.size (P ++ vsT 61 (p.vs.take (j + 1))) w6) := Lib.hid (by
              have e : P ++ vsT 61 (p.vs.take (j + 1)) = P ++ vsT 61 (p.vs.take j) ++ [mkC j] ++ (⟨#[34]⟩ ++ ⟨v.toArray⟩ ++ ⟨#[34]⟩ : ByteArray).data.toList := by
                rw [HVS.out, HVT.out, EQ.out]
                simp only [List.append_assoc, List.cons_append, List.nil_append]
              rw [e]
              exact ib)
            have B6 := Lib.hid (B5.out.trans b6)
            clear ib b6 k6 IB5 B5 EQ sz hv6
            go_wp2
            go_roundw
            case rel => exact ⟨j + 1, by omega, rfl, by go_num, IB6.out, B6.out⟩
            case measure => simp [intOf]; omega
          | false =>
            have HQ : Hid (SAny.hitA v [58, 59, 44] = false) := Lib.hid hq
            have HVT : Hid (valT v = v) := Lib.hid (by rw [valT, if_neg (by rw [hq]; decide)])
            clear hq
            go_wp2_with fail
            refine (SAny.ca_any _ _ v [58, 59, 44] false _ sg3 Z4.out (Lib.hid rfl) HQ).mono ?_
            rintro e w5 ⟨rfl, b5⟩
            have IB5 := Lib.hid (ib_below IB4.out b5)
            have B5 := Lib.hid (B4.out.trans (b5.mono B4.out.size))
            clear b5 IB4 B4
            go_wp2_with fail
            refine (BldK.wsk_to w1.heap.size w1.heap.size (P ++ vsT 61 (p.vs.take j) ++ [mkC j]) ⟨v.toArray⟩ _ IB5.out (by
              have h0 := HVL.out
              rw [HVT.out] at h0
              show _ + v.length ≤ _
              simp only [List.length_append, List.length_cons, List.length_nil] at h0 ⊢
              omega) B5.out.size).mono ?_
            rintro e w6 ⟨rfl, ib, b6, k6⟩
            have IB6 : Hid (IsB w1.heap.size (P ++ vsT 61 (p.vs.take (j + 1))) w6) := Lib.hid (by
              rw [HVS.out, HVT.out]
              simpa using ib)
            have B6 := Lib.hid (B5.out.trans b6)
            clear ib b6 k6 IB5 B5
            go_wp2
            go_roundw
            case rel => exact ⟨j + 1, by omega, rfl, by go_num, IB6.out, B6.out⟩
            case measure => simp [intOf]; omega
        · have IB7 : Hid (IsB w1.heap.size (nm ++ psT (ps.take (k + 1))) wr) := Lib.hid (by
            have h := HIB.out
            rw [List.take_of_length_le (by rw [HMM.out]; omega), ← HP.out] at h
            rw [HSN.out, parT]
            simpa using h)
          clear HIB
          go_wp2
          go_roundw
          case rel => exact ⟨k + 1, by omega, by go_num, IB7.out, HB.out⟩
          case measure => simp [intOf]; omega
    · have HF : Hid (nm ++ psT (ps.take k) = nm ++ psT ps) := Lib.hid (by rw [List.take_of_length_le (by rw [HN.out]; omega)])
      have z2 := (HB.out.cell (p := ⟨w.heap.size, 2, none⟩) gq).trans (C1.out.2 2 _ rfl).1
      have s1 : (⟨vl.toArray⟩ : ByteArray).size = vl.length := rfl
      have h2 := H2.out
      go_wp2_with fail
      refine (BldK.wsk_to w1.heap.size w1.heap.size _ _ _ HIB.out (by
        have := hbig.out
        have := H1.out
        have := ps_len ps k
        rw [List.length_append]
        have e := cat1 58 vl
        omega) HB.out.size).mono ?_
      rintro e w3 ⟨rfl, ib, b3, k3⟩
      have IB3 : Hid (IsB w1.heap.size T w3) := Lib.hid (by
        have e : T = nm ++ psT (ps.take k) ++ 58 :: vl := by rw [HF.out, ← hT.out, lineF]; simp
        rw [e]
        simpa using ib)
      have B3 := Lib.hid (HB.out.trans b3)
      clear ib b3 k3
      go_wp2_with fail
      refine (Bld.str_to w1.heap.size w1.heap.size T _ IB3.out B3.out.size).mono ?_
      rintro e w4 ⟨rfl, b4⟩
      go_wp2
      go_ret2
      exact ⟨rfl, B1.out.trans ((B3.out.trans b4).mono B1.out.size)⟩
set_option maxHeartbeats 6400000 in
set_option maxRecDepth 100000 in
theorem ltx_3 (nm vl : List UInt8) (a : Option Addr) (c : Nat) (T : List UInt8) (w : World) (h1 : nm.length ≤ 1000000) (h2 : vl.length ≤ 1000000) (hpv : Hid (ParsV w (.slice a 0 c) [])) (hT : Hid (lineF ⟨nm, [], vl⟩ = T)) (hE : Hid (lnE ⟨nm, [], vl⟩ = 0)) :
    Calls Try.prog 14 #[.agg #[.string ⟨nm.toArray⟩, .slice a 0 c, .string ⟨vl.toArray⟩]] w fun x w' => x = .returned (.tuple #[.string ⟨T.toArray⟩, .int .i64 0]) ∧ Below w.heap.size w w' := by
  have HPV := Lib.hid (hpv.out.below ((Below.refl w.heap.size w).alloc (Nat.le_refl _) (Obj.cells #[.string ⟨nm.toArray⟩, .slice a 0 c, .string ⟨vl.toArray⟩] 24)))
  have C0 := Lib.hid (Cs.new w [.string ⟨nm.toArray⟩, .slice a 0 c, .string ⟨vl.toArray⟩] 24)
  have Z1 : Hid ((⟨nm.toArray⟩ : ByteArray).size = nm.length) := Lib.hid rfl
  have H1 := Lib.hid h1
  have H2 := Lib.hid h2
  clear hpv
  go_enter Try.func14, Try.ntmps14
  go_wp2_with fail
  refine (lchk_to nm vl _ [] 0 _ h1 h2 HPV.out (by simp) (by simp) hE).mono ?_
  rintro e w1 ⟨rfl, b1⟩
  have C1 := Lib.hid (C0.out.below b1)
  have B1 := Lib.hid (bstep ((Below.refl w.heap.size w).alloc (Nat.le_refl _) _) b1)
  have gq : w.heap.size < w1.heap.size := C1.out.1
  have z0 := (C1.out.2 0 _ rfl).1
  clear b1 C0 HPV h1 h2
  go_wp2_with fail
  refine (BldK.wsk_to w1.heap.size w1.heap.size [] _ _ (Bld.fresh w1) (by have := Z1.out; have := H1.out; show 0 + (⟨nm.toArray⟩ : ByteArray).size ≤ 1000000000; omega) (by simp)).mono ?_
  rintro e w2 ⟨rfl, ib, b2, k2⟩
  have IB : Hid (IsB w1.heap.size nm w2) := Lib.hid (by simpa using ib)
  have B2 : Hid (Below w1.heap.size w1 w2) := Lib.hid (((Below.refl w1.heap.size w1).alloc (Nat.le_refl _) _).trans b2)
  have z1 := (B2.out.cell (p := ⟨w.heap.size, 1, none⟩) gq).trans (C1.out.2 1 _ rfl).1
  clear ib b2 k2 z0
  go_wp2
  go_loopw [22] (fun i wr => i = .int .i64 0 ∧ IsB w1.heap.size nm wr ∧ Below w1.heap.size w1 wr) (fun _ _ => 0)
  case atStart => exact ⟨rfl, IB.out, B2.out⟩
  case round =>
    obtain ⟨rfl, hib, hb⟩ := hrel
    have HB := Lib.hid hb
    have HIB := Lib.hid hib
    clear hb hib z1 IB B2
    have z2 := (HB.out.cell (p := ⟨w.heap.size, 2, none⟩) gq).trans (C1.out.2 2 _ rfl).1
    have s1 : (⟨vl.toArray⟩ : ByteArray).size = vl.length := rfl
    have h2 := H2.out
    go_wp2_with fail
    refine (BldK.wsk_to w1.heap.size w1.heap.size _ _ _ HIB.out (by
      have := H1.out
      have e := cat1 58 vl
      omega) HB.out.size).mono ?_
    rintro e w3 ⟨rfl, ib, b3, k3⟩
    have IB3 : Hid (IsB w1.heap.size T w3) := Lib.hid (by
      have e : T = nm ++ 58 :: vl := by rw [← hT.out, lineF]; rfl
      rw [e]
      simpa using ib)
    have B3 := Lib.hid (HB.out.trans b3)
    clear ib b3 k3
    go_wp2_with fail
    refine (Bld.str_to w1.heap.size w1.heap.size T _ IB3.out B3.out.size).mono ?_
    rintro e w4 ⟨rfl, b4⟩
    go_wp2
    go_ret2
    exact ⟨rfl, B1.out.trans ((B3.out.trans b4).mono B1.out.size)⟩
theorem ltx_to (nm vl : List UInt8) (pv : Value) (ps : List PV) (T : List UInt8) (e : Int) (w : World) (h1 : nm.length ≤ 1000000) (h2 : vl.length ≤ 1000000) (hp : ParsV w pv ps) (hlen : ps.length ≤ 1000000) (hsm : ∀ p ∈ ps, smlP p) (hbig : (psT ps).length ≤ 500000000) (h : Hid (lnT ⟨nm, ps, vl⟩ = T ∧ lnE ⟨nm, ps, vl⟩ = e)) :
    Calls Try.prog 14 #[.agg #[.string ⟨nm.toArray⟩, pv, .string ⟨vl.toArray⟩]] w fun x w' => x = .returned (.tuple #[.string ⟨T.toArray⟩, .int .i64 e]) ∧ Below w.heap.size w w' := by
  obtain ⟨hT, hE⟩ := h.out
  cases hb : lnB ⟨nm, ps, vl⟩ with
  | false =>
    have hE' : lnE ⟨nm, ps, vl⟩ = 18 := by rw [lnE, if_neg (by rw [hb]; decide)]
    rw [lnT, if_neg (by rw [hb]; decide)] at hT
    rw [hE'] at hE
    subst hT hE
    exact ltx_no nm vl pv ps w h1 h2 hp hlen hsm (Lib.hid hE')
  | true =>
    have hE' : lnE ⟨nm, ps, vl⟩ = 0 := by rw [lnE, if_pos hb]
    rw [lnT, if_pos hb] at hT
    rw [hE'] at hE
    subst hE
    cases ps with
    | nil =>
      obtain ⟨a, c, rfl⟩ := hp.nil
      exact ltx_3 nm vl a c T w h1 h2 (Lib.hid hp) (Lib.hid hT) (Lib.hid hE')
    | cons p ps =>
      obtain ⟨b, off, c, rfl, hbb, hc⟩ := hp.form (by simp)
      exact ltx_4 nm vl b off c (p :: ps) T w h1 h2 hbb (Lib.hid hc) (Lib.hid hp) hlen (Lib.hid hsm) (Lib.hid hbig) (Lib.hid hT) (Lib.hid hE')
end Lin
end Go.Proofs.Ytdakpncfophjnaa
