/-
  Contracts of package line: slices.Clone of texts.
-/
import Derived.Test.YtdakpncfophjnaaLinT
import Derived.Test.YtdakpncfophjnaaBdC
import Derived.Lib.LazyBuf
import Derived.Laws.OwnMore
namespace Go.Proofs.Ytdakpncfophjnaa
open Go.RowKit
namespace Lin
open CutB Cel
open Opn (TxtV)
open Rws (RowS)
set_option maxHeartbeats 3200000 in
set_option maxRecDepth 100000 in
theorem cln_some (b off n c : Nat) (L : List (List UInt8)) (w : World) (hn : n = L.length) (hL : L.length ≤ 1000000) (hc : Hid (∀ (j : Nat) (hj : j < L.length), w.cell? ⟨b, off + j, none⟩ = some (.string ⟨(L[j]).toArray⟩))) :
    Calls Try.prog 46 #[.slice (some ⟨b, off, none⟩) n c] w fun e w' => ∃ v, e = .returned v ∧ RowS w.heap.size w' v L ∧ Below w.heap.size w w' := by
  obtain ⟨i0, hi0, hz0, hz1, hz2⟩ := info_parts Esc.is
  subst hn
  have hb : ∀ j u, (L.map Opn.sv)[j]? = some u → w.cell? ((⟨b, off, none⟩ : Addr).add j) = some u := fun j u hj => by
    rw [List.getElem?_map] at hj
    cases h : L[j]? with
    | none => rw [h] at hj; cases hj
    | some x =>
      rw [h] at hj
      obtain rfl := Option.some.inj hj
      obtain ⟨hj', rfl⟩ := List.getElem?_eq_some_iff.1 h
      rw [show (⟨b, off, none⟩ : Addr).add j = ⟨b, off + j, none⟩ from by simp [Addr.add]]
      exact hc.out j hj'
  have HB := Lib.hid hb
  have nl := fun (W : World) => Lib.run_eql_slice_nil (P := Try.prog) W 32 9 (some ⟨b, off, none⟩) L.length c 0 0 Try.underlying32
  clear hb
  go_enter Try.func46, Try.ntmps46
  go_wp2_with (at_builtin; refine wpList_append_own _ rfl _ _ 32 rfl w.heap.size 9 i0 (.string ⟨#[]⟩) 1 16 (by kernel_rfl) hi0 hz0 hz1 hz2 rfl (by decide) _ 0 [] rfl (World.ownsRow_made w #[] 0 (Nat.le_refl _) (by decide) rfl) ⟨b, off, none⟩ L.length c (L.map Opn.sv) rfl ?c1 ?c2 ?c3 ?c4 ?c5 ?c6 ?_)
  case c1 => simp
  case c2 => exact fun j u hj => (World.grownBy_alloc w _ none).cell (HB.out j u hj) (by simp)
  case c3 =>
    intro u hu
    obtain ⟨t, _, rfl⟩ := List.mem_map.1 hu
    rfl
  case c4 => unfold maxLen; omega
  case c5 => omega
  case c6 => simp
  intro v' w5 r5 g5 _
  have hbw : Below w.heap.size w w5 := ((Below.refl w.heap.size w).alloc (Nat.le_refl _) _).grown g5 (by simp) (fun k hk => ((World.ownsRow_made (base := w.heap.size) (e := 9) (size := 1) w #[] 0 (Nat.le_refl _) (by decide) rfl).lt k hk).1)
  have R5 : Hid (RowS w.heap.size w5 v' L) := Lib.hid (by first | exact r5 | (unfold RowS; simpa using r5))
  clear r5 g5 nl HB
  go_wp2
  go_ret
  exact ⟨_, rfl, R5.out, hbw⟩
def smN (a b : List UInt8) : Bool := decide (a.length = b.length ∧ Wrd.smL a = Wrd.smL b)
def pmL (N : List UInt8) : List PV → Option (List (List UInt8))
  | [] => none
  | p :: ps => if smN p.nm N = true then some p.vs else pmL N ps
theorem pm_go (N : List UInt8) : ∀ (ps : List PV) (k : Nat) (hk : k < ps.length), (ps.take k).all (fun p => !smN p.nm N) = true → (smN ps[k].nm N = true → pmL N ps = some ps[k].vs)
  | [], _, hk, _ => by simp at hk
  | p :: ps, 0, _, _ => fun h => by rw [pmL, if_pos (by simpa using h)]; rfl
  | p :: ps, k + 1, hk, h => fun h2 => by
    rw [List.take_succ_cons, List.all_cons, Bool.and_eq_true] at h
    rw [pmL, if_neg (by have := h.1; intro q; rw [q] at this; cases this)]
    exact pm_go N ps k (by simpa using hk) h.2 (by simpa using h2)
theorem pm_no (N : List UInt8) : ∀ (ps : List PV), ps.all (fun p => !smN p.nm N) = true → pmL N ps = none
  | [], _ => rfl
  | p :: ps, h => by
    rw [List.all_cons, Bool.and_eq_true] at h
    rw [pmL, if_neg (by have := h.1; intro q; rw [q] at this; cases this)]
    exact pm_no N ps h.2
def PmQ (o : Option (List (List UInt8))) (w : World) (e : Ending) (w' : World) : Prop := ∃ v b, e = .returned (.tuple #[v, .bool b]) ∧ Hid (match o with | none => b = false ∧ v = .slice none 0 0 | some vs => b = true ∧ TxtV w' v vs) ∧ Below w.heap.size w w'
set_option maxHeartbeats 6400000 in
set_option maxRecDepth 100000 in
theorem lpm_4 (nm vl : List UInt8) (b off c : Nat) (ps : List PV) (s : ByteArray) (N : List UInt8) (w : World) (hs : s.size ≤ 1000) (hS : Hid (s.data.toList = N))
    (hbl : b < w.heap.size) (hp : Hid (∀ (j : Nat) (hj : j < ps.length), ∃ sv, w.cell? ⟨b, off + j * 2, none⟩ = some (.string ⟨(ps[j]).nm.toArray⟩) ∧ w.cell? ⟨b, off + j * 2 + 1, none⟩ = some sv ∧ TxtV w sv (ps[j]).vs)) (hlen : ps.length ≤ 1000000) (hsm : Hid (∀ p ∈ ps, p.nm.length ≤ 1000 ∧ 0 < p.vs.length ∧ p.vs.length ≤ 1000000)) :
    Calls Try.prog 16 #[.agg #[.string ⟨nm.toArray⟩, .slice (some ⟨b, off, none⟩) ps.length c, .string ⟨vl.toArray⟩], .string s] w (PmQ (pmL N ps) w) := by
  obtain ⟨M, hM⟩ : ∃ M, ps.length = M := ⟨_, rfl⟩
  have HM := Lib.hid hM
  rw [hM] at hlen ⊢
  clear hM
  go_enter Try.func16, Try.ntmps16
  go_wp2
  go_loopw [11] (fun i wr => ∃ k : Nat, k ≤ M ∧ i = .int .i64 k ∧ Hid ((ps.take k).all (fun p => !smN p.nm N) = true) ∧ Below w.heap.size w wr) (fun i _ => M - (intOf i).toNat)
  case atStart => exact ⟨0, Nat.zero_le _, rfl, Lib.hid rfl, (Below.refl _ _).alloc (Nat.le_refl _) _⟩
  case round =>
    obtain ⟨k, hk, rfl, hall, hb⟩ := hrel
    by_cases hlt : k < M
    · have hkp : k < ps.length := by rw [HM.out]; exact hlt
      obtain ⟨sv, c0, c1, ht⟩ := hp.out k hkp
      obtain ⟨p, hpk⟩ : ∃ p, ps[k]'hkp = p := ⟨_, rfl⟩
      obtain ⟨s1, s2, s3⟩ := hsm.out p (hpk ▸ List.getElem_mem hkp)
      have HY : Hid (smN p.nm N = true → pmL N ps = some p.vs) := Lib.hid (fun q => by rw [← hpk]; exact pm_go N ps k hkp hall.out (by rw [hpk]; exact q))
      have HNX : Hid (smN p.nm N = false → (ps.take (k + 1)).all (fun p => !smN p.nm N) = true) := Lib.hid (fun q => by
        rw [List.take_succ_eq_append_getElem hkp, List.all_append, hall.out, List.all_cons, hpk, q]; rfl)
      rw [hpk] at c0 ht
      obtain ⟨b2, off2, c2, rfl, hb2, hc2⟩ := ht.form s2
      have d0 := (hb.cell (p := ⟨b, off + k * 2, none⟩) hbl).trans c0
      have d1 := (hb.cell (p := ⟨b, off + k * 2 + 1, none⟩) hbl).trans c1
      have HB := Lib.hid hb
      have HC2 := Lib.hid hc2
      have Z3 : Hid ((⟨p.nm.toArray⟩ : ByteArray).size ≤ 1000) := Lib.hid s1
      have S3 := Lib.hid s3
      obtain ⟨K, hK⟩ : ∃ K, p.vs.length = K := ⟨_, rfl⟩
      have HK := Lib.hid hK
      rw [hK] at d1
      clear c0 c1 ht hpk hkp s3 hb hc2 hall s1 s2 hK
      cases hsn : smN p.nm N with
      | false =>
        have HN := Lib.hid (HNX.out hsn)
        have HS : Hid (decide (p.nm.length = N.length ∧ Wrd.smL p.nm = Wrd.smL N) = false) := Lib.hid hsn
        clear hsn
        go_wp2_with fail
        refine (Wrd.same_to _ s p.nm N _ _ false _ Z3.out hs (Lib.hid rfl) hS (Lib.hid rfl) (Lib.hid rfl) HS).mono ?_
        rintro e w3 ⟨rfl, b3⟩
        have B3 := Lib.hid (bstep (HB.out.alloc HB.out.size _) b3)
        clear b3
        go_wp2
        go_roundw
        case rel => exact ⟨k + 1, by omega, by go_num, HN, B3.out⟩
        case measure => simp [intOf]; omega
      | true =>
        have HO := Lib.hid (HY.out hsn)
        have HS : Hid (decide (p.nm.length = N.length ∧ Wrd.smL p.nm = Wrd.smL N) = true) := Lib.hid hsn
        have CP := Lib.hid (Cs.new wr [.string ⟨p.nm.toArray⟩, .slice (some ⟨b2, off2, none⟩) K c2] 45)
        clear hsn
        go_wp2_with fail
        refine (Wrd.same_to _ s p.nm N _ _ true _ Z3.out hs (Lib.hid rfl) hS (Lib.hid rfl) (Lib.hid rfl) HS).mono ?_
        rintro e w3 ⟨rfl, b3⟩
        have B3 := Lib.hid (bstep (HB.out.alloc HB.out.size _) b3)
        have z1 := ((CP.out.below b3).2 1 _ rfl).1
        clear b3
        go_wp2_with fail
        refine (cln_some b2 off2 K c2 p.vs _ HK.out.symm S3.out (Lib.hid (fun j hj => (B3.out.cell (p := ⟨b2, off2 + j, none⟩) hb2).trans (HC2.out j hj)))).mono ?_
        rintro e w4 ⟨v, rfl, hv, b4⟩
        have HV := Lib.hid hv.txt
        have B4 := Lib.hid (bstep B3.out b4)
        clear hv b4
        go_wp2
        go_ret2
        exact ⟨_, _, rfl, Lib.hid (by rw [HO.out]; exact ⟨rfl, HV.out⟩), B4.out⟩
    · have HO : Hid (pmL N ps = none) := Lib.hid (pm_no N ps (by
        have := hall.out
        rw [List.take_of_length_le (by rw [HM.out]; omega)] at this
        exact this))
      go_wp2
      go_ret2
      exact ⟨_, _, rfl, Lib.hid (by rw [HO.out]; exact ⟨rfl, rfl⟩), hb⟩
end Lin
end Go.Proofs.Ytdakpncfophjnaa
