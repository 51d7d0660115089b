/-
  Lines, for LineExact: TwinLine, slices.Clone, Param of whatever line; what Param hands back is the call's own.
-/
import Derived.Test.YtdakpncfophjnaaBdAJ
import Derived.Test.YtdakpncfophjnaaBdAG
namespace Go.Proofs.Ytdakpncfophjnaa
open Go.RowKit
namespace Lin
open CutB Cel
open Opn (TxtV)
open Rws (RowS)
set_option maxHeartbeats 3200000 in
set_option maxRecDepth 100000 in
theorem twl_0 (nm vl : ByteArray) (a : Option Addr) (c : Nat) (w : World) :
    Calls Try.prog 13 #[.agg #[.string nm, .slice a 0 c, .string vl]] w (TlQ nm vl [] w) := by
  have C0 := Lib.hid (Cs.alloc (Cs.alloc (Cs.new w [.string nm, .slice a 0 c, .string vl] 24) (Obj.cells #[.string ⟨#[]⟩, .slice none 0 0, .string ⟨#[]⟩] 24)) (Obj.cells #[.string nm, .slice none 0 0, .string vl] 24))
  go_enter Try.func13, Try.ntmps13
  go_wp2_with fail
  go_loopw [4] (fun i wr => i = .int .i64 0 ∧ TwK w nm vl (.slice a 0 c) (.slice none 0 0) [] wr) (fun _ _ => 0)
  case atStart =>
    refine ⟨rfl, C0.out, ?_, ?_, ParR.nil _ _, ?_⟩
    · have h := Cs.alloc (Cs.new (w.alloc (Obj.cells #[.string nm, .slice a 0 c, .string vl] 24)) [.string ⟨#[]⟩, .slice none 0 0, .string ⟨#[]⟩] 24) (Obj.cells #[.string nm, .slice none 0 0, .string vl] 24)
      rw [show (w.alloc (Obj.cells #[.string nm, .slice a 0 c, .string vl] 24)).heap.size = w.heap.size + 1 from by simp] at h
      exact h
    · have h := Cs.new ((w.alloc (Obj.cells #[.string nm, .slice a 0 c, .string vl] 24)).alloc (Obj.cells #[.string ⟨#[]⟩, .slice none 0 0, .string ⟨#[]⟩] 24)) [.string nm, .slice none 0 0, .string vl] 24
      rw [show ((w.alloc (Obj.cells #[.string nm, .slice a 0 c, .string vl] 24)).alloc (Obj.cells #[.string ⟨#[]⟩, .slice none 0 0, .string ⟨#[]⟩] 24)).heap.size = w.heap.size + 2 from by simp] at h
      exact h
    · exact (((Below.refl w.heap.size w).alloc (Nat.le_refl _) _).alloc (by simp) _).alloc (by simp; omega) _
  case round =>
    obtain ⟨rfl, hK⟩ := hrel
    have HK := Lib.hid hK
    have z1 := (hK.1.2 1 _ rfl).1
    have gq : w.heap.size < wr.heap.size := hK.1.1
    have a0 := (hK.2.1.2 0 _ rfl).1
    have b0 := (hK.2.1.2 0 _ rfl).2
    have a1 := (hK.2.1.2 1 _ rfl).1
    have b1 := (hK.2.1.2 1 _ rfl).2
    have a2 := (hK.2.1.2 2 _ rfl).1
    have b2 := (hK.2.1.2 2 _ rfl).2
    have d0 := (hK.2.2.1.2 0 _ rfl).1
    have d1 := (hK.2.2.1.2 1 _ rfl).1
    have d2 := (hK.2.2.1.2 2 _ rfl).1
    have g12 : w.heap.size + 1 ≠ w.heap.size + 2 := by omega
    have g21 : w.heap.size + 2 ≠ w.heap.size + 1 := by omega
    have HBf : Hid (Below w.heap.size w wr) := Lib.hid hK.2.2.2.2
    clear hK C0
    go_wp2
    refine bodyPost_ret (v := .agg #[.string nm, .slice none 0 0, .string vl]) (by simp (maxDischargeDepth := 9) [results, Try.results13, go_sem, a0, a1, a2]) rfl ⟨_, rfl, ParR.nil _ _, by repeat (first | with_reducible exact HBf.out | with_reducible refine Below.setCell ?_ (by show w.heap.size ≤ w.heap.size + 1; omega) _)⟩
theorem twl_to (nm vl : ByteArray) (pv : Value) (ps : List PV) (w : World) (hp : ParsV w pv ps) (h20 : ps.length ≤ 20) (hL : ∀ p ∈ ps, LightP p) :
    Calls Try.prog 13 #[.agg #[.string nm, pv, .string vl]] w (TlQ nm vl ps w) := by
  cases ps with
  | nil =>
    obtain ⟨a, c, rfl⟩ := hp.nil
    exact twl_0 nm vl a c w
  | cons p ps =>
    obtain ⟨b, off, c, rfl, hb, hc⟩ := hp.form (by simp)
    exact twl_4 nm vl b off c _ (p :: ps) w (Lib.hid rfl) h20 hb (Lib.hid hc) (Lib.hid hL)
set_option maxHeartbeats 3200000 in
set_option maxRecDepth 100000 in
theorem cln_nil (A : Option Addr) (c : Nat) (w : World) :
    Calls Try.prog 46 #[.slice A 0 c] w fun e w' => ∃ v, e = .returned v ∧ RowS w.heap.size w' v [] ∧ Below w.heap.size w w' := by
  obtain ⟨i0, hi0, hz0, hz1, hz2⟩ := info_parts Esc.is
  have nl := fun (W : World) => Lib.run_eql_slice_nil (P := Try.prog) W 32 9 A 0 c 0 0 Try.underlying32
  by_cases hA : A = none
  · subst hA
    go_enter Try.func46, Try.ntmps46
    go_wp2
    go_ret
    exact ⟨_, rfl, RowS.nil _ _, Below.refl _ _⟩
  · obtain ⟨ad, rfl⟩ : ∃ ad, A = some ad := Option.ne_none_iff_exists'.1 hA
    go_enter Try.func46, Try.ntmps46
    go_wp2_with (at_builtin; refine wpList_append_own _ rfl _ _ 32 rfl w.heap.size 9 i0 (.string ⟨#[]⟩) 1 16 (by kernel_rfl) hi0 hz0 hz1 hz2 rfl (by decide) _ 0 [] rfl (World.ownsRow_made w #[] 0 (Nat.le_refl _) (by decide) rfl) ad 0 c [] rfl rfl ?c2 ?c3 ?c4 ?c5 ?c6 ?_)
    case c2 => intro j u hj; simp at hj
    case c3 => intro u hu; simp at hu
    case c4 => unfold maxLen; omega
    case c5 => omega
    case c6 => simp
    intro v' w5 r5 g5 _
    have hbw : Below w.heap.size w w5 := ((Below.refl w.heap.size w).alloc (Nat.le_refl _) _).grown g5 (by simp) (fun k hk => ((World.ownsRow_made (base := w.heap.size) (e := 9) (size := 1) w #[] 0 (Nat.le_refl _) (by decide) rfl).lt k hk).1)
    have R5 : Hid (RowS w.heap.size w5 v' []) := Lib.hid (by first | exact r5 | (unfold RowS; simpa using r5))
    clear r5 g5 nl
    go_wp2
    go_ret
    exact ⟨_, rfl, R5.out, hbw⟩
theorem cln_to (A : Option Addr) (n c : Nat) (L : List (List UInt8)) (w : World) (hv : TxtV w (.slice A n c) L) (hL : L.length ≤ 1000000) :
    Calls Try.prog 46 #[.slice A n c] w fun e w' => ∃ v, e = .returned v ∧ RowS w.heap.size w' v L ∧ Below w.heap.size w w' := by
  cases L with
  | nil =>
    obtain ⟨A', c', e⟩ := hv.nil
    injection e with e1 e2 e3
    subst e2
    exact cln_nil A c w
  | cons x L =>
    obtain ⟨b, off, c', e, _, hc⟩ := hv.form (by simp)
    injection e with e1 e2 e3
    subst e1 e2
    exact cln_some b off _ c (x :: L) w rfl hL (Lib.hid hc)
/-- What Param hands back: texts of the call's own. -/
def PmO (o : Option (List (List UInt8))) (w : World) (e : Ending) (w' : World) : Prop := ∃ v b, e = .returned (.tuple #[v, .bool b]) ∧ Hid (match o with | none => b = false ∧ v = .slice none 0 0 | some vs => b = true ∧ RowS w.heap.size w' v vs) ∧ Below w.heap.size w w'
set_option maxHeartbeats 6400000 in
set_option maxRecDepth 100000 in
theorem lpo_4 (nm vl : List UInt8) (b off c : Nat) (ps : List PV) (s : ByteArray) (N : List UInt8) (w : World) (hs : s.size ≤ 1000) (hS : Hid (s.data.toList = N))
    (hbl : b < w.heap.size) (hp : Hid (∀ (j : Nat) (hj : j < ps.length), ∃ sv, w.cell? ⟨b, off + j * 2, none⟩ = some (.string ⟨(ps[j]).nm.toArray⟩) ∧ w.cell? ⟨b, off + j * 2 + 1, none⟩ = some sv ∧ TxtV w sv (ps[j]).vs)) (hlen : ps.length ≤ 1000000) (hsm : Hid (∀ p ∈ ps, p.nm.length ≤ 1000 ∧ p.vs.length ≤ 1000000)) :
    Calls Try.prog 16 #[.agg #[.string ⟨nm.toArray⟩, .slice (some ⟨b, off, none⟩) ps.length c, .string ⟨vl.toArray⟩], .string s] w (PmO (pmL N ps) w) := by
  obtain ⟨M, hM⟩ : ∃ M, ps.length = M := ⟨_, rfl⟩
  have HM := Lib.hid hM
  rw [hM] at hlen ⊢
  clear hM
  go_enter Try.func16, Try.ntmps16
  go_wp2
  go_loopw [11] (fun i wr => ∃ k : Nat, k ≤ M ∧ i = .int .i64 k ∧ Hid ((ps.take k).all (fun p => !smN p.nm N) = true) ∧ Below w.heap.size w wr) (fun i _ => M - (intOf i).toNat)
  case atStart => exact ⟨0, Nat.zero_le _, rfl, Lib.hid rfl, (Below.refl _ _).alloc (Nat.le_refl _) _⟩
  case round =>
    obtain ⟨k, hk, rfl, hall, hb⟩ := hrel
    by_cases hlt : k < M
    · have hkp : k < ps.length := by rw [HM.out]; exact hlt
      obtain ⟨sv, c0, c1, ht⟩ := hp.out k hkp
      obtain ⟨p, hpk⟩ : ∃ p, ps[k]'hkp = p := ⟨_, rfl⟩
      obtain ⟨s1, s3⟩ := hsm.out p (hpk ▸ List.getElem_mem hkp)
      have HY : Hid (smN p.nm N = true → pmL N ps = some p.vs) := Lib.hid (fun q => by rw [← hpk]; exact pm_go N ps k hkp hall.out (by rw [hpk]; exact q))
      have HNX : Hid (smN p.nm N = false → (ps.take (k + 1)).all (fun p => !smN p.nm N) = true) := Lib.hid (fun q => by
        rw [List.take_succ_eq_append_getElem hkp, List.all_append, hall.out, List.all_cons, hpk, q]; rfl)
      rw [hpk] at c0 ht
      obtain ⟨A2, c2, rfl⟩ := ht.slice
      have HT := Lib.hid ht
      have d0 := (hb.cell (p := ⟨b, off + k * 2, none⟩) hbl).trans c0
      have d1 := (hb.cell (p := ⟨b, off + k * 2 + 1, none⟩) hbl).trans c1
      have HB := Lib.hid hb
      have Z3 : Hid ((⟨p.nm.toArray⟩ : ByteArray).size ≤ 1000) := Lib.hid s1
      have S3 := Lib.hid s3
      obtain ⟨K, hK⟩ : ∃ K, p.vs.length = K := ⟨_, rfl⟩
      have HK := Lib.hid hK
      rw [hK] at d1 HT
      clear c0 c1 ht hpk hkp s3 hb hall s1 hK
      cases hsn : smN p.nm N with
      | false =>
        have HN := Lib.hid (HNX.out hsn)
        have HS : Hid (decide (p.nm.length = N.length ∧ Wrd.smL p.nm = Wrd.smL N) = false) := Lib.hid hsn
        clear hsn
        go_wp2_with fail
        refine (Wrd.same_to _ s p.nm N _ _ false _ Z3.out hs (Lib.hid rfl) hS (Lib.hid rfl) (Lib.hid rfl) HS).mono ?_
        rintro e w3 ⟨rfl, b3⟩
        have B3 := Lib.hid (bstep (HB.out.alloc HB.out.size _) b3)
        clear b3
        go_wp2
        go_roundw
        case rel => exact ⟨k + 1, by omega, by go_num, HN, B3.out⟩
        case measure => simp [intOf]; omega
      | true =>
        have HO := Lib.hid (HY.out hsn)
        have HS : Hid (decide (p.nm.length = N.length ∧ Wrd.smL p.nm = Wrd.smL N) = true) := Lib.hid hsn
        have CP := Lib.hid (Cs.new wr [.string ⟨p.nm.toArray⟩, .slice A2 K c2] 45)
        clear hsn
        go_wp2_with fail
        refine (Wrd.same_to _ s p.nm N _ _ true _ Z3.out hs (Lib.hid rfl) hS (Lib.hid rfl) (Lib.hid rfl) HS).mono ?_
        rintro e w3 ⟨rfl, b3⟩
        have B3 := Lib.hid (bstep (HB.out.alloc HB.out.size _) b3)
        have z1 := ((CP.out.below b3).2 1 _ rfl).1
        have s3w : w.heap.size ≤ w3.heap.size := B3.out.size
        clear b3
        go_wp2_with fail
        refine (cln_to A2 K c2 p.vs _ (HT.out.below B3.out) S3.out).mono ?_
        rintro e w4 ⟨v, rfl, hv, b4⟩
        have HV := Lib.hid (World.ownsRow.mono hv s3w)
        have B4 := Lib.hid (bstep B3.out b4)
        clear hv b4
        go_wp2
        go_ret2
        exact ⟨_, _, rfl, Lib.hid (by rw [HO.out]; exact ⟨rfl, HV.out⟩), B4.out⟩
    · have HO : Hid (pmL N ps = none) := Lib.hid (pm_no N ps (by
        have := hall.out
        rw [List.take_of_length_le (by rw [HM.out]; omega)] at this
        exact this))
      go_wp2
      go_ret2
      exact ⟨_, _, rfl, Lib.hid (by rw [HO.out]; exact ⟨rfl, rfl⟩), hb⟩
set_option maxHeartbeats 3200000 in
set_option maxRecDepth 100000 in
theorem lpo_0 (nm vl : ByteArray) (a : Option Addr) (c : Nat) (s : ByteArray) (w : World) :
    Calls Try.prog 16 #[.agg #[.string nm, .slice a 0 c, .string vl], .string s] w (PmO none w) := by
  go_enter Try.func16, Try.ntmps16
  go_wp2
  go_loopw [11] (fun i wr => i = .int .i64 0 ∧ Below w.heap.size w wr) (fun _ _ => 0)
  case atStart => exact ⟨rfl, (Below.refl _ _).alloc (Nat.le_refl _) _⟩
  case round =>
    obtain ⟨rfl, hb⟩ := hrel
    go_wp2
    go_ret2
    exact ⟨_, _, rfl, Lib.hid ⟨rfl, rfl⟩, hb⟩
theorem lpo_to (nm vl : List UInt8) (pv : Value) (ps : List PV) (s : ByteArray) (N : List UInt8) (w : World) (hs : s.size ≤ 1000) (hS : s.data.toList = N)
    (hp : ParsV w pv ps) (hlen : ps.length ≤ 1000000) (hsm : ∀ p ∈ ps, p.nm.length ≤ 1000 ∧ p.vs.length ≤ 1000000) :
    Calls Try.prog 16 #[.agg #[.string ⟨nm.toArray⟩, pv, .string ⟨vl.toArray⟩], .string s] w (PmO (pmL N ps) w) := by
  cases ps with
  | nil =>
    obtain ⟨a, c, rfl⟩ := hp.nil
    exact lpo_0 _ _ a c s w
  | cons p ps =>
    obtain ⟨b, off, c, rfl, hb, hc⟩ := hp.form (by simp)
    exact lpo_4 nm vl b off c (p :: ps) s N w hs (Lib.hid hS) hb (Lib.hid hc) hlen (Lib.hid hsm)
set_option maxHeartbeats 3200000 in
set_option maxRecDepth 100000 in
theorem rpm_0 (nm vl : ByteArray) (a : Option Addr) (c : Nat) (s : ByteArray) (w : World) :
    Calls Try.prog 18 #[.agg #[.string nm, .slice a 0 c, .string vl], .string s] w (RpmQ none w) := by
  have C0 := Lib.hid (Cs.new w [.string nm, .slice a 0 c, .string vl] 24)
  go_enter Try.func18, Try.ntmps18
  go_wp2
  go_loopw [6] (fun i wr => i = .int .i64 0 ∧ Cs w.heap.size wr [.string nm, .slice a 0 c, .string vl] ∧ Below w.heap.size w wr) (fun _ _ => 0)
  case atStart => exact ⟨rfl, C0.out, (Below.refl _ _).alloc (Nat.le_refl _) _⟩
  case round =>
    obtain ⟨rfl, hc, hb⟩ := hrel
    have z1 := (hc.2 1 _ rfl).1
    have HB := Lib.hid hb
    clear hc hb
    go_wp2
    go_ret2
    exact ⟨_, _, rfl, Lib.hid ⟨rfl, rfl⟩, HB.out⟩
theorem rpm_to (nm vl : List UInt8) (pv : Value) (ps : List PV) (s : ByteArray) (N : List UInt8) (w : World) (hs : s.size ≤ 1000) (hS : s.data.toList = N)
    (hp : ParsV w pv ps) (hlen : ps.length ≤ 1000000) (hsm : ∀ p ∈ ps, smlP p) :
    Calls Try.prog 18 #[.agg #[.string ⟨nm.toArray⟩, pv, .string ⟨vl.toArray⟩], .string s] w (RpmQ (pmL N ps) w) := by
  cases ps with
  | nil =>
    obtain ⟨a, c, rfl⟩ := hp.nil
    exact rpm_0 _ _ a c s w
  | cons p ps =>
    obtain ⟨b, off, c, rfl, hb, hc⟩ := hp.form (by simp)
    exact rpm_4 nm vl b off c _ (p :: ps) s N w hs (Lib.hid hS) (Lib.hid rfl) hb (Lib.hid hc) hlen (Lib.hid hsm)
end Lin
end Go.Proofs.Ytdakpncfophjnaa
