/-
  Lines, the reference's words: small, Alike, Param.
-/
import Derived.Test.YtdakpncfophjnaaLnRB
namespace Go.Proofs.Ytdakpncfophjnaa
open Go.RowKit
namespace Lin
open CutB Cel
open Opn (TxtV)
theorem quiet2 {f : FuncId} {args : Array Value} {w : World} {m n : Nat} {v : Value}
    (h : Calls Try.prog f args (w.drewN (m + n)) fun e w' => e = .returned v ∧ w' = w.drewN (m + n)) : Calls Try.prog f args (w.drewN (m + n)) fun e w'' => e = .returned v ∧ ∃ k, w'' = w.drewN (m + k) :=
  h.mono fun _ _ ⟨he, hm⟩ => ⟨he, n, hm⟩
set_option maxHeartbeats 1600000 in
theorem rsm_to (c d : UInt8) (w : World) (h : Hid (Wrd.smB c = d)) :
    Calls Try.prog 69 #[.int .u8 (c.toNat : Int)] w fun e w' => e = .returned (.int .u8 (d.toNat : Int)) ∧ w' = w := by
  have hk : ∀ k < 256, ((Wrd.smB (UInt8.ofNat k)).toNat : Int) = if 65 ≤ k ∧ k ≤ 90 then (k : Int) + 32 else (k : Int) := by decide +kernel
  have hd := hk c.toNat c.toNat_lt
  rw [UInt8.ofNat_toNat, h.out] at hd
  have h1 : (c.toNat : Int) < 256 := by have := c.toNat_lt; omega
  have h0 : 0 ≤ (c.toNat : Int) := by omega
  by_cases x1 : 65 ≤ c.toNat
  · by_cases x2 : c.toNat ≤ 90
    · rw [if_pos ⟨x1, x2⟩] at hd
      have HD := Lib.hid hd
      have y1 : (65 : Int) ≤ (c.toNat : Int) := by omega
      have y2 : (c.toNat : Int) ≤ 90 := by omega
      have y3 : IntKind.u8.wrap ((c.toNat : Int) + 32) = (c.toNat : Int) + 32 := by rw [IntKind.wrap_u8]; omega
      clear hk hd h
      go_enter Try.func69, Try.ntmps69
      go_wp2
      go_ret
      exact ⟨by rw [HD.out]; rfl, rfl⟩
    · rw [if_neg (by omega)] at hd
      have HD := Lib.hid hd
      have y1 : (65 : Int) ≤ (c.toNat : Int) := by omega
      have y2 : ¬ (c.toNat : Int) ≤ 90 := by omega
      have y4 : decide ((c.toNat : Int) ≤ 90) = false := decide_eq_false y2
      clear hk hd h
      go_enter Try.func69, Try.ntmps69
      go_wp2
      go_ret
      exact ⟨by rw [HD.out]; rfl, rfl⟩
  · rw [if_neg (by omega)] at hd
    have HD := Lib.hid hd
    have y1 : ¬ (65 : Int) ≤ (c.toNat : Int) := by omega
    have y4 : decide ((65 : Int) ≤ (c.toNat : Int)) = false := decide_eq_false y1
    clear hk hd h
    go_enter Try.func69, Try.ntmps69
    go_wp2
    go_ret
    exact ⟨by rw [HD.out]; rfl, rfl⟩
theorem sm_take {A B : List UInt8} {k : Nat} (ha : k < A.length) (hb : k < B.length) (h : Wrd.smL (A.take k) = Wrd.smL (B.take k)) (he : Wrd.smB A[k] = Wrd.smB B[k]) : Wrd.smL (A.take (k + 1)) = Wrd.smL (B.take (k + 1)) := by
  rw [Wrd.smL, Wrd.smL] at h ⊢
  rw [List.take_succ_eq_append_getElem ha, List.take_succ_eq_append_getElem hb, List.map_append, List.map_append, h, List.map_cons, List.map_cons, he]
theorem sm_no {A B : List UInt8} {k : Nat} (ha : k < A.length) (hb : k < B.length) (he : Wrd.smB A[k] ≠ Wrd.smB B[k]) : smN A B = false := by
  rw [smN]
  refine decide_eq_false (fun h => he ?_)
  have h1 := h.2
  rw [Wrd.smL, Wrd.smL] at h1
  have h2 : (A.map Wrd.smB)[k]'(by simpa using ha) = (B.map Wrd.smB)[k]'(by simpa using hb) := by simp only [h1]
  simpa using h2
set_option maxHeartbeats 3200000 in
set_option maxRecDepth 100000 in
theorem ral_to (a b : ByteArray) (A B : List UInt8) (r : Bool) (w : World) (ha : a.size ≤ 1000000) (_ : b.size ≤ 1000000) (hA : Hid (a.data.toList = A)) (hB : Hid (b.data.toList = B)) (h : Hid (smN A B = r)) :
    Calls Try.prog 48 #[.string a, .string b] w (KlQ r w) := by
  have hla : A.length = a.size := by rw [← hA.out]; simp
  have hlb : B.length = b.size := by rw [← hB.out]; simp
  by_cases hl : a.size = b.size
  · have hd : ((a.size : Int) == (b.size : Int)) = true := by simp [hl]
    have hd2 : ((a.size : Int) != (b.size : Int)) = false := by rw [bne, hd]; rfl
    have HLA := Lib.hid hla
    have HLB := Lib.hid hlb
    have HL := Lib.hid hl
    clear hla hlb hl
    go_enter Try.func48, Try.ntmps48
    go_wp2
    go_loopw [5] (fun i wr => ∃ k : Nat, k ≤ a.size ∧ i = .int .i64 k ∧ Hid (Wrd.smL (A.take k) = Wrd.smL (B.take k)) ∧ ∃ m, wr = w.drewN m) (fun i _ => a.size - (intOf i).toNat)
    case atStart => exact ⟨0, Nat.zero_le _, rfl, Lib.hid rfl, 0, rfl⟩
    case round =>
      obtain ⟨k, hk, rfl, hT, m, rfl⟩ := hrel
      by_cases hlt : k < a.size
      · have hlt2 : k < b.size := by rw [← HL.out]; exact hlt
        have hka : k < A.length := by rw [HLA.out]; exact hlt
        have hkb : k < B.length := by rw [HLB.out]; exact hlt2
        obtain ⟨c, hx⟩ : ∃ c, A[k]'hka = c := ⟨_, rfl⟩
        obtain ⟨d, hy⟩ : ∃ c, B[k]'hkb = c := ⟨_, rfl⟩
        have hcc : a[k] = c := by
          have : a[k] = a.data.toList[k]'(by simpa using hlt) := by simp [ByteArray.getElem_eq_getElem_data]
          rw [this, ← hx]
          exact List.getElem_of_eq hA.out _
        have hdd : b[k] = d := by
          have : b[k] = b.data.toList[k]'(by simpa using hlt2) := by simp [ByteArray.getElem_eq_getElem_data]
          rw [this, ← hy]
          exact List.getElem_of_eq hB.out _
        have cb := c.toNat_lt
        have db := d.toNat_lt
        obtain ⟨c', hc'⟩ : ∃ x, Wrd.smB c = x := ⟨_, rfl⟩
        obtain ⟨d', hd'⟩ : ∃ x, Wrd.smB d = x := ⟨_, rfl⟩
        have HC := Lib.hid hc'
        have HD := Lib.hid hd'
        have HSN : Hid (c' = d' → Wrd.smL (A.take (k + 1)) = Wrd.smL (B.take (k + 1))) := Lib.hid (fun e => sm_take hka hkb hT.out (by rw [hx, hy, hc', hd', e]))
        have HSO : Hid (c' ≠ d' → r = false) := Lib.hid (fun e => by rw [← h.out]; exact sm_no hka hkb (by rw [hx, hy, hc', hd']; exact e))
        clear hx hy hka hkb hc' hd' hT
        by_cases he : c' = d'
        · have HK := Lib.hid (HSN.out he)
          subst he
          clear HSN HSO
          go_wp2_with fail
          go_quiet (first | (go_at_call 69; with_reducible exact quiet2 (rsm_to c c' _ HC)) | (go_at_call 69; with_reducible exact quiet2 (rsm_to d c' _ HD)))
          go_wp2
          go_roundw
          case rel => exact ⟨k + 1, by omega, by go_num, HK, _, by first | rfl | rw [World.drewN_drewN]⟩
          case measure => simp [intOf]; omega
        · have HR := Lib.hid (HSO.out he)
          have y1 : ((c'.toNat : Int) != (d'.toNat : Int)) = true := bne_iff_ne.2 (fun e => he (UInt8.toNat_inj.1 (by omega)))
          clear HSN HSO he
          go_wp2_with fail
          go_quiet (first | (go_at_call 69; with_reducible exact quiet2 (rsm_to c c' _ HC)) | (go_at_call 69; with_reducible exact quiet2 (rsm_to d d' _ HD)))
          go_wp2
          go_ret
          exact ⟨by rw [HR.out]; rfl, below_drewN (below_drewN (Below.refl _ _) _) _⟩
      · have HR : Hid (true = r) := Lib.hid (by
          have h1 := hT.out
          rw [List.take_of_length_le (by rw [HLA.out]; omega), List.take_of_length_le (by rw [HLB.out]; have := HL.out; omega)] at h1
          rw [← h.out, smN]
          exact (decide_eq_true ⟨by rw [HLA.out, HLB.out]; exact HL.out, h1⟩).symm)
        go_wp2
        go_ret
        exact ⟨ret_b HR.out, below_drewN (Below.refl _ _) _⟩
  · have HR : Hid (false = r) := Lib.hid (by rw [← h.out, smN]; exact (decide_eq_false (fun q => hl (by omega))).symm)
    have hne : ((a.size : Int) == (b.size : Int)) = false := beq_eq_false_iff_ne.2 (by omega)
    have hne2 : ((a.size : Int) != (b.size : Int)) = true := by rw [bne, hne]; rfl
    clear hla hlb
    go_enter Try.func48, Try.ntmps48
    go_wp2
    go_ret
    exact ⟨ret_b HR.out, Below.refl _ _⟩
/-- What the reference's Param hands back: the line's own values. -/
def RpmQ (o : Option (List (List UInt8))) (w : World) (e : Ending) (w' : World) : Prop := ∃ v b, e = .returned (.tuple #[v, .bool b]) ∧ Hid (match o with | none => b = false ∧ v = .slice none 0 0 | some vs => b = true ∧ TxtV w' v vs) ∧ Below w.heap.size w w'
set_option maxHeartbeats 6400000 in
set_option maxRecDepth 100000 in
theorem rpm_4 (nm vl : List UInt8) (b off c M : Nat) (ps : List PV) (s : ByteArray) (N : List UInt8) (w : World) (hs : s.size ≤ 1000) (hS : Hid (s.data.toList = N)) (HM : Hid (ps.length = M))
    (hbl : b < w.heap.size) (hp : Hid (∀ (j : Nat) (hj : j < ps.length), ∃ sv, w.cell? ⟨b, off + j * 2, none⟩ = some (.string ⟨(ps[j]).nm.toArray⟩) ∧ w.cell? ⟨b, off + j * 2 + 1, none⟩ = some sv ∧ TxtV w sv (ps[j]).vs)) (hlen : M ≤ 1000000) (hsm : Hid (∀ p ∈ ps, smlP p)) :
    Calls Try.prog 18 #[.agg #[.string ⟨nm.toArray⟩, .slice (some ⟨b, off, none⟩) M c, .string ⟨vl.toArray⟩], .string s] w (RpmQ (pmL N ps) w) := by
  have C0 := Lib.hid (Cs.new w [.string ⟨nm.toArray⟩, .slice (some ⟨b, off, none⟩) M c, .string ⟨vl.toArray⟩] 24)
  go_enter Try.func18, Try.ntmps18
  go_wp2
  go_loopw [6] (fun i wr => ∃ k : Nat, k ≤ M ∧ i = .int .i64 k ∧ Hid ((ps.take k).all (fun p => !smN p.nm N) = true) ∧ Cs w.heap.size wr [.string ⟨nm.toArray⟩, .slice (some ⟨b, off, none⟩) M c, .string ⟨vl.toArray⟩] ∧ Below w.heap.size w wr) (fun i _ => M - (intOf i).toNat)
  case atStart => exact ⟨0, Nat.zero_le _, rfl, Lib.hid rfl, C0.out, (Below.refl _ _).alloc (Nat.le_refl _) _⟩
  case round =>
    obtain ⟨k, hk, rfl, hall, hc, hb⟩ := hrel
    have HC := Lib.hid hc
    have HB := Lib.hid hb
    have z1 := (hc.2 1 _ rfl).1
    clear hc hb C0
    by_cases hlt : k < M
    · have hkp : k < ps.length := by rw [HM.out]; exact hlt
      obtain ⟨sv, c0, c1, ht⟩ := hp.out k hkp
      obtain ⟨p, hpk⟩ : ∃ p, ps[k]'hkp = p := ⟨_, rfl⟩
      obtain ⟨s1, _, _⟩ := hsm.out p (hpk ▸ List.getElem_mem hkp)
      have HY : Hid (smN p.nm N = true → pmL N ps = some p.vs) := Lib.hid (fun q => by rw [← hpk]; exact pm_go N ps k hkp hall.out (by rw [hpk]; exact q))
      have HNX : Hid (smN p.nm N = false → (ps.take (k + 1)).all (fun p => !smN p.nm N) = true) := Lib.hid (fun q => by
        rw [List.take_succ_eq_append_getElem hkp, List.all_append, hall.out, List.all_cons, hpk, q]; rfl)
      rw [hpk] at c0 ht
      have d0 := (HB.out.cell (p := ⟨b, off + k * 2, none⟩) hbl).trans c0
      have HD1 := Lib.hid ((HB.out.cell (p := ⟨b, off + k * 2 + 1, none⟩) hbl).trans c1)
      have gb : b < wr.heap.size := Nat.lt_of_lt_of_le hbl HB.out.size
      have HT := Lib.hid ht
      have Z3 : Hid ((⟨p.nm.toArray⟩ : ByteArray).size ≤ 1000000) := Lib.hid s1
      clear c0 c1 ht hpk hkp hall s1
      obtain ⟨rr, hrr⟩ : ∃ r, smN p.nm N = r := ⟨_, rfl⟩
      have HS := Lib.hid hrr
      cases rr with
      | false =>
        have HN := Lib.hid (HNX.out hrr)
        clear hrr
        go_wp2_with fail
        refine (ral_to _ s p.nm N false _ Z3.out (by omega) (Lib.hid rfl) hS HS).mono ?_
        rintro e w3 ⟨rfl, b3⟩
        have C3 := Lib.hid (HC.out.below b3)
        have B3 := Lib.hid (bstep HB.out b3)
        clear b3
        go_wp2
        go_roundw
        case rel => exact ⟨k + 1, by omega, by go_num, HN, C3.out, B3.out⟩
        case measure => simp [intOf]; omega
      | true =>
        have HO := Lib.hid (HY.out hrr)
        clear hrr
        go_wp2_with fail
        refine (ral_to _ s p.nm N true _ Z3.out (by omega) (Lib.hid rfl) hS HS).mono ?_
        rintro e w3 ⟨rfl, b3⟩
        have C3 := Lib.hid (HC.out.below b3)
        have B3 := Lib.hid (bstep HB.out b3)
        have z2 := (C3.out.2 1 _ rfl).1
        have d2 := (b3.cell (p := ⟨b, off + k * 2 + 1, none⟩) gb).trans HD1.out
        clear b3 z1 d0
        go_wp2
        go_ret2
        exact ⟨_, _, rfl, Lib.hid (by rw [HO.out]; exact ⟨rfl, HT.out.below B3.out⟩), B3.out⟩
    · have HO : Hid (pmL N ps = none) := Lib.hid (pm_no N ps (by
        have := hall.out
        rw [List.take_of_length_le (by rw [HM.out]; omega)] at this
        exact this))
      go_wp2
      go_ret2
      exact ⟨_, _, rfl, Lib.hid (by rw [HO.out]; exact ⟨rfl, rfl⟩), HB.out⟩
end Lin
end Go.Proofs.Ytdakpncfophjnaa
