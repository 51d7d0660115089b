/-
  LineExact, the law's walk. (Written by gen/gen_lnrj.py.)
-/
import Derived.Test.YtdakpncfophjnaaLnRI
import Derived.Test.YtdakpncfophjnaaLnRE
import Derived.Test.YtdakpncfophjnaaLnRC
import Derived.Deep.CutBlock
namespace Go.Proofs.Ytdakpncfophjnaa
open Go.RowKit
namespace Lin
open CutB Cel
open Opn (TxtV)
open Rws (RowS)
theorem ls_pl {S : List UInt8} {nm vl : List UInt8} {ps : List PV} (h : lnX S = some ⟨nm, ps, vl⟩) : lnP S = (0, ⟨nm, ps, vl⟩) ∧ rlR S = (true, ⟨nm, ps, vl⟩) := by
  constructor
  · rw [lnP, h]
  · rw [rlR, h]
theorem ls_no {S : List UInt8} (h : lnX S = none) : lnP S = (18, ⟨[], [], []⟩) ∧ rlR S = (false, ⟨[], [], []⟩) := by
  constructor
  · rw [lnP, h]; rfl
  · rw [rlR, h]; rfl
theorem pm_len {N : List UInt8} : ∀ {ps : List PV} {vs : List (List UInt8)}, pmL N ps = some vs → (∀ p ∈ ps, LightP p) → vs.length ≤ 20
  | [], _, h, _ => by cases h
  | p :: ps, vs, h, hl => by
    rw [pmL] at h
    split at h
    · injection h with h
      subst h
      exact (hl p (by simp)).2.1
    · exact pm_len h (fun q hq => hl q (by simp [hq]))
def OtR (B n : Nat) (A : Option Addr) (c : Nat) (w : World) (iv : Value) (wr : World) : Prop := ∃ (k : Nat) (xs : List Value), iv = .int .i64 k ∧ k ≤ n ∧ wr.ownsRow B 9 1 (.slice A n c) n xs ∧ Below B w wr
set_option maxHeartbeats 3200000 in
set_option maxRecDepth 100000 in
theorem lex_big (an av : List UInt8) (ap : List PV) (fa : Option Addr) (na ca : Nat) (s nm : ByteArray) (w : World) (hs : s.size ≤ maxLen) (hn : nm.size ≤ maxLen) (hno : ¬ (Light ⟨an, ap, av⟩ ∧ s.size ≤ 1000 ∧ nm.size ≤ 200)) (HA : Hid (ParsV w (.slice fa na ca) ap)) (a1 : an.length ≤ maxLen) (a2 : av.length ≤ maxLen) (a3 : Hid (BdP ap)) :
    Calls Try.prog 3 #[.agg #[.string ⟨an.toArray⟩, .slice fa na ca, .string ⟨av.toArray⟩], .string s, .string nm] w fun e w' => e = .returned (.bool true) ∧ Below w.heap.size w w' := by
  unfold maxLen at hs hn
  have C0 := Lib.hid (Cs.new w [.string ⟨an.toArray⟩, .slice fa na ca, .string ⟨av.toArray⟩] 24)
  have BB := Lib.hid ((Below.refl w.heap.size w).alloc (Nat.le_refl _) (Obj.cells #[.string ⟨an.toArray⟩, .slice fa na ca, .string ⟨av.toArray⟩] 24))
  have HNO := Lib.hid hno
  clear hno
  go_enter Try.func3, Try.ntmps3
  go_wp2_with fail
  refine (hvy_to an av _ ap _ a1 a2 (HA.out.below BB.out) a3.out).mono ?_
  rintro e w1 ⟨r, rfl, hr, k1⟩
  have B1 := Lib.hid (bstep BB.out k1)
  clear k1 C0 BB
  cases r with
  | true =>
    go_wp2
    go_ret
    exact ⟨rfl, B1.out⟩
  | false =>
    have LA := Lib.hid (hr.out rfl)
    by_cases q : 1000 < s.size
    · clear HNO
      go_wp2
      go_ret
      exact ⟨rfl, B1.out⟩
    · have q1 : s.size ≤ 1000 := by omega
      have q2 : 200 < nm.size := by
        rcases Nat.lt_or_ge 200 nm.size with h | h
        · exact h
        · exact absurd ⟨LA.out, q1, h⟩ HNO.out
      clear HNO
      go_wp2
      go_ret
      exact ⟨rfl, B1.out⟩
set_option maxHeartbeats 25600000 in
set_option maxRecDepth 100000 in
theorem lex_00 (an av : List UInt8) (ap : List PV) (fa : Option Addr) (na ca : Nat) (s nm : ByteArray) (S N : List UInt8) (w : World) (hs : s.size ≤ 1000) (hn : nm.size ≤ 200) (hS : Hid (s.data.toList = S)) (hN : Hid (nm.data.toList = N)) (hX : Hid (lnX S = none)) (hO : Hid (pmL N ap = none)) (HA : Hid (ParsV w (.slice fa na ca) ap)) (LA : Hid (Light ⟨an, ap, av⟩)) (a3 : Hid (BdP ap)) :
    Calls Try.prog 3 #[.agg #[.string ⟨an.toArray⟩, .slice fa na ca, .string ⟨av.toArray⟩], .string s, .string nm] w fun e w' => e = .returned (.bool true) ∧ Below w.heap.size w w' := by
  have l1 := LA.out
  have n1 : an.length ≤ 1000000 := by have := l1.1; simp only at this; omega
  have n2 : av.length ≤ 1000000 := by have := l1.2.1; simp only at this; omega
  have n5 : ap.length ≤ 1000000 := by have := l1.2.2.1; simp only at this; omega
  have n6 : ap.length ≤ 20 := by have := l1.2.2.1; simp only at this; omega
  have LP : Hid (∀ p ∈ ap, LightP p) := Lib.hid l1.2.2.2
  have SM : Hid (∀ p ∈ ap, smlP p) := Lib.hid (light_sml l1)
  have BG : Hid ((psT ap).length ≤ 500000000) := Lib.hid (by have := (light_len l1).1; simp only at this; omega)
  have x1 : an.length ≤ maxLen := by unfold maxLen; omega
  have x2 : av.length ≤ maxLen := by unfold maxLen; omega
  have X1 := Lib.hid x1
  have X2 := Lib.hid x2
  obtain ⟨T, hT⟩ : ∃ T, lnT ⟨an, ap, av⟩ = T := ⟨_, rfl⟩
  obtain ⟨E, hE⟩ : ∃ E, lnE ⟨an, ap, av⟩ = E := ⟨_, rfl⟩
  obtain ⟨rb, hrb⟩ : ∃ r, lnB ⟨an, ap, av⟩ = r := ⟨_, rfl⟩
  have HT := Lib.hid (And.intro hT hE)
  have HRB := Lib.hid hrb
  have HX := Lib.hid (ls_no hX.out)
  obtain ⟨M, hM⟩ : ∃ M, ap.length = M := ⟨_, rfl⟩
  have HM := Lib.hid hM
  clear l1 x1 x2 hT hE hrb hX hM
  have C0 := Lib.hid (Cs.new w [.string ⟨an.toArray⟩, .slice fa na ca, .string ⟨av.toArray⟩] 24)
  have BB := Lib.hid ((Below.refl w.heap.size w).alloc (Nat.le_refl _) (Obj.cells #[.string ⟨an.toArray⟩, .slice fa na ca, .string ⟨av.toArray⟩] 24))
  go_enter Try.func3, Try.ntmps3
  go_wp2_with fail
  refine (hvy_to an av _ ap _ X1.out X2.out (HA.out.below BB.out) a3.out).mono ?_
  rintro e w1 ⟨r, rfl, hr, k1⟩
  have C1 := Lib.hid (C0.out.below k1)
  have B1 := Lib.hid (bstep BB.out k1)
  have g0 : w.heap.size < w1.heap.size := C1.out.1
  have z0 := (C1.out.2 0 _ rfl).1
  have z1 := (C1.out.2 1 _ rfl).1
  have z2 := (C1.out.2 2 _ rfl).1
  clear k1 C0 BB hr
  cases r with
  | true =>
    go_wp2
    go_ret
    exact ⟨rfl, B1.out⟩
  | false =>
  go_wp2_with fail
  refine (twl_to _ _ _ ap _ (HA.out.below B1.out) n6 LP.out).mono ?_
  rintro e w2 ⟨u, rfl, hu, k1⟩
  have C2 := Lib.hid (C1.out.below k1)
  have B2 := Lib.hid (bstep B1.out k1)
  obtain ⟨fu, cu, hux⟩ := hu.form
  subst hux
  rw [HM.out] at hu ⊢
  have HU2 := Lib.hid hu.pars
  have D2 := Lib.hid (Cs.new w2 [.string ⟨an.toArray⟩, .slice fu M cu, .string ⟨av.toArray⟩] 24)
  have k2 := (Below.refl w2.heap.size w2).alloc (Nat.le_refl _) (Obj.cells #[.string ⟨an.toArray⟩, .slice fu M cu, .string ⟨av.toArray⟩] 24)
  have HU3 := Lib.hid (HU2.out.below k2)
  have C3 := Lib.hid (C2.out.below k2)
  have B3 := Lib.hid (bstep B2.out k2)
  clear k1 k2 C1 B1 z0 z1 z2 g0 hu HU2 C2 B2
  go_wp2_with fail
  refine (ltx_to an av _ ap T E _ n1 n2 HU3.out n5 SM.out BG.out HT).mono ?_
  rintro e w3 ⟨rfl, k1⟩
  have D3 := Lib.hid (D2.out.below k1)
  have C4 := Lib.hid (C3.out.below k1)
  have B4 := Lib.hid (bstep B3.out k1)
  have HU4 := Lib.hid (HU3.out.below k1)
  clear k1 D2 C3 B3 HU3
  go_wp2_with fail
  refine (lp_at s S (18, ⟨[], [], []⟩) _ (by omega) hS (Lib.hid HX.out.1)).mono ?_
  rintro e w4 ⟨pv, rfl, hq, k1⟩
  obtain ⟨fp, np, cp, hpv⟩ : ∃ a n c, pv = .slice a n c := by obtain ⟨a, n, c, h, _⟩ := hq.out.1; exact ⟨a, n, c, h⟩
  subst hpv
  have P4 := Lib.hid (Cs.new w4 [.string ⟨([] : List UInt8).toArray⟩, .slice fp np cp, .string ⟨([] : List UInt8).toArray⟩] 24)
  have k2 := (Below.refl w4.heap.size w4).alloc (Nat.le_refl _) (Obj.cells #[.string ⟨([] : List UInt8).toArray⟩, .slice fp np cp, .string ⟨([] : List UInt8).toArray⟩] 24)
  have PV4 := Lib.hid (hq.out.1.below k2)
  have PB := Lib.hid (hq.out.2.2.2)
  have D4 := Lib.hid ((D3.out.below k1).below k2)
  have C5 := Lib.hid ((C4.out.below k1).below k2)
  have B5 := Lib.hid (bstep (bstep B4.out k1) k2)
  have HU5 := Lib.hid ((HU4.out.below k1).below k2)
  have g2 : w2.heap.size < w4.heap.size := (D3.out.below k1).1
  have y0 := (D4.out.2 0 _ rfl).1
  have y1 := (D4.out.2 1 _ rfl).1
  have y2 := (D4.out.2 2 _ rfl).1
  have y0' := ((D3.out.below k1).2 0 _ rfl).1
  have y1' := ((D3.out.below k1).2 1 _ rfl).1
  have y2' := ((D3.out.below k1).2 2 _ rfl).1
  clear k1 k2 D3 C4 B4 HU4 hq
  go_wp2_with fail
  refine (lpo_to an av _ ap nm N _ (by omega) hN.out HU5.out n5 (fun p hp => by have h := LP.out p hp; have h1 := h.1; have h2 := h.2.1; exact ⟨by omega, by omega⟩)).mono ?_
  rintro e w5 ⟨v, bb, rfl, hm, k1⟩

  have hm' := hm.out
  rw [hO.out] at hm'
  obtain ⟨rfl, rfl⟩ := hm'
  have BV5 := Lib.hid k1
  have D5 := Lib.hid (D4.out.below k1)
  have C6 := Lib.hid (C5.out.below k1)
  have P5 := Lib.hid (P4.out.below k1)
  have PV5 := Lib.hid (PV4.out.below k1)
  have B6 := Lib.hid (bstep B5.out k1)
  have s45 : w4.heap.size + 1 ≤ w5.heap.size := by have := k1.size; simpa using this
  clear hm k1 P4 PV4 y0 y1 y2 y0' y1' y2'
  go_wp2_with fail
  refine (rpl_to s S _ (by omega) hS).mono ?_
  rw [HX.out.2]
  rintro e w6 ⟨qv, rfl, hq, k1⟩
  obtain ⟨fq, nq, cq, hqv⟩ : ∃ a n c, qv = .slice a n c := by obtain ⟨a, n, c, h, _⟩ := hq.out.1; exact ⟨a, n, c, h⟩
  subst hqv
  have Q6 := Lib.hid (Cs.new w6 [.string ⟨([] : List UInt8).toArray⟩, .slice fq nq cq, .string ⟨([] : List UInt8).toArray⟩] 24)
  have k2 := (Below.refl w6.heap.size w6).alloc (Nat.le_refl _) (Obj.cells #[.string ⟨([] : List UInt8).toArray⟩, .slice fq nq cq, .string ⟨([] : List UInt8).toArray⟩] 24)
  have QV6 := Lib.hid (hq.out.1.below k2)
  have QB := Lib.hid (hq.out.2)
  have D6 := Lib.hid ((D5.out.below k1).below k2)
  have C7 := Lib.hid ((C6.out.below k1).below k2)
  have P6 := Lib.hid ((P5.out.below k1).below k2)
  have PV6 := Lib.hid ((PV5.out.below k1).below k2)
  have B7 := Lib.hid (bstep (bstep B6.out k1) k2)
  have BV6 := Lib.hid (bstep (bstep BV5.out k1) k2)
  have g5 : w.heap.size < w6.heap.size := (C6.out.below k1).1
  have z0 := ((C6.out.below k1).2 0 _ rfl).1
  have z1 := ((C6.out.below k1).2 1 _ rfl).1
  have z2 := ((C6.out.below k1).2 2 _ rfl).1
  have z0' := (C7.out.2 0 _ rfl).1
  have z1' := (C7.out.2 1 _ rfl).1
  have z2' := (C7.out.2 2 _ rfl).1
  have s56 := k1.size
  clear k1 k2 D5 C6 P5 PV5 B6 hq
  go_wp2_with fail
  refine (rpm_to an av _ ap nm N _ (by omega) hN.out (HA.out.below B7.out) n5 SM.out).mono ?_
  rintro e w7 ⟨v2, bb2, rfl, hm, k1⟩
  have hm' := hm.out
  rw [hO.out] at hm'
  obtain ⟨rfl, rfl⟩ := hm'
  have D7 := Lib.hid (D6.out.below k1)
  have C8 := Lib.hid (C7.out.below k1)
  have P7 := Lib.hid (P6.out.below k1)
  have Q7 := Lib.hid (Q6.out.below k1)
  have PV7 := Lib.hid (PV6.out.below k1)
  have QV7 := Lib.hid (QV6.out.below k1)
  have B8 := Lib.hid (bstep B7.out k1)
  have BV7 := Lib.hid (bstep BV6.out k1)
  have gp : w4.heap.size < w7.heap.size := P7.out.1
  have gq : w6.heap.size < w7.heap.size := Q7.out.1
  have p0 := (P7.out.2 0 _ rfl).1
  have p1 := (P7.out.2 1 _ rfl).1
  have p2 := (P7.out.2 2 _ rfl).1
  have q0 := (Q7.out.2 0 _ rfl).1
  have q1 := (Q7.out.2 1 _ rfl).1
  have q2 := (Q7.out.2 2 _ rfl).1
  have s67 : w6.heap.size + 1 ≤ w7.heap.size := by have := k1.size; simpa using this
  clear hm k1 D6 C7 P6 Q6 PV6 QV6 B7 z0 z1 z2 z0' z1' z2'
  go_wp2_with fail
  refine (kln_to ⟨[], [], []⟩ ⟨[], [], []⟩ _ _ true _ PV7.out QV7.out PB.out.1 QB.out.1 (fun p hp => (PB.out.2 p hp).2.1) (fun p hp => (QB.out.2 p hp).2.1) (Lib.hid (decide_eq_true rfl))).mono ?_
  rintro e w8 ⟨rfl, k1⟩
  have D8 := Lib.hid (D7.out.below k1)
  have C9 := Lib.hid (C8.out.below k1)
  have B9 := Lib.hid (bstep B8.out k1)
  have BV8 := Lib.hid (bstep BV7.out k1)
  have s78 := k1.size
  clear k1 D7 C8 P7 Q7 PV7 QV7 B8 p0 p1 p2 q0 q1 q2
  go_wp2_with fail
  refine (Opn.texts_any _ _ [] [] _ (TxtV.none _) (TxtV.none _) (by simp) (by simp)).mono ?_
  rintro e w9 ⟨tb, rfl, htb, m, rfl⟩
  have htb' : tb = true := htb.out.trans (decide_eq_true rfl)
  subst htb'
  have D9 := Lib.hid (D8.out.drewN m)
  have C10 := Lib.hid (C9.out.drewN m)
  have B10 := Lib.hid (below_drewN B9.out m)
  obtain ⟨w9, hw9⟩ : ∃ x, w8.drewN m = x := ⟨_, rfl⟩
  have s89 : w8.heap.size ≤ w9.heap.size := by rw [← hw9]; exact Nat.le_refl _
  have BV9 : Hid (Below (w4.alloc (Obj.cells #[.string ⟨([] : List UInt8).toArray⟩, .slice fp np cp, .string ⟨([] : List UInt8).toArray⟩] 24)).heap.size (w4.alloc (Obj.cells #[.string ⟨([] : List UInt8).toArray⟩, .slice fp np cp, .string ⟨([] : List UInt8).toArray⟩] 24)) w9) := Lib.hid (by rw [← hw9]; exact below_drewN BV8.out m)
  rw [hw9] at D9 C10 B10 ⊢
  clear hw9 D8 C9 B9 htb
  go_wp2_with fail
  go_loopw [18] (fun i wr => i = .int .i64 0 ∧ w9 = wr) (fun _ _ => 0)
  case atStart => exact ⟨rfl, rfl⟩
  case round =>
    obtain ⟨rfl, rfl⟩ := hrel
    have BX := BV9
    have D11 := Lib.hid (D4.out.below BX.out)
    have C11 := Lib.hid (C5.out.below BX.out)
    have gA := D11.out.1
    have a0 := (D11.out.2 0 _ rfl).1
    have a1 := (D11.out.2 1 _ rfl).1
    have a2 := (D11.out.2 2 _ rfl).1
    have gB := C11.out.1
    have b0 := (C11.out.2 0 _ rfl).1
    have b1 := (C11.out.2 1 _ rfl).1
    have b2 := (C11.out.2 2 _ rfl).1
    clear D11 C11
    go_wp2_with fail
    refine (kln_to ⟨an, ap, av⟩ ⟨an, ap, av⟩ _ _ true _ (HU5.out.below BX.out) ((HA.out.below B5.out).below BX.out) n5 n5 (fun p hp => (SM.out p hp).2.1) (fun p hp => (SM.out p hp).2.1) (Lib.hid (decide_eq_true rfl))).mono ?_
    rintro e u1 ⟨rfl, k1⟩
    have BX1 := Lib.hid (bstep BX.out k1)
    have C11 := Lib.hid (C5.out.below BX1.out)
    have z0 := (C11.out.2 0 _ rfl).1
    have z1 := (C11.out.2 1 _ rfl).1
    have z2 := (C11.out.2 2 _ rfl).1
    clear k1 gA gB a0 a1 a2 b0 b1 b2
    have gB := C11.out.1
    go_wp2_with fail
    refine (rln_to an av _ ap rb _ n1 n2 ((HA.out.below B5.out).below BX1.out) n5 SM.out HRB).mono ?_
    rintro e u2 ⟨rfl, k1⟩
    have BX2 := Lib.hid (bstep BX1.out k1)
    have D12 := Lib.hid (D4.out.below BX2.out)
    have C12 := Lib.hid (C5.out.below BX2.out)
    have gA := D12.out.1
    have y0 := (D12.out.2 0 _ rfl).1
    have y1 := (D12.out.2 1 _ rfl).1
    have y2 := (D12.out.2 2 _ rfl).1
    clear k1 gB z0 z1 z2 C11 BX BX1
    cases rb with
    | false =>
      have eT : T = [] := by have := HT.out.1; rw [lnT, if_neg (by rw [HRB.out]; decide)] at this; exact this.symm
      have eE : E = 18 := by have := HT.out.2; rw [lnE, if_neg (by rw [HRB.out]; decide)] at this; exact this.symm
      have HE18 : Hid (lnE ⟨an, ap, av⟩ = 18) := Lib.hid (by rw [HT.out.2, eE])
      subst eT eE
      go_wp2_with fail
      refine (lchk_to an av _ ap 18 _ n1 n2 (HU5.out.below BX2.out) n5 SM.out HE18).mono ?_
      rintro e u3 ⟨rfl, k1⟩
      have BX3 := Lib.hid (bstep BX2.out k1)
      clear k1
      go_wp2_with fail
      refine (wakes18_any _).mono ?_
      rintro e u4 ⟨rfl, k1⟩
      go_wp2
      go_ret
      exact ⟨rfl, bstep (bstep B5.out BX3.out) k1⟩
    | true =>
      have eE : E = 0 := by have := HT.out.2; rw [lnE, if_pos (by rw [HRB.out])] at this; exact this.symm
      have eF : Hid (lineF ⟨an, ap, av⟩ = T) := Lib.hid (by have := HT.out.1; rw [lnT, if_pos (by rw [HRB.out])] at this; exact this)
      have HE0 : Hid (lnE ⟨an, ap, av⟩ = 0) := Lib.hid (by rw [HT.out.2, eE])
      have eQ : ((⟨T.toArray⟩ : ByteArray).toList == (⟨T.toArray⟩ : ByteArray).toList) = true := beq_self_eq_true _
      subst eE
      go_wp2_with fail
      refine (lchk_to an av _ ap 0 _ n1 n2 (HU5.out.below BX2.out) n5 SM.out HE0).mono ?_
      rintro e u3 ⟨rfl, k1⟩
      have BX3 := Lib.hid (bstep BX2.out k1)
      have C13 := Lib.hid (C12.out.below k1)
      have gB := C13.out.1
      have z0 := (C13.out.2 0 _ rfl).1
      have z1 := (C13.out.2 1 _ rfl).1
      have z2 := (C13.out.2 2 _ rfl).1
      clear k1 gA y0 y1 y2
      go_wp2_with fail
      refine (rlt_to an av _ ap _ HRB LA ((HA.out.below B5.out).below BX3.out) T eF).mono ?_
      rintro e u4 ⟨rfl, k1⟩
      have BX4 := Lib.hid (bstep BX3.out k1)
      clear k1 z0 z1 z2
      go_wp2_with fail
      refine (wakes18_any _).mono ?_
      rintro e u5 ⟨rfl, k1⟩
      go_wp2
      go_ret
      exact ⟨rfl, bstep (bstep B5.out BX4.out) k1⟩
set_option maxHeartbeats 25600000 in
set_option maxRecDepth 100000 in
theorem lex_01 (an av : List UInt8) (ap : List PV) (fa : Option Addr) (na ca : Nat) (s nm : ByteArray) (S N : List UInt8) (vs : List (List UInt8)) (w : World) (hs : s.size ≤ 1000) (hn : nm.size ≤ 200) (hS : Hid (s.data.toList = S)) (hN : Hid (nm.data.toList = N)) (hX : Hid (lnX S = none)) (hO : Hid (pmL N ap = some vs)) (HA : Hid (ParsV w (.slice fa na ca) ap)) (LA : Hid (Light ⟨an, ap, av⟩)) (a3 : Hid (BdP ap)) :
    Calls Try.prog 3 #[.agg #[.string ⟨an.toArray⟩, .slice fa na ca, .string ⟨av.toArray⟩], .string s, .string nm] w fun e w' => e = .returned (.bool true) ∧ Below w.heap.size w w' := by
  have l1 := LA.out
  have n1 : an.length ≤ 1000000 := by have := l1.1; simp only at this; omega
  have n2 : av.length ≤ 1000000 := by have := l1.2.1; simp only at this; omega
  have n5 : ap.length ≤ 1000000 := by have := l1.2.2.1; simp only at this; omega
  have n6 : ap.length ≤ 20 := by have := l1.2.2.1; simp only at this; omega
  have LP : Hid (∀ p ∈ ap, LightP p) := Lib.hid l1.2.2.2
  have SM : Hid (∀ p ∈ ap, smlP p) := Lib.hid (light_sml l1)
  have BG : Hid ((psT ap).length ≤ 500000000) := Lib.hid (by have := (light_len l1).1; simp only at this; omega)
  have x1 : an.length ≤ maxLen := by unfold maxLen; omega
  have x2 : av.length ≤ maxLen := by unfold maxLen; omega
  have X1 := Lib.hid x1
  have X2 := Lib.hid x2
  obtain ⟨T, hT⟩ : ∃ T, lnT ⟨an, ap, av⟩ = T := ⟨_, rfl⟩
  obtain ⟨E, hE⟩ : ∃ E, lnE ⟨an, ap, av⟩ = E := ⟨_, rfl⟩
  obtain ⟨rb, hrb⟩ : ∃ r, lnB ⟨an, ap, av⟩ = r := ⟨_, rfl⟩
  have HT := Lib.hid (And.intro hT hE)
  have HRB := Lib.hid hrb
  have HX := Lib.hid (ls_no hX.out)
  obtain ⟨M, hM⟩ : ∃ M, ap.length = M := ⟨_, rfl⟩
  have HM := Lib.hid hM
  clear l1 x1 x2 hT hE hrb hX hM
  have C0 := Lib.hid (Cs.new w [.string ⟨an.toArray⟩, .slice fa na ca, .string ⟨av.toArray⟩] 24)
  have BB := Lib.hid ((Below.refl w.heap.size w).alloc (Nat.le_refl _) (Obj.cells #[.string ⟨an.toArray⟩, .slice fa na ca, .string ⟨av.toArray⟩] 24))
  go_enter Try.func3, Try.ntmps3
  go_wp2_with fail
  refine (hvy_to an av _ ap _ X1.out X2.out (HA.out.below BB.out) a3.out).mono ?_
  rintro e w1 ⟨r, rfl, hr, k1⟩
  have C1 := Lib.hid (C0.out.below k1)
  have B1 := Lib.hid (bstep BB.out k1)
  have g0 : w.heap.size < w1.heap.size := C1.out.1
  have z0 := (C1.out.2 0 _ rfl).1
  have z1 := (C1.out.2 1 _ rfl).1
  have z2 := (C1.out.2 2 _ rfl).1
  clear k1 C0 BB hr
  cases r with
  | true =>
    go_wp2
    go_ret
    exact ⟨rfl, B1.out⟩
  | false =>
  go_wp2_with fail
  refine (twl_to _ _ _ ap _ (HA.out.below B1.out) n6 LP.out).mono ?_
  rintro e w2 ⟨u, rfl, hu, k1⟩
  have C2 := Lib.hid (C1.out.below k1)
  have B2 := Lib.hid (bstep B1.out k1)
  obtain ⟨fu, cu, hux⟩ := hu.form
  subst hux
  rw [HM.out] at hu ⊢
  have HU2 := Lib.hid hu.pars
  have D2 := Lib.hid (Cs.new w2 [.string ⟨an.toArray⟩, .slice fu M cu, .string ⟨av.toArray⟩] 24)
  have k2 := (Below.refl w2.heap.size w2).alloc (Nat.le_refl _) (Obj.cells #[.string ⟨an.toArray⟩, .slice fu M cu, .string ⟨av.toArray⟩] 24)
  have HU3 := Lib.hid (HU2.out.below k2)
  have C3 := Lib.hid (C2.out.below k2)
  have B3 := Lib.hid (bstep B2.out k2)
  clear k1 k2 C1 B1 z0 z1 z2 g0 hu HU2 C2 B2
  go_wp2_with fail
  refine (ltx_to an av _ ap T E _ n1 n2 HU3.out n5 SM.out BG.out HT).mono ?_
  rintro e w3 ⟨rfl, k1⟩
  have D3 := Lib.hid (D2.out.below k1)
  have C4 := Lib.hid (C3.out.below k1)
  have B4 := Lib.hid (bstep B3.out k1)
  have HU4 := Lib.hid (HU3.out.below k1)
  clear k1 D2 C3 B3 HU3
  go_wp2_with fail
  refine (lp_at s S (18, ⟨[], [], []⟩) _ (by omega) hS (Lib.hid HX.out.1)).mono ?_
  rintro e w4 ⟨pv, rfl, hq, k1⟩
  obtain ⟨fp, np, cp, hpv⟩ : ∃ a n c, pv = .slice a n c := by obtain ⟨a, n, c, h, _⟩ := hq.out.1; exact ⟨a, n, c, h⟩
  subst hpv
  have P4 := Lib.hid (Cs.new w4 [.string ⟨([] : List UInt8).toArray⟩, .slice fp np cp, .string ⟨([] : List UInt8).toArray⟩] 24)
  have k2 := (Below.refl w4.heap.size w4).alloc (Nat.le_refl _) (Obj.cells #[.string ⟨([] : List UInt8).toArray⟩, .slice fp np cp, .string ⟨([] : List UInt8).toArray⟩] 24)
  have PV4 := Lib.hid (hq.out.1.below k2)
  have PB := Lib.hid (hq.out.2.2.2)
  have D4 := Lib.hid ((D3.out.below k1).below k2)
  have C5 := Lib.hid ((C4.out.below k1).below k2)
  have B5 := Lib.hid (bstep (bstep B4.out k1) k2)
  have HU5 := Lib.hid ((HU4.out.below k1).below k2)
  have g2 : w2.heap.size < w4.heap.size := (D3.out.below k1).1
  have y0 := (D4.out.2 0 _ rfl).1
  have y1 := (D4.out.2 1 _ rfl).1
  have y2 := (D4.out.2 2 _ rfl).1
  have y0' := ((D3.out.below k1).2 0 _ rfl).1
  have y1' := ((D3.out.below k1).2 1 _ rfl).1
  have y2' := ((D3.out.below k1).2 2 _ rfl).1
  clear k1 k2 D3 C4 B4 HU4 hq
  go_wp2_with fail
  refine (lpo_to an av _ ap nm N _ (by omega) hN.out HU5.out n5 (fun p hp => by have h := LP.out p hp; have h1 := h.1; have h2 := h.2.1; exact ⟨by omega, by omega⟩)).mono ?_
  rintro e w5 ⟨v, bb, rfl, hm, k1⟩

  have hm' := hm.out
  rw [hO.out] at hm'
  obtain ⟨rfl, hrow⟩ := hm'
  obtain ⟨fv, cv, hvx⟩ := hrow.txt.slice
  subst hvx
  have vl20 : vs.length ≤ 20 := pm_len hO.out LP.out
  have RV5 := Lib.hid hrow
  clear hrow
  have BV5 := Lib.hid k1
  have D5 := Lib.hid (D4.out.below k1)
  have C6 := Lib.hid (C5.out.below k1)
  have P5 := Lib.hid (P4.out.below k1)
  have PV5 := Lib.hid (PV4.out.below k1)
  have B6 := Lib.hid (bstep B5.out k1)
  have s45 : w4.heap.size + 1 ≤ w5.heap.size := by have := k1.size; simpa using this
  clear hm k1 P4 PV4 y0 y1 y2 y0' y1' y2'
  go_wp2_with fail
  refine (rpl_to s S _ (by omega) hS).mono ?_
  rw [HX.out.2]
  rintro e w6 ⟨qv, rfl, hq, k1⟩
  obtain ⟨fq, nq, cq, hqv⟩ : ∃ a n c, qv = .slice a n c := by obtain ⟨a, n, c, h, _⟩ := hq.out.1; exact ⟨a, n, c, h⟩
  subst hqv
  have Q6 := Lib.hid (Cs.new w6 [.string ⟨([] : List UInt8).toArray⟩, .slice fq nq cq, .string ⟨([] : List UInt8).toArray⟩] 24)
  have k2 := (Below.refl w6.heap.size w6).alloc (Nat.le_refl _) (Obj.cells #[.string ⟨([] : List UInt8).toArray⟩, .slice fq nq cq, .string ⟨([] : List UInt8).toArray⟩] 24)
  have QV6 := Lib.hid (hq.out.1.below k2)
  have QB := Lib.hid (hq.out.2)
  have D6 := Lib.hid ((D5.out.below k1).below k2)
  have C7 := Lib.hid ((C6.out.below k1).below k2)
  have P6 := Lib.hid ((P5.out.below k1).below k2)
  have PV6 := Lib.hid ((PV5.out.below k1).below k2)
  have B7 := Lib.hid (bstep (bstep B6.out k1) k2)
  have RV6 := Lib.hid ((RV5.out.below k1).below k2)
  have BV6 := Lib.hid (bstep (bstep BV5.out k1) k2)
  have g5 : w.heap.size < w6.heap.size := (C6.out.below k1).1
  have z0 := ((C6.out.below k1).2 0 _ rfl).1
  have z1 := ((C6.out.below k1).2 1 _ rfl).1
  have z2 := ((C6.out.below k1).2 2 _ rfl).1
  have z0' := (C7.out.2 0 _ rfl).1
  have z1' := (C7.out.2 1 _ rfl).1
  have z2' := (C7.out.2 2 _ rfl).1
  have s56 := k1.size
  clear k1 k2 D5 C6 P5 PV5 B6 hq
  go_wp2_with fail
  refine (rpm_to an av _ ap nm N _ (by omega) hN.out (HA.out.below B7.out) n5 SM.out).mono ?_
  rintro e w7 ⟨v2, bb2, rfl, hm, k1⟩
  have hm' := hm.out
  rw [hO.out] at hm'
  obtain ⟨rfl, ht2⟩ := hm'
  obtain ⟨fv2, cv2, hv2⟩ := ht2.slice
  subst hv2
  have TV7 := Lib.hid ht2
  clear ht2
  have D7 := Lib.hid (D6.out.below k1)
  have C8 := Lib.hid (C7.out.below k1)
  have P7 := Lib.hid (P6.out.below k1)
  have Q7 := Lib.hid (Q6.out.below k1)
  have PV7 := Lib.hid (PV6.out.below k1)
  have QV7 := Lib.hid (QV6.out.below k1)
  have B8 := Lib.hid (bstep B7.out k1)
  have RV7 := Lib.hid (RV6.out.below k1)
  have BV7 := Lib.hid (bstep BV6.out k1)
  have gp : w4.heap.size < w7.heap.size := P7.out.1
  have gq : w6.heap.size < w7.heap.size := Q7.out.1
  have p0 := (P7.out.2 0 _ rfl).1
  have p1 := (P7.out.2 1 _ rfl).1
  have p2 := (P7.out.2 2 _ rfl).1
  have q0 := (Q7.out.2 0 _ rfl).1
  have q1 := (Q7.out.2 1 _ rfl).1
  have q2 := (Q7.out.2 2 _ rfl).1
  have s67 : w6.heap.size + 1 ≤ w7.heap.size := by have := k1.size; simpa using this
  clear hm k1 D6 C7 P6 Q6 PV6 QV6 B7 z0 z1 z2 z0' z1' z2'
  go_wp2_with fail
  refine (kln_to ⟨[], [], []⟩ ⟨[], [], []⟩ _ _ true _ PV7.out QV7.out PB.out.1 QB.out.1 (fun p hp => (PB.out.2 p hp).2.1) (fun p hp => (QB.out.2 p hp).2.1) (Lib.hid (decide_eq_true rfl))).mono ?_
  rintro e w8 ⟨rfl, k1⟩
  have D8 := Lib.hid (D7.out.below k1)
  have C9 := Lib.hid (C8.out.below k1)
  have B9 := Lib.hid (bstep B8.out k1)
  have RV8 := Lib.hid (RV7.out.below k1)
  have TV8 := Lib.hid (TV7.out.below k1)
  have BV8 := Lib.hid (bstep BV7.out k1)
  have s78 := k1.size
  clear k1 D7 C8 P7 Q7 PV7 QV7 B8 p0 p1 p2 q0 q1 q2
  go_wp2_with fail
  refine (Opn.texts_any _ _ vs vs _ RV8.out.txt TV8.out (by omega) (by omega)).mono ?_
  rintro e w9 ⟨tb, rfl, htb, m, rfl⟩
  have htb' : tb = true := htb.out.trans (decide_eq_true rfl)
  subst htb'
  have D9 := Lib.hid (D8.out.drewN m)
  have C10 := Lib.hid (C9.out.drewN m)
  have B10 := Lib.hid (below_drewN B9.out m)
  obtain ⟨w9, hw9⟩ : ∃ x, w8.drewN m = x := ⟨_, rfl⟩
  have s89 : w8.heap.size ≤ w9.heap.size := by rw [← hw9]; exact Nat.le_refl _
  have RV9 : Hid (RowS (w4.alloc (Obj.cells #[.string ⟨([] : List UInt8).toArray⟩, .slice fp np cp, .string ⟨([] : List UInt8).toArray⟩] 24)).heap.size w9 (.slice fv vs.length cv) vs) := Lib.hid (by rw [← hw9]; exact RV8.out.below (below_drewN (Below.refl _ _) m))
  have BV9 : Hid (Below (w4.alloc (Obj.cells #[.string ⟨([] : List UInt8).toArray⟩, .slice fp np cp, .string ⟨([] : List UInt8).toArray⟩] 24)).heap.size (w4.alloc (Obj.cells #[.string ⟨([] : List UInt8).toArray⟩, .slice fp np cp, .string ⟨([] : List UInt8).toArray⟩] 24)) w9) := Lib.hid (by rw [← hw9]; exact below_drewN BV8.out m)
  rw [hw9] at D9 C10 B10 ⊢
  clear hw9 D8 C9 B9 htb
  go_wp2_with fail
  obtain ⟨n, hn'⟩ : ∃ n, vs.length = n := ⟨_, rfl⟩
  rw [hn'] at vl20 RV9 ⊢
  go_loopw [18] (fun i wr => ∃ (k : Nat) (xs : List Value), i = .int .i64 k ∧ k ≤ n ∧ wr.ownsRow (w4.alloc (Obj.cells #[.string ⟨([] : List UInt8).toArray⟩, .slice fp np cp, .string ⟨([] : List UInt8).toArray⟩] 24)).heap.size 9 1 (.slice fv n cv) n xs ∧ Below (w4.alloc (Obj.cells #[.string ⟨([] : List UInt8).toArray⟩, .slice fp np cp, .string ⟨([] : List UInt8).toArray⟩] 24)).heap.size (w4.alloc (Obj.cells #[.string ⟨([] : List UInt8).toArray⟩, .slice fp np cp, .string ⟨([] : List UInt8).toArray⟩] 24)) wr) (fun i _ => n - (intOf i).toNat)
  case atStart => exact ⟨0, _, rfl, Nat.zero_le _, (by have h := RV9.out; rw [RowS, hn'] at h; exact h), BV9.out⟩
  case round =>
    obtain ⟨k, xs, rfl, hk, hrow, hbx⟩ := hrel
    by_cases hlt : k < n
    · obtain ⟨g, cap, hgv, hBg, hgl⟩ := World.ownsRow.form hrow (by omega)
      injection hgv with e1 e2 e3
      subst e1 e3
      have hkx : k < xs.length := by have := hrow.1; omega
      have c0 : wr.cell? ⟨g, k, none⟩ = some xs[k] := by rw [World.ownsRow.cellAt hrow k (by omega), List.getElem?_eq_getElem hkx]
      have f0 := World.ownsRow.frozenAt hrow k
      have HST := Lib.hid ((World.ownsRow.stored hrow k (.string ⟨#[111, 116, 104, 101, 114]⟩)).1)
      have HBX := Lib.hid (hbx.setCell (p := ⟨g, k, none⟩) hBg (.string ⟨#[111, 116, 104, 101, 114]⟩))
      clear hrow hbx
      go_wp2
      go_roundw
      case rel => exact ⟨k + 1, _, by go_num, by omega, HST.out, HBX.out⟩
      case measure => simp [intOf]; omega
    · have BX := Lib.hid hbx
      clear hrow hbx
      have D11 := Lib.hid (D4.out.below BX.out)
      have C11 := Lib.hid (C5.out.below BX.out)
      have gA := D11.out.1
      have a0 := (D11.out.2 0 _ rfl).1
      have a1 := (D11.out.2 1 _ rfl).1
      have a2 := (D11.out.2 2 _ rfl).1
      have gB := C11.out.1
      have b0 := (C11.out.2 0 _ rfl).1
      have b1 := (C11.out.2 1 _ rfl).1
      have b2 := (C11.out.2 2 _ rfl).1
      clear D11 C11
      go_wp2_with fail
      refine (kln_to ⟨an, ap, av⟩ ⟨an, ap, av⟩ _ _ true _ (HU5.out.below BX.out) ((HA.out.below B5.out).below BX.out) n5 n5 (fun p hp => (SM.out p hp).2.1) (fun p hp => (SM.out p hp).2.1) (Lib.hid (decide_eq_true rfl))).mono ?_
      rintro e u1 ⟨rfl, k1⟩
      have BX1 := Lib.hid (bstep BX.out k1)
      have C11 := Lib.hid (C5.out.below BX1.out)
      have z0 := (C11.out.2 0 _ rfl).1
      have z1 := (C11.out.2 1 _ rfl).1
      have z2 := (C11.out.2 2 _ rfl).1
      clear k1 gA gB a0 a1 a2 b0 b1 b2
      have gB := C11.out.1
      go_wp2_with fail
      refine (rln_to an av _ ap rb _ n1 n2 ((HA.out.below B5.out).below BX1.out) n5 SM.out HRB).mono ?_
      rintro e u2 ⟨rfl, k1⟩
      have BX2 := Lib.hid (bstep BX1.out k1)
      have D12 := Lib.hid (D4.out.below BX2.out)
      have C12 := Lib.hid (C5.out.below BX2.out)
      have gA := D12.out.1
      have y0 := (D12.out.2 0 _ rfl).1
      have y1 := (D12.out.2 1 _ rfl).1
      have y2 := (D12.out.2 2 _ rfl).1
      clear k1 gB z0 z1 z2 C11 BX BX1
      cases rb with
      | false =>
        have eT : T = [] := by have := HT.out.1; rw [lnT, if_neg (by rw [HRB.out]; decide)] at this; exact this.symm
        have eE : E = 18 := by have := HT.out.2; rw [lnE, if_neg (by rw [HRB.out]; decide)] at this; exact this.symm
        have HE18 : Hid (lnE ⟨an, ap, av⟩ = 18) := Lib.hid (by rw [HT.out.2, eE])
        subst eT eE
        go_wp2_with fail
        refine (lchk_to an av _ ap 18 _ n1 n2 (HU5.out.below BX2.out) n5 SM.out HE18).mono ?_
        rintro e u3 ⟨rfl, k1⟩
        have BX3 := Lib.hid (bstep BX2.out k1)
        clear k1
        go_wp2_with fail
        refine (wakes18_any _).mono ?_
        rintro e u4 ⟨rfl, k1⟩
        go_wp2
        go_ret
        exact ⟨rfl, bstep (bstep B5.out BX3.out) k1⟩
      | true =>
        have eE : E = 0 := by have := HT.out.2; rw [lnE, if_pos (by rw [HRB.out])] at this; exact this.symm
        have eF : Hid (lineF ⟨an, ap, av⟩ = T) := Lib.hid (by have := HT.out.1; rw [lnT, if_pos (by rw [HRB.out])] at this; exact this)
        have HE0 : Hid (lnE ⟨an, ap, av⟩ = 0) := Lib.hid (by rw [HT.out.2, eE])
        have eQ : ((⟨T.toArray⟩ : ByteArray).toList == (⟨T.toArray⟩ : ByteArray).toList) = true := beq_self_eq_true _
        subst eE
        go_wp2_with fail
        refine (lchk_to an av _ ap 0 _ n1 n2 (HU5.out.below BX2.out) n5 SM.out HE0).mono ?_
        rintro e u3 ⟨rfl, k1⟩
        have BX3 := Lib.hid (bstep BX2.out k1)
        have C13 := Lib.hid (C12.out.below k1)
        have gB := C13.out.1
        have z0 := (C13.out.2 0 _ rfl).1
        have z1 := (C13.out.2 1 _ rfl).1
        have z2 := (C13.out.2 2 _ rfl).1
        clear k1 gA y0 y1 y2
        go_wp2_with fail
        refine (rlt_to an av _ ap _ HRB LA ((HA.out.below B5.out).below BX3.out) T eF).mono ?_
        rintro e u4 ⟨rfl, k1⟩
        have BX4 := Lib.hid (bstep BX3.out k1)
        clear k1 z0 z1 z2
        go_wp2_with fail
        refine (wakes18_any _).mono ?_
        rintro e u5 ⟨rfl, k1⟩
        go_wp2
        go_ret
        exact ⟨rfl, bstep (bstep B5.out BX4.out) k1⟩
set_option maxHeartbeats 25600000 in
set_option maxRecDepth 100000 in
theorem lex_10 (an av : List UInt8) (ap : List PV) (fa : Option Addr) (na ca : Nat) (s nm : ByteArray) (S N : List UInt8) (ln lv : List UInt8) (lp : List PV) (w : World) (hs : s.size ≤ 1000) (hn : nm.size ≤ 200) (hS : Hid (s.data.toList = S)) (hN : Hid (nm.data.toList = N)) (hX : Hid (lnX S = some ⟨ln, lp, lv⟩)) (hO : Hid (pmL N ap = none)) (HA : Hid (ParsV w (.slice fa na ca) ap)) (LA : Hid (Light ⟨an, ap, av⟩)) (a3 : Hid (BdP ap)) :
    Calls Try.prog 3 #[.agg #[.string ⟨an.toArray⟩, .slice fa na ca, .string ⟨av.toArray⟩], .string s, .string nm] w fun e w' => e = .returned (.bool true) ∧ Below w.heap.size w w' := by
  have l1 := LA.out
  have n1 : an.length ≤ 1000000 := by have := l1.1; simp only at this; omega
  have n2 : av.length ≤ 1000000 := by have := l1.2.1; simp only at this; omega
  have n5 : ap.length ≤ 1000000 := by have := l1.2.2.1; simp only at this; omega
  have n6 : ap.length ≤ 20 := by have := l1.2.2.1; simp only at this; omega
  have LP : Hid (∀ p ∈ ap, LightP p) := Lib.hid l1.2.2.2
  have SM : Hid (∀ p ∈ ap, smlP p) := Lib.hid (light_sml l1)
  have BG : Hid ((psT ap).length ≤ 500000000) := Lib.hid (by have := (light_len l1).1; simp only at this; omega)
  have x1 : an.length ≤ maxLen := by unfold maxLen; omega
  have x2 : av.length ≤ maxLen := by unfold maxLen; omega
  have X1 := Lib.hid x1
  have X2 := Lib.hid x2
  obtain ⟨T, hT⟩ : ∃ T, lnT ⟨an, ap, av⟩ = T := ⟨_, rfl⟩
  obtain ⟨E, hE⟩ : ∃ E, lnE ⟨an, ap, av⟩ = E := ⟨_, rfl⟩
  obtain ⟨rb, hrb⟩ : ∃ r, lnB ⟨an, ap, av⟩ = r := ⟨_, rfl⟩
  have HT := Lib.hid (And.intro hT hE)
  have HRB := Lib.hid hrb
  have HX := Lib.hid (ls_pl hX.out)
  obtain ⟨M, hM⟩ : ∃ M, ap.length = M := ⟨_, rfl⟩
  have HM := Lib.hid hM
  clear l1 x1 x2 hT hE hrb hX hM
  have C0 := Lib.hid (Cs.new w [.string ⟨an.toArray⟩, .slice fa na ca, .string ⟨av.toArray⟩] 24)
  have BB := Lib.hid ((Below.refl w.heap.size w).alloc (Nat.le_refl _) (Obj.cells #[.string ⟨an.toArray⟩, .slice fa na ca, .string ⟨av.toArray⟩] 24))
  go_enter Try.func3, Try.ntmps3
  go_wp2_with fail
  refine (hvy_to an av _ ap _ X1.out X2.out (HA.out.below BB.out) a3.out).mono ?_
  rintro e w1 ⟨r, rfl, hr, k1⟩
  have C1 := Lib.hid (C0.out.below k1)
  have B1 := Lib.hid (bstep BB.out k1)
  have g0 : w.heap.size < w1.heap.size := C1.out.1
  have z0 := (C1.out.2 0 _ rfl).1
  have z1 := (C1.out.2 1 _ rfl).1
  have z2 := (C1.out.2 2 _ rfl).1
  clear k1 C0 BB hr
  cases r with
  | true =>
    go_wp2
    go_ret
    exact ⟨rfl, B1.out⟩
  | false =>
  go_wp2_with fail
  refine (twl_to _ _ _ ap _ (HA.out.below B1.out) n6 LP.out).mono ?_
  rintro e w2 ⟨u, rfl, hu, k1⟩
  have C2 := Lib.hid (C1.out.below k1)
  have B2 := Lib.hid (bstep B1.out k1)
  obtain ⟨fu, cu, hux⟩ := hu.form
  subst hux
  rw [HM.out] at hu ⊢
  have HU2 := Lib.hid hu.pars
  have D2 := Lib.hid (Cs.new w2 [.string ⟨an.toArray⟩, .slice fu M cu, .string ⟨av.toArray⟩] 24)
  have k2 := (Below.refl w2.heap.size w2).alloc (Nat.le_refl _) (Obj.cells #[.string ⟨an.toArray⟩, .slice fu M cu, .string ⟨av.toArray⟩] 24)
  have HU3 := Lib.hid (HU2.out.below k2)
  have C3 := Lib.hid (C2.out.below k2)
  have B3 := Lib.hid (bstep B2.out k2)
  clear k1 k2 C1 B1 z0 z1 z2 g0 hu HU2 C2 B2
  go_wp2_with fail
  refine (ltx_to an av _ ap T E _ n1 n2 HU3.out n5 SM.out BG.out HT).mono ?_
  rintro e w3 ⟨rfl, k1⟩
  have D3 := Lib.hid (D2.out.below k1)
  have C4 := Lib.hid (C3.out.below k1)
  have B4 := Lib.hid (bstep B3.out k1)
  have HU4 := Lib.hid (HU3.out.below k1)
  clear k1 D2 C3 B3 HU3
  go_wp2_with fail
  refine (lp_at s S (0, ⟨ln, lp, lv⟩) _ (by omega) hS (Lib.hid HX.out.1)).mono ?_
  rintro e w4 ⟨pv, rfl, hq, k1⟩
  obtain ⟨fp, np, cp, hpv⟩ : ∃ a n c, pv = .slice a n c := by obtain ⟨a, n, c, h, _⟩ := hq.out.1; exact ⟨a, n, c, h⟩
  subst hpv
  have P4 := Lib.hid (Cs.new w4 [.string ⟨(ln : List UInt8).toArray⟩, .slice fp np cp, .string ⟨(lv : List UInt8).toArray⟩] 24)
  have k2 := (Below.refl w4.heap.size w4).alloc (Nat.le_refl _) (Obj.cells #[.string ⟨(ln : List UInt8).toArray⟩, .slice fp np cp, .string ⟨(lv : List UInt8).toArray⟩] 24)
  have PV4 := Lib.hid (hq.out.1.below k2)
  have PB := Lib.hid (hq.out.2.2.2)
  have D4 := Lib.hid ((D3.out.below k1).below k2)
  have C5 := Lib.hid ((C4.out.below k1).below k2)
  have B5 := Lib.hid (bstep (bstep B4.out k1) k2)
  have HU5 := Lib.hid ((HU4.out.below k1).below k2)
  have g2 : w2.heap.size < w4.heap.size := (D3.out.below k1).1
  have y0 := (D4.out.2 0 _ rfl).1
  have y1 := (D4.out.2 1 _ rfl).1
  have y2 := (D4.out.2 2 _ rfl).1
  have y0' := ((D3.out.below k1).2 0 _ rfl).1
  have y1' := ((D3.out.below k1).2 1 _ rfl).1
  have y2' := ((D3.out.below k1).2 2 _ rfl).1
  clear k1 k2 D3 C4 B4 HU4 hq
  go_wp2_with fail
  refine (lpo_to an av _ ap nm N _ (by omega) hN.out HU5.out n5 (fun p hp => by have h := LP.out p hp; have h1 := h.1; have h2 := h.2.1; exact ⟨by omega, by omega⟩)).mono ?_
  rintro e w5 ⟨v, bb, rfl, hm, k1⟩

  have hm' := hm.out
  rw [hO.out] at hm'
  obtain ⟨rfl, rfl⟩ := hm'
  have BV5 := Lib.hid k1
  have D5 := Lib.hid (D4.out.below k1)
  have C6 := Lib.hid (C5.out.below k1)
  have P5 := Lib.hid (P4.out.below k1)
  have PV5 := Lib.hid (PV4.out.below k1)
  have B6 := Lib.hid (bstep B5.out k1)
  have s45 : w4.heap.size + 1 ≤ w5.heap.size := by have := k1.size; simpa using this
  clear hm k1 P4 PV4 y0 y1 y2 y0' y1' y2'
  go_wp2_with fail
  refine (rpl_to s S _ (by omega) hS).mono ?_
  rw [HX.out.2]
  rintro e w6 ⟨qv, rfl, hq, k1⟩
  obtain ⟨fq, nq, cq, hqv⟩ : ∃ a n c, qv = .slice a n c := by obtain ⟨a, n, c, h, _⟩ := hq.out.1; exact ⟨a, n, c, h⟩
  subst hqv
  have Q6 := Lib.hid (Cs.new w6 [.string ⟨(ln : List UInt8).toArray⟩, .slice fq nq cq, .string ⟨(lv : List UInt8).toArray⟩] 24)
  have k2 := (Below.refl w6.heap.size w6).alloc (Nat.le_refl _) (Obj.cells #[.string ⟨(ln : List UInt8).toArray⟩, .slice fq nq cq, .string ⟨(lv : List UInt8).toArray⟩] 24)
  have QV6 := Lib.hid (hq.out.1.below k2)
  have QB := Lib.hid (hq.out.2)
  have D6 := Lib.hid ((D5.out.below k1).below k2)
  have C7 := Lib.hid ((C6.out.below k1).below k2)
  have P6 := Lib.hid ((P5.out.below k1).below k2)
  have PV6 := Lib.hid ((PV5.out.below k1).below k2)
  have B7 := Lib.hid (bstep (bstep B6.out k1) k2)
  have BV6 := Lib.hid (bstep (bstep BV5.out k1) k2)
  have g5 : w.heap.size < w6.heap.size := (C6.out.below k1).1
  have z0 := ((C6.out.below k1).2 0 _ rfl).1
  have z1 := ((C6.out.below k1).2 1 _ rfl).1
  have z2 := ((C6.out.below k1).2 2 _ rfl).1
  have z0' := (C7.out.2 0 _ rfl).1
  have z1' := (C7.out.2 1 _ rfl).1
  have z2' := (C7.out.2 2 _ rfl).1
  have s56 := k1.size
  clear k1 k2 D5 C6 P5 PV5 B6 hq
  go_wp2_with fail
  refine (rpm_to an av _ ap nm N _ (by omega) hN.out (HA.out.below B7.out) n5 SM.out).mono ?_
  rintro e w7 ⟨v2, bb2, rfl, hm, k1⟩
  have hm' := hm.out
  rw [hO.out] at hm'
  obtain ⟨rfl, rfl⟩ := hm'
  have D7 := Lib.hid (D6.out.below k1)
  have C8 := Lib.hid (C7.out.below k1)
  have P7 := Lib.hid (P6.out.below k1)
  have Q7 := Lib.hid (Q6.out.below k1)
  have PV7 := Lib.hid (PV6.out.below k1)
  have QV7 := Lib.hid (QV6.out.below k1)
  have B8 := Lib.hid (bstep B7.out k1)
  have BV7 := Lib.hid (bstep BV6.out k1)
  have gp : w4.heap.size < w7.heap.size := P7.out.1
  have gq : w6.heap.size < w7.heap.size := Q7.out.1
  have p0 := (P7.out.2 0 _ rfl).1
  have p1 := (P7.out.2 1 _ rfl).1
  have p2 := (P7.out.2 2 _ rfl).1
  have q0 := (Q7.out.2 0 _ rfl).1
  have q1 := (Q7.out.2 1 _ rfl).1
  have q2 := (Q7.out.2 2 _ rfl).1
  have s67 : w6.heap.size + 1 ≤ w7.heap.size := by have := k1.size; simpa using this
  clear hm k1 D6 C7 P6 Q6 PV6 QV6 B7 z0 z1 z2 z0' z1' z2'
  go_wp2_with fail
  refine (kln_to ⟨ln, lp, lv⟩ ⟨ln, lp, lv⟩ _ _ true _ PV7.out QV7.out PB.out.1 QB.out.1 (fun p hp => (PB.out.2 p hp).2.1) (fun p hp => (QB.out.2 p hp).2.1) (Lib.hid (decide_eq_true rfl))).mono ?_
  rintro e w8 ⟨rfl, k1⟩
  have D8 := Lib.hid (D7.out.below k1)
  have C9 := Lib.hid (C8.out.below k1)
  have B9 := Lib.hid (bstep B8.out k1)
  have BV8 := Lib.hid (bstep BV7.out k1)
  have s78 := k1.size
  clear k1 D7 C8 P7 Q7 PV7 QV7 B8 p0 p1 p2 q0 q1 q2
  go_wp2_with fail
  refine (Opn.texts_any _ _ [] [] _ (TxtV.none _) (TxtV.none _) (by simp) (by simp)).mono ?_
  rintro e w9 ⟨tb, rfl, htb, m, rfl⟩
  have htb' : tb = true := htb.out.trans (decide_eq_true rfl)
  subst htb'
  have D9 := Lib.hid (D8.out.drewN m)
  have C10 := Lib.hid (C9.out.drewN m)
  have B10 := Lib.hid (below_drewN B9.out m)
  obtain ⟨w9, hw9⟩ : ∃ x, w8.drewN m = x := ⟨_, rfl⟩
  have s89 : w8.heap.size ≤ w9.heap.size := by rw [← hw9]; exact Nat.le_refl _
  have BV9 : Hid (Below (w4.alloc (Obj.cells #[.string ⟨(ln : List UInt8).toArray⟩, .slice fp np cp, .string ⟨(lv : List UInt8).toArray⟩] 24)).heap.size (w4.alloc (Obj.cells #[.string ⟨(ln : List UInt8).toArray⟩, .slice fp np cp, .string ⟨(lv : List UInt8).toArray⟩] 24)) w9) := Lib.hid (by rw [← hw9]; exact below_drewN BV8.out m)
  rw [hw9] at D9 C10 B10 ⊢
  clear hw9 D8 C9 B9 htb
  go_wp2_with fail
  go_loopw [18] (fun i wr => i = .int .i64 0 ∧ w9 = wr) (fun _ _ => 0)
  case atStart => exact ⟨rfl, rfl⟩
  case round =>
    obtain ⟨rfl, rfl⟩ := hrel
    have BX := BV9
    have D11 := Lib.hid (D4.out.below BX.out)
    have C11 := Lib.hid (C5.out.below BX.out)
    have gA := D11.out.1
    have a0 := (D11.out.2 0 _ rfl).1
    have a1 := (D11.out.2 1 _ rfl).1
    have a2 := (D11.out.2 2 _ rfl).1
    have gB := C11.out.1
    have b0 := (C11.out.2 0 _ rfl).1
    have b1 := (C11.out.2 1 _ rfl).1
    have b2 := (C11.out.2 2 _ rfl).1
    clear D11 C11
    go_wp2_with fail
    refine (kln_to ⟨an, ap, av⟩ ⟨an, ap, av⟩ _ _ true _ (HU5.out.below BX.out) ((HA.out.below B5.out).below BX.out) n5 n5 (fun p hp => (SM.out p hp).2.1) (fun p hp => (SM.out p hp).2.1) (Lib.hid (decide_eq_true rfl))).mono ?_
    rintro e u1 ⟨rfl, k1⟩
    have BX1 := Lib.hid (bstep BX.out k1)
    have C11 := Lib.hid (C5.out.below BX1.out)
    have z0 := (C11.out.2 0 _ rfl).1
    have z1 := (C11.out.2 1 _ rfl).1
    have z2 := (C11.out.2 2 _ rfl).1
    clear k1 gA gB a0 a1 a2 b0 b1 b2
    have gB := C11.out.1
    go_wp2_with fail
    refine (rln_to an av _ ap rb _ n1 n2 ((HA.out.below B5.out).below BX1.out) n5 SM.out HRB).mono ?_
    rintro e u2 ⟨rfl, k1⟩
    have BX2 := Lib.hid (bstep BX1.out k1)
    have D12 := Lib.hid (D4.out.below BX2.out)
    have C12 := Lib.hid (C5.out.below BX2.out)
    have gA := D12.out.1
    have y0 := (D12.out.2 0 _ rfl).1
    have y1 := (D12.out.2 1 _ rfl).1
    have y2 := (D12.out.2 2 _ rfl).1
    clear k1 gB z0 z1 z2 C11 BX BX1
    cases rb with
    | false =>
      have eT : T = [] := by have := HT.out.1; rw [lnT, if_neg (by rw [HRB.out]; decide)] at this; exact this.symm
      have eE : E = 18 := by have := HT.out.2; rw [lnE, if_neg (by rw [HRB.out]; decide)] at this; exact this.symm
      have HE18 : Hid (lnE ⟨an, ap, av⟩ = 18) := Lib.hid (by rw [HT.out.2, eE])
      subst eT eE
      go_wp2_with fail
      refine (lchk_to an av _ ap 18 _ n1 n2 (HU5.out.below BX2.out) n5 SM.out HE18).mono ?_
      rintro e u3 ⟨rfl, k1⟩
      have BX3 := Lib.hid (bstep BX2.out k1)
      clear k1
      go_wp2_with fail
      refine (wakes18_any _).mono ?_
      rintro e u4 ⟨rfl, k1⟩
      go_wp2
      go_ret
      exact ⟨rfl, bstep (bstep B5.out BX3.out) k1⟩
    | true =>
      have eE : E = 0 := by have := HT.out.2; rw [lnE, if_pos (by rw [HRB.out])] at this; exact this.symm
      have eF : Hid (lineF ⟨an, ap, av⟩ = T) := Lib.hid (by have := HT.out.1; rw [lnT, if_pos (by rw [HRB.out])] at this; exact this)
      have HE0 : Hid (lnE ⟨an, ap, av⟩ = 0) := Lib.hid (by rw [HT.out.2, eE])
      have eQ : ((⟨T.toArray⟩ : ByteArray).toList == (⟨T.toArray⟩ : ByteArray).toList) = true := beq_self_eq_true _
      subst eE
      go_wp2_with fail
      refine (lchk_to an av _ ap 0 _ n1 n2 (HU5.out.below BX2.out) n5 SM.out HE0).mono ?_
      rintro e u3 ⟨rfl, k1⟩
      have BX3 := Lib.hid (bstep BX2.out k1)
      have C13 := Lib.hid (C12.out.below k1)
      have gB := C13.out.1
      have z0 := (C13.out.2 0 _ rfl).1
      have z1 := (C13.out.2 1 _ rfl).1
      have z2 := (C13.out.2 2 _ rfl).1
      clear k1 gA y0 y1 y2
      go_wp2_with fail
      refine (rlt_to an av _ ap _ HRB LA ((HA.out.below B5.out).below BX3.out) T eF).mono ?_
      rintro e u4 ⟨rfl, k1⟩
      have BX4 := Lib.hid (bstep BX3.out k1)
      clear k1 z0 z1 z2
      go_wp2_with fail
      refine (wakes18_any _).mono ?_
      rintro e u5 ⟨rfl, k1⟩
      go_wp2
      go_ret
      exact ⟨rfl, bstep (bstep B5.out BX4.out) k1⟩
set_option maxHeartbeats 25600000 in
set_option maxRecDepth 100000 in
theorem lex_11 (an av : List UInt8) (ap : List PV) (fa : Option Addr) (na ca : Nat) (s nm : ByteArray) (S N : List UInt8) (ln lv : List UInt8) (lp : List PV) (vs : List (List UInt8)) (w : World) (hs : s.size ≤ 1000) (hn : nm.size ≤ 200) (hS : Hid (s.data.toList = S)) (hN : Hid (nm.data.toList = N)) (hX : Hid (lnX S = some ⟨ln, lp, lv⟩)) (hO : Hid (pmL N ap = some vs)) (HA : Hid (ParsV w (.slice fa na ca) ap)) (LA : Hid (Light ⟨an, ap, av⟩)) (a3 : Hid (BdP ap)) :
    Calls Try.prog 3 #[.agg #[.string ⟨an.toArray⟩, .slice fa na ca, .string ⟨av.toArray⟩], .string s, .string nm] w fun e w' => e = .returned (.bool true) ∧ Below w.heap.size w w' := by
  have l1 := LA.out
  have n1 : an.length ≤ 1000000 := by have := l1.1; simp only at this; omega
  have n2 : av.length ≤ 1000000 := by have := l1.2.1; simp only at this; omega
  have n5 : ap.length ≤ 1000000 := by have := l1.2.2.1; simp only at this; omega
  have n6 : ap.length ≤ 20 := by have := l1.2.2.1; simp only at this; omega
  have LP : Hid (∀ p ∈ ap, LightP p) := Lib.hid l1.2.2.2
  have SM : Hid (∀ p ∈ ap, smlP p) := Lib.hid (light_sml l1)
  have BG : Hid ((psT ap).length ≤ 500000000) := Lib.hid (by have := (light_len l1).1; simp only at this; omega)
  have x1 : an.length ≤ maxLen := by unfold maxLen; omega
  have x2 : av.length ≤ maxLen := by unfold maxLen; omega
  have X1 := Lib.hid x1
  have X2 := Lib.hid x2
  obtain ⟨T, hT⟩ : ∃ T, lnT ⟨an, ap, av⟩ = T := ⟨_, rfl⟩
  obtain ⟨E, hE⟩ : ∃ E, lnE ⟨an, ap, av⟩ = E := ⟨_, rfl⟩
  obtain ⟨rb, hrb⟩ : ∃ r, lnB ⟨an, ap, av⟩ = r := ⟨_, rfl⟩
  have HT := Lib.hid (And.intro hT hE)
  have HRB := Lib.hid hrb
  have HX := Lib.hid (ls_pl hX.out)
  obtain ⟨M, hM⟩ : ∃ M, ap.length = M := ⟨_, rfl⟩
  have HM := Lib.hid hM
  clear l1 x1 x2 hT hE hrb hX hM
  have C0 := Lib.hid (Cs.new w [.string ⟨an.toArray⟩, .slice fa na ca, .string ⟨av.toArray⟩] 24)
  have BB := Lib.hid ((Below.refl w.heap.size w).alloc (Nat.le_refl _) (Obj.cells #[.string ⟨an.toArray⟩, .slice fa na ca, .string ⟨av.toArray⟩] 24))
  go_enter Try.func3, Try.ntmps3
  go_wp2_with fail
  refine (hvy_to an av _ ap _ X1.out X2.out (HA.out.below BB.out) a3.out).mono ?_
  rintro e w1 ⟨r, rfl, hr, k1⟩
  have C1 := Lib.hid (C0.out.below k1)
  have B1 := Lib.hid (bstep BB.out k1)
  have g0 : w.heap.size < w1.heap.size := C1.out.1
  have z0 := (C1.out.2 0 _ rfl).1
  have z1 := (C1.out.2 1 _ rfl).1
  have z2 := (C1.out.2 2 _ rfl).1
  clear k1 C0 BB hr
  cases r with
  | true =>
    go_wp2
    go_ret
    exact ⟨rfl, B1.out⟩
  | false =>
  go_wp2_with fail
  refine (twl_to _ _ _ ap _ (HA.out.below B1.out) n6 LP.out).mono ?_
  rintro e w2 ⟨u, rfl, hu, k1⟩
  have C2 := Lib.hid (C1.out.below k1)
  have B2 := Lib.hid (bstep B1.out k1)
  obtain ⟨fu, cu, hux⟩ := hu.form
  subst hux
  rw [HM.out] at hu ⊢
  have HU2 := Lib.hid hu.pars
  have D2 := Lib.hid (Cs.new w2 [.string ⟨an.toArray⟩, .slice fu M cu, .string ⟨av.toArray⟩] 24)
  have k2 := (Below.refl w2.heap.size w2).alloc (Nat.le_refl _) (Obj.cells #[.string ⟨an.toArray⟩, .slice fu M cu, .string ⟨av.toArray⟩] 24)
  have HU3 := Lib.hid (HU2.out.below k2)
  have C3 := Lib.hid (C2.out.below k2)
  have B3 := Lib.hid (bstep B2.out k2)
  clear k1 k2 C1 B1 z0 z1 z2 g0 hu HU2 C2 B2
  go_wp2_with fail
  refine (ltx_to an av _ ap T E _ n1 n2 HU3.out n5 SM.out BG.out HT).mono ?_
  rintro e w3 ⟨rfl, k1⟩
  have D3 := Lib.hid (D2.out.below k1)
  have C4 := Lib.hid (C3.out.below k1)
  have B4 := Lib.hid (bstep B3.out k1)
  have HU4 := Lib.hid (HU3.out.below k1)
  clear k1 D2 C3 B3 HU3
  go_wp2_with fail
  refine (lp_at s S (0, ⟨ln, lp, lv⟩) _ (by omega) hS (Lib.hid HX.out.1)).mono ?_
  rintro e w4 ⟨pv, rfl, hq, k1⟩
  obtain ⟨fp, np, cp, hpv⟩ : ∃ a n c, pv = .slice a n c := by obtain ⟨a, n, c, h, _⟩ := hq.out.1; exact ⟨a, n, c, h⟩
  subst hpv
  have P4 := Lib.hid (Cs.new w4 [.string ⟨(ln : List UInt8).toArray⟩, .slice fp np cp, .string ⟨(lv : List UInt8).toArray⟩] 24)
  have k2 := (Below.refl w4.heap.size w4).alloc (Nat.le_refl _) (Obj.cells #[.string ⟨(ln : List UInt8).toArray⟩, .slice fp np cp, .string ⟨(lv : List UInt8).toArray⟩] 24)
  have PV4 := Lib.hid (hq.out.1.below k2)
  have PB := Lib.hid (hq.out.2.2.2)
  have D4 := Lib.hid ((D3.out.below k1).below k2)
  have C5 := Lib.hid ((C4.out.below k1).below k2)
  have B5 := Lib.hid (bstep (bstep B4.out k1) k2)
  have HU5 := Lib.hid ((HU4.out.below k1).below k2)
  have g2 : w2.heap.size < w4.heap.size := (D3.out.below k1).1
  have y0 := (D4.out.2 0 _ rfl).1
  have y1 := (D4.out.2 1 _ rfl).1
  have y2 := (D4.out.2 2 _ rfl).1
  have y0' := ((D3.out.below k1).2 0 _ rfl).1
  have y1' := ((D3.out.below k1).2 1 _ rfl).1
  have y2' := ((D3.out.below k1).2 2 _ rfl).1
  clear k1 k2 D3 C4 B4 HU4 hq
  go_wp2_with fail
  refine (lpo_to an av _ ap nm N _ (by omega) hN.out HU5.out n5 (fun p hp => by have h := LP.out p hp; have h1 := h.1; have h2 := h.2.1; exact ⟨by omega, by omega⟩)).mono ?_
  rintro e w5 ⟨v, bb, rfl, hm, k1⟩

  have hm' := hm.out
  rw [hO.out] at hm'
  obtain ⟨rfl, hrow⟩ := hm'
  obtain ⟨fv, cv, hvx⟩ := hrow.txt.slice
  subst hvx
  have vl20 : vs.length ≤ 20 := pm_len hO.out LP.out
  have RV5 := Lib.hid hrow
  clear hrow
  have BV5 := Lib.hid k1
  have D5 := Lib.hid (D4.out.below k1)
  have C6 := Lib.hid (C5.out.below k1)
  have P5 := Lib.hid (P4.out.below k1)
  have PV5 := Lib.hid (PV4.out.below k1)
  have B6 := Lib.hid (bstep B5.out k1)
  have s45 : w4.heap.size + 1 ≤ w5.heap.size := by have := k1.size; simpa using this
  clear hm k1 P4 PV4 y0 y1 y2 y0' y1' y2'
  go_wp2_with fail
  refine (rpl_to s S _ (by omega) hS).mono ?_
  rw [HX.out.2]
  rintro e w6 ⟨qv, rfl, hq, k1⟩
  obtain ⟨fq, nq, cq, hqv⟩ : ∃ a n c, qv = .slice a n c := by obtain ⟨a, n, c, h, _⟩ := hq.out.1; exact ⟨a, n, c, h⟩
  subst hqv
  have Q6 := Lib.hid (Cs.new w6 [.string ⟨(ln : List UInt8).toArray⟩, .slice fq nq cq, .string ⟨(lv : List UInt8).toArray⟩] 24)
  have k2 := (Below.refl w6.heap.size w6).alloc (Nat.le_refl _) (Obj.cells #[.string ⟨(ln : List UInt8).toArray⟩, .slice fq nq cq, .string ⟨(lv : List UInt8).toArray⟩] 24)
  have QV6 := Lib.hid (hq.out.1.below k2)
  have QB := Lib.hid (hq.out.2)
  have D6 := Lib.hid ((D5.out.below k1).below k2)
  have C7 := Lib.hid ((C6.out.below k1).below k2)
  have P6 := Lib.hid ((P5.out.below k1).below k2)
  have PV6 := Lib.hid ((PV5.out.below k1).below k2)
  have B7 := Lib.hid (bstep (bstep B6.out k1) k2)
  have RV6 := Lib.hid ((RV5.out.below k1).below k2)
  have BV6 := Lib.hid (bstep (bstep BV5.out k1) k2)
  have g5 : w.heap.size < w6.heap.size := (C6.out.below k1).1
  have z0 := ((C6.out.below k1).2 0 _ rfl).1
  have z1 := ((C6.out.below k1).2 1 _ rfl).1
  have z2 := ((C6.out.below k1).2 2 _ rfl).1
  have z0' := (C7.out.2 0 _ rfl).1
  have z1' := (C7.out.2 1 _ rfl).1
  have z2' := (C7.out.2 2 _ rfl).1
  have s56 := k1.size
  clear k1 k2 D5 C6 P5 PV5 B6 hq
  go_wp2_with fail
  refine (rpm_to an av _ ap nm N _ (by omega) hN.out (HA.out.below B7.out) n5 SM.out).mono ?_
  rintro e w7 ⟨v2, bb2, rfl, hm, k1⟩
  have hm' := hm.out
  rw [hO.out] at hm'
  obtain ⟨rfl, ht2⟩ := hm'
  obtain ⟨fv2, cv2, hv2⟩ := ht2.slice
  subst hv2
  have TV7 := Lib.hid ht2
  clear ht2
  have D7 := Lib.hid (D6.out.below k1)
  have C8 := Lib.hid (C7.out.below k1)
  have P7 := Lib.hid (P6.out.below k1)
  have Q7 := Lib.hid (Q6.out.below k1)
  have PV7 := Lib.hid (PV6.out.below k1)
  have QV7 := Lib.hid (QV6.out.below k1)
  have B8 := Lib.hid (bstep B7.out k1)
  have RV7 := Lib.hid (RV6.out.below k1)
  have BV7 := Lib.hid (bstep BV6.out k1)
  have gp : w4.heap.size < w7.heap.size := P7.out.1
  have gq : w6.heap.size < w7.heap.size := Q7.out.1
  have p0 := (P7.out.2 0 _ rfl).1
  have p1 := (P7.out.2 1 _ rfl).1
  have p2 := (P7.out.2 2 _ rfl).1
  have q0 := (Q7.out.2 0 _ rfl).1
  have q1 := (Q7.out.2 1 _ rfl).1
  have q2 := (Q7.out.2 2 _ rfl).1
  have s67 : w6.heap.size + 1 ≤ w7.heap.size := by have := k1.size; simpa using this
  clear hm k1 D6 C7 P6 Q6 PV6 QV6 B7 z0 z1 z2 z0' z1' z2'
  go_wp2_with fail
  refine (kln_to ⟨ln, lp, lv⟩ ⟨ln, lp, lv⟩ _ _ true _ PV7.out QV7.out PB.out.1 QB.out.1 (fun p hp => (PB.out.2 p hp).2.1) (fun p hp => (QB.out.2 p hp).2.1) (Lib.hid (decide_eq_true rfl))).mono ?_
  rintro e w8 ⟨rfl, k1⟩
  have D8 := Lib.hid (D7.out.below k1)
  have C9 := Lib.hid (C8.out.below k1)
  have B9 := Lib.hid (bstep B8.out k1)
  have RV8 := Lib.hid (RV7.out.below k1)
  have TV8 := Lib.hid (TV7.out.below k1)
  have BV8 := Lib.hid (bstep BV7.out k1)
  have s78 := k1.size
  clear k1 D7 C8 P7 Q7 PV7 QV7 B8 p0 p1 p2 q0 q1 q2
  go_wp2_with fail
  refine (Opn.texts_any _ _ vs vs _ RV8.out.txt TV8.out (by omega) (by omega)).mono ?_
  rintro e w9 ⟨tb, rfl, htb, m, rfl⟩
  have htb' : tb = true := htb.out.trans (decide_eq_true rfl)
  subst htb'
  have D9 := Lib.hid (D8.out.drewN m)
  have C10 := Lib.hid (C9.out.drewN m)
  have B10 := Lib.hid (below_drewN B9.out m)
  obtain ⟨w9, hw9⟩ : ∃ x, w8.drewN m = x := ⟨_, rfl⟩
  have s89 : w8.heap.size ≤ w9.heap.size := by rw [← hw9]; exact Nat.le_refl _
  have RV9 : Hid (RowS (w4.alloc (Obj.cells #[.string ⟨(ln : List UInt8).toArray⟩, .slice fp np cp, .string ⟨(lv : List UInt8).toArray⟩] 24)).heap.size w9 (.slice fv vs.length cv) vs) := Lib.hid (by rw [← hw9]; exact RV8.out.below (below_drewN (Below.refl _ _) m))
  have BV9 : Hid (Below (w4.alloc (Obj.cells #[.string ⟨(ln : List UInt8).toArray⟩, .slice fp np cp, .string ⟨(lv : List UInt8).toArray⟩] 24)).heap.size (w4.alloc (Obj.cells #[.string ⟨(ln : List UInt8).toArray⟩, .slice fp np cp, .string ⟨(lv : List UInt8).toArray⟩] 24)) w9) := Lib.hid (by rw [← hw9]; exact below_drewN BV8.out m)
  rw [hw9] at D9 C10 B10 ⊢
  clear hw9 D8 C9 B9 htb
  go_wp2_with fail
  obtain ⟨n, hn'⟩ : ∃ n, vs.length = n := ⟨_, rfl⟩
  rw [hn'] at vl20 RV9 ⊢
  go_loopw [18] (fun i wr => ∃ (k : Nat) (xs : List Value), i = .int .i64 k ∧ k ≤ n ∧ wr.ownsRow (w4.alloc (Obj.cells #[.string ⟨(ln : List UInt8).toArray⟩, .slice fp np cp, .string ⟨(lv : List UInt8).toArray⟩] 24)).heap.size 9 1 (.slice fv n cv) n xs ∧ Below (w4.alloc (Obj.cells #[.string ⟨(ln : List UInt8).toArray⟩, .slice fp np cp, .string ⟨(lv : List UInt8).toArray⟩] 24)).heap.size (w4.alloc (Obj.cells #[.string ⟨(ln : List UInt8).toArray⟩, .slice fp np cp, .string ⟨(lv : List UInt8).toArray⟩] 24)) wr) (fun i _ => n - (intOf i).toNat)
  case atStart => exact ⟨0, _, rfl, Nat.zero_le _, (by have h := RV9.out; rw [RowS, hn'] at h; exact h), BV9.out⟩
  case round =>
    obtain ⟨k, xs, rfl, hk, hrow, hbx⟩ := hrel
    by_cases hlt : k < n
    · obtain ⟨g, cap, hgv, hBg, hgl⟩ := World.ownsRow.form hrow (by omega)
      injection hgv with e1 e2 e3
      subst e1 e3
      have hkx : k < xs.length := by have := hrow.1; omega
      have c0 : wr.cell? ⟨g, k, none⟩ = some xs[k] := by rw [World.ownsRow.cellAt hrow k (by omega), List.getElem?_eq_getElem hkx]
      have f0 := World.ownsRow.frozenAt hrow k
      have HST := Lib.hid ((World.ownsRow.stored hrow k (.string ⟨#[111, 116, 104, 101, 114]⟩)).1)
      have HBX := Lib.hid (hbx.setCell (p := ⟨g, k, none⟩) hBg (.string ⟨#[111, 116, 104, 101, 114]⟩))
      clear hrow hbx
      go_wp2
      go_roundw
      case rel => exact ⟨k + 1, _, by go_num, by omega, HST.out, HBX.out⟩
      case measure => simp [intOf]; omega
    · have BX := Lib.hid hbx
      clear hrow hbx
      have D11 := Lib.hid (D4.out.below BX.out)
      have C11 := Lib.hid (C5.out.below BX.out)
      have gA := D11.out.1
      have a0 := (D11.out.2 0 _ rfl).1
      have a1 := (D11.out.2 1 _ rfl).1
      have a2 := (D11.out.2 2 _ rfl).1
      have gB := C11.out.1
      have b0 := (C11.out.2 0 _ rfl).1
      have b1 := (C11.out.2 1 _ rfl).1
      have b2 := (C11.out.2 2 _ rfl).1
      clear D11 C11
      go_wp2_with fail
      refine (kln_to ⟨an, ap, av⟩ ⟨an, ap, av⟩ _ _ true _ (HU5.out.below BX.out) ((HA.out.below B5.out).below BX.out) n5 n5 (fun p hp => (SM.out p hp).2.1) (fun p hp => (SM.out p hp).2.1) (Lib.hid (decide_eq_true rfl))).mono ?_
      rintro e u1 ⟨rfl, k1⟩
      have BX1 := Lib.hid (bstep BX.out k1)
      have C11 := Lib.hid (C5.out.below BX1.out)
      have z0 := (C11.out.2 0 _ rfl).1
      have z1 := (C11.out.2 1 _ rfl).1
      have z2 := (C11.out.2 2 _ rfl).1
      clear k1 gA gB a0 a1 a2 b0 b1 b2
      have gB := C11.out.1
      go_wp2_with fail
      refine (rln_to an av _ ap rb _ n1 n2 ((HA.out.below B5.out).below BX1.out) n5 SM.out HRB).mono ?_
      rintro e u2 ⟨rfl, k1⟩
      have BX2 := Lib.hid (bstep BX1.out k1)
      have D12 := Lib.hid (D4.out.below BX2.out)
      have C12 := Lib.hid (C5.out.below BX2.out)
      have gA := D12.out.1
      have y0 := (D12.out.2 0 _ rfl).1
      have y1 := (D12.out.2 1 _ rfl).1
      have y2 := (D12.out.2 2 _ rfl).1
      clear k1 gB z0 z1 z2 C11 BX BX1
      cases rb with
      | false =>
        have eT : T = [] := by have := HT.out.1; rw [lnT, if_neg (by rw [HRB.out]; decide)] at this; exact this.symm
        have eE : E = 18 := by have := HT.out.2; rw [lnE, if_neg (by rw [HRB.out]; decide)] at this; exact this.symm
        have HE18 : Hid (lnE ⟨an, ap, av⟩ = 18) := Lib.hid (by rw [HT.out.2, eE])
        subst eT eE
        go_wp2_with fail
        refine (lchk_to an av _ ap 18 _ n1 n2 (HU5.out.below BX2.out) n5 SM.out HE18).mono ?_
        rintro e u3 ⟨rfl, k1⟩
        have BX3 := Lib.hid (bstep BX2.out k1)
        clear k1
        go_wp2_with fail
        refine (wakes18_any _).mono ?_
        rintro e u4 ⟨rfl, k1⟩
        go_wp2
        go_ret
        exact ⟨rfl, bstep (bstep B5.out BX3.out) k1⟩
      | true =>
        have eE : E = 0 := by have := HT.out.2; rw [lnE, if_pos (by rw [HRB.out])] at this; exact this.symm
        have eF : Hid (lineF ⟨an, ap, av⟩ = T) := Lib.hid (by have := HT.out.1; rw [lnT, if_pos (by rw [HRB.out])] at this; exact this)
        have HE0 : Hid (lnE ⟨an, ap, av⟩ = 0) := Lib.hid (by rw [HT.out.2, eE])
        have eQ : ((⟨T.toArray⟩ : ByteArray).toList == (⟨T.toArray⟩ : ByteArray).toList) = true := beq_self_eq_true _
        subst eE
        go_wp2_with fail
        refine (lchk_to an av _ ap 0 _ n1 n2 (HU5.out.below BX2.out) n5 SM.out HE0).mono ?_
        rintro e u3 ⟨rfl, k1⟩
        have BX3 := Lib.hid (bstep BX2.out k1)
        have C13 := Lib.hid (C12.out.below k1)
        have gB := C13.out.1
        have z0 := (C13.out.2 0 _ rfl).1
        have z1 := (C13.out.2 1 _ rfl).1
        have z2 := (C13.out.2 2 _ rfl).1
        clear k1 gA y0 y1 y2
        go_wp2_with fail
        refine (rlt_to an av _ ap _ HRB LA ((HA.out.below B5.out).below BX3.out) T eF).mono ?_
        rintro e u4 ⟨rfl, k1⟩
        have BX4 := Lib.hid (bstep BX3.out k1)
        clear k1 z0 z1 z2
        go_wp2_with fail
        refine (wakes18_any _).mono ?_
        rintro e u5 ⟨rfl, k1⟩
        go_wp2
        go_ret
        exact ⟨rfl, bstep (bstep B5.out BX4.out) k1⟩
theorem lex_1 (A : LV) (va : Value) (s nm : ByteArray) (w : World) (h1 : ParsV w va A.ps) (hs : s.size ≤ maxLen) (hn : nm.size ≤ maxLen) (a1 : A.nm.length ≤ maxLen) (a2 : A.vl.length ≤ maxLen) (a3 : BdP A.ps) :
    Calls Try.prog 3 #[.agg #[.string ⟨A.nm.toArray⟩, va, .string ⟨A.vl.toArray⟩], .string s, .string nm] w fun e w' => e = .returned (.bool true) ∧ Below w.heap.size w w' := by
  obtain ⟨an, ap, av⟩ := A
  have HA := h1
  obtain ⟨fa, na, ca, hva, _⟩ := h1
  subst hva
  by_cases h : Light ⟨an, ap, av⟩ ∧ s.size ≤ 1000 ∧ nm.size ≤ 200
  · obtain ⟨LA, q1, q2⟩ := h
    cases hX : lnX s.data.toList with
    | none =>
      cases hO : pmL nm.data.toList ap with
      | none => exact lex_00 an av ap fa na ca s nm _ _ w q1 q2 (Lib.hid rfl) (Lib.hid rfl) (Lib.hid hX) (Lib.hid hO) (Lib.hid HA) (Lib.hid LA) (Lib.hid a3)
      | some vs => exact lex_01 an av ap fa na ca s nm _ _ vs w q1 q2 (Lib.hid rfl) (Lib.hid rfl) (Lib.hid hX) (Lib.hid hO) (Lib.hid HA) (Lib.hid LA) (Lib.hid a3)
    | some L =>
      obtain ⟨ln, lp, lv⟩ := L
      cases hO : pmL nm.data.toList ap with
      | none => exact lex_10 an av ap fa na ca s nm _ _ ln lv lp w q1 q2 (Lib.hid rfl) (Lib.hid rfl) (Lib.hid hX) (Lib.hid hO) (Lib.hid HA) (Lib.hid LA) (Lib.hid a3)
      | some vs => exact lex_11 an av ap fa na ca s nm _ _ ln lv lp vs w q1 q2 (Lib.hid rfl) (Lib.hid rfl) (Lib.hid hX) (Lib.hid hO) (Lib.hid HA) (Lib.hid LA) (Lib.hid a3)
  · exact lex_big an av ap fa na ca s nm w hs hn h (Lib.hid HA) a1 a2 (Lib.hid a3)
end Lin
end Go.Proofs.Ytdakpncfophjnaa
