/-
  LineBack: what is written is read; unlike lines have unlike texts.
-/
import Derived.Test.YtdakpncfophjnaaLinO
import Derived.Test.YtdakpncfophjnaaLinY
import Derived.Test.YtdakpncfophjnaaLinK
import Derived.Test.YtdakpncfophjnaaLinW
namespace Go.Proofs.Ytdakpncfophjnaa
open Go.RowKit
namespace Lin
open CutB Cel
open Opn (TxtV)
theorem zero_l : LV.zero = ⟨[], [], []⟩ := rfl
set_option maxHeartbeats 12800000 in
set_option maxRecDepth 100000 in
theorem lback_1 (A B : LV) (va vb : Value) (w : World) (h1 : ParsV w va A.ps) (h2 : ParsV w vb B.ps) (a1 : A.nm.length ≤ maxLen) (a2 : A.vl.length ≤ maxLen) (a3 : BdP A.ps) (b1 : B.nm.length ≤ maxLen) (b2 : B.vl.length ≤ maxLen) (b3 : BdP B.ps) :
    Calls Try.prog 4 #[.agg #[.string ⟨A.nm.toArray⟩, va, .string ⟨A.vl.toArray⟩], .agg #[.string ⟨B.nm.toArray⟩, vb, .string ⟨B.vl.toArray⟩]] w fun e w' => e = .returned (.bool true) ∧ Below w.heap.size w w' := by
  obtain ⟨an, ap, av⟩ := A
  obtain ⟨bn, bp, bv⟩ := B
  simp only at h1 h2 a1 a2 b1 b2 a3 b3 ⊢
  have HA := Lib.hid h1
  have HB := Lib.hid h2
  obtain ⟨fa, na, ca, hva⟩ : ∃ a n c, va = .slice a n c := by obtain ⟨a, n, c, h, _⟩ := h1; exact ⟨a, n, c, h⟩
  obtain ⟨fb, nb, cb, hvb⟩ : ∃ a n c, vb = .slice a n c := by obtain ⟨a, n, c, h, _⟩ := h2; exact ⟨a, n, c, h⟩
  subst hva hvb
  have A3 := Lib.hid a3
  have B3 := Lib.hid b3
  have C0 := Lib.hid (Cs.new w [.string ⟨an.toArray⟩, .slice fa na ca, .string ⟨av.toArray⟩] 24)
  have D0 := Lib.hid (Cs.new (w.alloc (Obj.cells #[.string ⟨an.toArray⟩, .slice fa na ca, .string ⟨av.toArray⟩] 24)) [.string ⟨bn.toArray⟩, .slice fb nb cb, .string ⟨bv.toArray⟩] 24)
  have BB := Lib.hid (((Below.refl w.heap.size w).alloc (Nat.le_refl _) (Obj.cells #[.string ⟨an.toArray⟩, .slice fa na ca, .string ⟨av.toArray⟩] 24)).alloc (by simp) (Obj.cells #[.string ⟨bn.toArray⟩, .slice fb nb cb, .string ⟨bv.toArray⟩] 24))
  have HA2 := Lib.hid (HA.out.below BB.out)
  have HB2 := Lib.hid (HB.out.below BB.out)
  have C1 := Lib.hid (C0.out.alloc (Obj.cells #[.string ⟨bn.toArray⟩, .slice fb nb cb, .string ⟨bv.toArray⟩] 24))
  have BS : Hid (w.heap.size + 1 = (w.alloc (Obj.cells #[.string ⟨an.toArray⟩, .slice fa na ca, .string ⟨av.toArray⟩] 24)).heap.size) := Lib.hid (by simp)
  have D1 : Hid (Cs (w.heap.size + 1) ((w.alloc (Obj.cells #[.string ⟨an.toArray⟩, .slice fa na ca, .string ⟨av.toArray⟩] 24)).alloc (Obj.cells #[.string ⟨bn.toArray⟩, .slice fb nb cb, .string ⟨bv.toArray⟩] 24)) [.string ⟨bn.toArray⟩, .slice fb nb cb, .string ⟨bv.toArray⟩]) := Lib.hid (by rw [BS.out]; exact D0.out)
  clear h1 h2 a3 b3 C0 D0 HA HB
  go_enter Try.func4, Try.ntmps4
  go_wp2_with fail
  refine (hvy_to an av _ ap _ a1 a2 HA2.out A3.out).mono ?_
  rintro e w1 ⟨r, rfl, hr, b⟩
  have C2 := Lib.hid (C1.out.below b)
  have D2 := Lib.hid (D1.out.below b)
  have HA3 := Lib.hid (HA2.out.below b)
  have HB3 := Lib.hid (HB2.out.below b)
  have B1 := Lib.hid (bstep BB.out b)
  have g0 : w.heap.size < w1.heap.size := C2.out.1
  have g1 : w.heap.size + 1 < w1.heap.size := D2.out.1
  clear b C1 D1 HA2 HB2 BB
  cases r with
  | true =>
    go_wp2
    go_ret
    exact ⟨rfl, B1.out⟩
  | false =>
  have LA := Lib.hid (hr.out rfl)
  clear hr
  have z0 := (D2.out.2 0 _ rfl).1
  have z1 := (D2.out.2 1 _ rfl).1
  have z2 := (D2.out.2 2 _ rfl).1
  go_wp2_with fail
  refine (hvy_to bn bv _ bp _ b1 b2 HB3.out B3.out).mono ?_
  rintro e w2 ⟨r, rfl, hr, b⟩
  have C3 := Lib.hid (C2.out.below b)
  have D3 := Lib.hid (D2.out.below b)
  have HA4 := Lib.hid (HA3.out.below b)
  have HB4 := Lib.hid (HB3.out.below b)
  have B2 := Lib.hid (bstep B1.out b)
  clear b C2 D2 HA3 HB3 B1 z0 z1 z2
  cases r with
  | true =>
    go_wp2
    go_ret
    exact ⟨rfl, B2.out⟩
  | false =>
  have LB := Lib.hid (hr.out rfl)
  clear hr
  have z0 := (C3.out.2 0 _ rfl).1
  have z1 := (C3.out.2 1 _ rfl).1
  have z2 := (C3.out.2 2 _ rfl).1
  obtain ⟨TA, hTA⟩ : ∃ T, lnT ⟨an, ap, av⟩ = T := ⟨_, rfl⟩
  obtain ⟨EA, hEA⟩ : ∃ T, lnE ⟨an, ap, av⟩ = T := ⟨_, rfl⟩
  obtain ⟨TB, hTB⟩ : ∃ T, lnT ⟨bn, bp, bv⟩ = T := ⟨_, rfl⟩
  obtain ⟨EB, hEB⟩ : ∃ T, lnE ⟨bn, bp, bv⟩ = T := ⟨_, rfl⟩
  have WA := Lib.hid (And.intro hTA hEA)
  have WB := Lib.hid (And.intro hTB hEB)
  have l1 := LA.out
  have l2 := LB.out
  have n1 : an.length ≤ 1000000 := by have := l1.1; simp only at this; omega
  have n2 : av.length ≤ 1000000 := by have := l1.2.1; simp only at this; omega
  have n3 : bn.length ≤ 1000000 := by have := l2.1; simp only at this; omega
  have n4 : bv.length ≤ 1000000 := by have := l2.2.1; simp only at this; omega
  have n5 : ap.length ≤ 1000000 := by have := l1.2.2.1; simp only at this; omega
  have n6 : bp.length ≤ 1000000 := by have := l2.2.2.1; simp only at this; omega
  have n7 : (psT ap).length ≤ 500000000 := by have := (light_len l1).1; simp only at this; omega
  have n8 : (psT bp).length ≤ 500000000 := by have := (light_len l2).1; simp only at this; omega
  clear l1 l2 hTA hEA hTB hEB
  go_wp2_with fail
  refine (ltx_to an av _ ap TA EA _ n1 n2 HA4.out n5 (light_sml LA.out) n7 WA).mono ?_
  rintro e w3 ⟨rfl, b⟩
  have C4 := Lib.hid (C3.out.below b)
  have D4 := Lib.hid (D3.out.below b)
  have HA5 := Lib.hid (HA4.out.below b)
  have HB5 := Lib.hid (HB4.out.below b)
  have B3' := Lib.hid (bstep B2.out b)
  clear b C3 D3 HA4 HB4 B2 z0 z1 z2
  have z0 := (D4.out.2 0 _ rfl).1
  have z1 := (D4.out.2 1 _ rfl).1
  have z2 := (D4.out.2 2 _ rfl).1
  go_wp2_with fail
  refine (ltx_to bn bv _ bp TB EB _ n3 n4 HB5.out n6 (light_sml LB.out) n8 WB).mono ?_
  rintro e w4 ⟨rfl, b⟩
  have C5 := Lib.hid (C4.out.below b)
  have D5 := Lib.hid (D4.out.below b)
  have HA6 := Lib.hid (HA5.out.below b)
  have HB6 := Lib.hid (HB5.out.below b)
  have B4 := Lib.hid (bstep B3'.out b)
  clear b C4 D4 HA5 HB5 B3' z0 z1 z2
  have hA : (lnB ⟨an, ap, av⟩ = true ∧ EA = 0 ∧ TA = lineF ⟨an, ap, av⟩) ∨ (EA = 18 ∧ TA = []) := by
    have h := WA.out
    rw [lnT, lnE] at h
    cases hb : lnB ⟨an, ap, av⟩ with
    | true => rw [hb, if_pos rfl, if_pos rfl] at h; exact Or.inl ⟨rfl, h.2.symm, h.1.symm⟩
    | false => rw [hb, if_neg (by decide), if_neg (by decide)] at h; exact Or.inr ⟨h.2.symm, h.1.symm⟩
  have hB : (lnB ⟨bn, bp, bv⟩ = true ∧ EB = 0 ∧ TB = lineF ⟨bn, bp, bv⟩) ∨ (EB = 18 ∧ TB = []) := by
    have h := WB.out
    rw [lnT, lnE] at h
    cases hb : lnB ⟨bn, bp, bv⟩ with
    | true => rw [hb, if_pos rfl, if_pos rfl] at h; exact Or.inl ⟨rfl, h.2.symm, h.1.symm⟩
    | false => rw [hb, if_neg (by decide), if_neg (by decide)] at h; exact Or.inr ⟨h.2.symm, h.1.symm⟩
  have hcs : (EA = 18 ∧ TA = [] ∧ (EB = 18 ∧ TB = [] ∨ EB = 0)) ∨ (EA = 0 ∧ EB = 18 ∧ TB = []) ∨ (EA = 0 ∧ EB = 0 ∧ Hid (lnB ⟨an, ap, av⟩ = true ∧ lnB ⟨bn, bp, bv⟩ = true ∧ TA = lineF ⟨an, ap, av⟩ ∧ TB = lineF ⟨bn, bp, bv⟩)) := by
    rcases hA with ⟨x1, x2, x3⟩ | ⟨x1, x2⟩
    · rcases hB with ⟨y1, y2, y3⟩ | ⟨y1, y2⟩
      · exact Or.inr (Or.inr ⟨x2, y2, Lib.hid ⟨x1, y1, x3, y3⟩⟩)
      · exact Or.inr (Or.inl ⟨x2, y1, y2⟩)
    · rcases hB with ⟨y1, y2, y3⟩ | ⟨y1, y2⟩
      · exact Or.inl ⟨x1, x2, Or.inr y2⟩
      · exact Or.inl ⟨x1, x2, Or.inl ⟨y1, y2⟩⟩
  clear hA hB WA WB
  rcases hcs with ⟨rfl, rfl, ⟨rfl, rfl⟩ | rfl⟩ | ⟨rfl, rfl, rfl⟩ | ⟨rfl, rfl, hG⟩
  · go_wp2_with fail
    refine (wakes18_any _).mono ?_
    rintro e w5 ⟨rfl, b⟩
    go_wp2
    go_ret
    exact ⟨rfl, bstep B4.out b⟩
  · go_wp2_with fail
    refine (wakes18_any _).mono ?_
    rintro e w5 ⟨rfl, b⟩
    go_wp2
    go_ret
    exact ⟨rfl, bstep B4.out b⟩
  · go_wp2_with fail
    refine (wakes18_any _).mono ?_
    rintro e w5 ⟨rfl, b⟩
    go_wp2
    go_ret
    exact ⟨rfl, bstep B4.out b⟩
  · have hls : TA.length ≤ 800000 := by rw [hG.out.2.2.1]; have := (light_len LA.out).2; omega
    have hP := Lib.hid (show lnP TA = (0, ⟨an, ap, av⟩) from by rw [hG.out.2.2.1]; exact ln_back _ hG.out.1)
    obtain ⟨tb, htb⟩ : ∃ tb, decide ((⟨an, ap, av⟩ : LV) = ⟨bn, bp, bv⟩) = tb := ⟨_, rfl⟩
    have HTB := Lib.hid htb
    have hst : ((⟨TA.toArray⟩ : ByteArray).toList == (⟨TB.toArray⟩ : ByteArray).toList) = tb := by
      cases tb with
      | true =>
        have e := of_decide_eq_true htb
        have : TA = TB := by rw [hG.out.2.2.1, hG.out.2.2.2, e]
        rw [this]; exact beq_self_eq_true _
      | false =>
        have e := of_decide_eq_false htb
        exact ba_beq (fun q => e (ln_inj hG.out.1 hG.out.2.1 (by rw [← hG.out.2.2.1, ← hG.out.2.2.2, q])))
    obtain ⟨XA, hXA⟩ : ∃ X : ByteArray, ⟨TA.toArray⟩ = X := ⟨_, rfl⟩
    obtain ⟨XB, hXB⟩ : ∃ X : ByteArray, ⟨TB.toArray⟩ = X := ⟨_, rfl⟩
    have hXs : XA.size ≤ 800000 := by rw [← hXA]; exact hls
    have hXd := Lib.hid (show XA.data.toList = TA from by rw [← hXA])
    rw [hXA, hXB] at hst
    rw [hXA, hXB]
    clear htb hG hls hXA hXB
    go_wp2_with fail
    refine (lp_at XA TA (0, ⟨an, ap, av⟩) _ hXs hXd hP).mono ?_
    rintro e w5 ⟨pv, rfl, hq, b⟩
    have C6 := Lib.hid (C5.out.below b)
    have D6 := Lib.hid (D5.out.below b)
    have HA7 := Lib.hid (HA6.out.below b)
    have HB7 := Lib.hid (HB6.out.below b)
    have B5 := Lib.hid (bstep B4.out b)
    have Q1 := Lib.hid hq.out.1
    obtain ⟨fp, np, cp, hpv⟩ : ∃ a n c, pv = .slice a n c := by obtain ⟨a, n, c, h, _⟩ := hq.out.1; exact ⟨a, n, c, h⟩
    subst hpv
    clear b C5 D5 HA6 HB6 B4 hq
    have k1 := (Below.refl w5.heap.size w5).alloc (Nat.le_refl _) (Obj.cells #[.string ⟨an.toArray⟩, .slice fp np cp, .string ⟨av.toArray⟩] 24)
    have C7 := Lib.hid (C6.out.below k1)
    have D7 := Lib.hid (D6.out.below k1)
    have HA8 := Lib.hid (HA7.out.below k1)
    have HB8 := Lib.hid (HB7.out.below k1)
    have Q2 := Lib.hid (Q1.out.below k1)
    have B6 := Lib.hid (bstep B5.out k1)
    have g5 : w.heap.size < w5.heap.size := C6.out.1
    have z0 := (C6.out.2 0 _ rfl).1
    have z1 := (C6.out.2 1 _ rfl).1
    have z2 := (C6.out.2 2 _ rfl).1
    clear k1 HA7 HB7 Q1 B5 D6
    go_wp2_with fail
    refine (kln_to ⟨an, ap, av⟩ ⟨an, ap, av⟩ _ _ true _ Q2.out HA8.out n5 n5 (fun p hp => (light_sml LA.out p hp).2.1) (fun p hp => (light_sml LA.out p hp).2.1) (Lib.hid (decide_eq_true rfl))).mono ?_
    rintro e w6 ⟨rfl, b⟩
    have C8 := Lib.hid (C7.out.below b)
    have D8 := Lib.hid (D7.out.below b)
    have HA9 := Lib.hid (HA8.out.below b)
    have HB9 := Lib.hid (HB8.out.below b)
    have B7 := Lib.hid (bstep B6.out b)
    clear b C7 D7 HA8 HB8 B6 z0 z1 z2 C6
    have z0 := (C8.out.2 0 _ rfl).1
    have z1 := (C8.out.2 1 _ rfl).1
    have z2 := (C8.out.2 2 _ rfl).1
    have y0 := (D8.out.2 0 _ rfl).1
    have y1 := (D8.out.2 1 _ rfl).1
    have y2 := (D8.out.2 2 _ rfl).1
    go_wp2_with fail
    refine (kln_to ⟨an, ap, av⟩ ⟨bn, bp, bv⟩ _ _ tb _ HA9.out HB9.out n5 n6 (fun p hp => (light_sml LA.out p hp).2.1) (fun p hp => (light_sml LB.out p hp).2.1) HTB).mono ?_
    rintro e w7 ⟨rfl, b⟩
    have B8 := Lib.hid (bstep B7.out b)
    clear b B7 C8 D8 z0 z1 z2 y0 y1 y2
    cases tb with
    | true =>
      go_wp2_with fail
      refine (wakes18_any _).mono ?_
      rintro e w8 ⟨rfl, b⟩
      go_wp2
      go_ret
      exact ⟨rfl, bstep B8.out b⟩
    | false =>
      go_wp2_with fail
      refine (wakes18_any _).mono ?_
      rintro e w8 ⟨rfl, b⟩
      go_wp2
      go_ret
      exact ⟨rfl, bstep B8.out b⟩
end Lin
end Go.Proofs.Ytdakpncfophjnaa
