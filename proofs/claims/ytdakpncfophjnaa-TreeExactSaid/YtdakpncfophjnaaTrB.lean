/-
  Package tree: compIsRight of whatever component.
-/
import Derived.Test.YtdakpncfophjnaaTrA
import Derived.Test.YtdakpncfophjnaaWrdX
namespace Go.Proofs.Ytdakpncfophjnaa
open Go.RowKit
namespace Tre
open Lin CutB Cel Ap
open Opn (TxtV)
/-- Small enough to be walked. -/
def smlL (l : LV) : Prop := l.nm.length ≤ 1000 ∧ l.vl.length ≤ 1000000 ∧ l.ps.length ≤ 1000000 ∧ (∀ p ∈ l.ps, smlP p)
def smlC (c : CV) : Prop := c.nm.length ≤ 1000000 ∧ c.ls.length ≤ 1000000 ∧ (∀ l ∈ c.ls, smlL l)
theorem sn_to (a : ByteArray) (A B : List UInt8) (b : ByteArray) (r : Bool) (w : World) (hA : a = ⟨A.toArray⟩) (hB : b = ⟨B.toArray⟩) (ha : A.length ≤ 1000000) (hb : B.length ≤ 1000000) (h : Hid (smN A B = r)) :
    Calls Try.prog 45 #[.string a, .string b] w fun e w' => e = .returned (.bool r) ∧ Below w.heap.size w w' := by
  subst hA hB
  exact Wrd.same_big _ _ A B _ _ r w ha hb (Lib.hid rfl) (Lib.hid rfl) (Lib.hid rfl) (Lib.hid rfl) h
theorem lin_snoc (L : List LV) (k : Nat) (hk : k < L.length) (h : (L.take k).all linB = true) (hc : linB L[k] = true) : (L.take (k + 1)).all linB = true := by
  rw [List.take_succ_eq_append_getElem hk, List.all_append, h, List.all_cons, hc]
  rfl
theorem lin_no (L : List LV) (k : Nat) (hk : k < L.length) (hc : linB L[k] = false) : L.all linB = false := by
  cases e : L.all linB with
  | false => rfl
  | true =>
    have := List.all_eq_true.1 e L[k] (List.getElem_mem hk)
    rw [hc] at this; cases this
theorem lnE_nm (nm : List UInt8) : lnE ⟨nm, [], []⟩ = if nmB nm = true then 0 else 18 := by
  rw [lnE, lnB]
  show (if (nmB nm && (plnB [] && true)) = true then (0 : Int) else 18) = _
  have : plnB [] = true := rfl
  rw [this]
  simp
set_option maxHeartbeats 6400000 in
set_option maxRecDepth 100000 in
theorem cir_0 (nm : ByteArray) (N : List UInt8) (v : Value) (own : Int) (w : World) (hN : Hid (nm = ⟨N.toArray⟩)) (hs : N.length ≤ 1000000) (h : Hid (nmB N = false)) :
    Calls Try.prog 59 #[.agg #[.string nm, v, .int .i64 own]] w fun e w' => e = .returned (.bool false) ∧ Below w.heap.size w w' := by
  have HE : Hid (lnE ⟨N, [], []⟩ = 18) := Lib.hid (by rw [lnE_nm, if_neg (by rw [h.out]; decide)])
  go_enter Try.func59, Try.ntmps59
  go_wp2_with fail
  refine (lchk_v nm ⟨#[]⟩ N [] _ [] 18 _ hN.out rfl hs (by simp) (ParsV.none _) (by simp) (by simp) HE).mono ?_
  rintro e w1 ⟨rfl, k1⟩
  go_wp2
  go_ret
  exact ⟨rfl, bstep ((Below.refl _ _).alloc (Nat.le_refl _) _) k1⟩
set_option maxHeartbeats 12800000 in
set_option maxRecDepth 100000 in
theorem cir_1 (nm : ByteArray) (N : List UInt8) (A : Option Addr) (n c : Nat) (L : List LV) (own : Int) (r : Bool) (w : World) (hN : Hid (nm = ⟨N.toArray⟩)) (hs : N.length ≤ 1000000) (h : Hid (nmB N = true)) (hL : Hid (LinsV w (.slice A n c) L)) (hln : n ≤ 1000000) (hsm : Hid (∀ l ∈ L, smlL l)) (hr : Hid (L.all linB = r)) :
    Calls Try.prog 59 #[.agg #[.string nm, .slice A n c, .int .i64 own]] w fun e w' => e = .returned (.bool r) ∧ Below w.heap.size w w' := by
  have HE : Hid (lnE ⟨N, [], []⟩ = 0) := Lib.hid (by rw [lnE_nm, if_pos h.out])
  have hnl : Hid (L.length = n) := Lib.hid (by obtain ⟨a, c', e⟩ := hL.out.slice; injection e with _ e _; exact e.symm)
  have C0 := Lib.hid (Cs.new w [.string nm, .slice A n c, .int .i64 own] 63)
  go_enter Try.func59, Try.ntmps59
  go_wp2_with fail
  refine (lchk_v nm ⟨#[]⟩ N [] _ [] 0 _ hN.out rfl hs (by simp) (ParsV.none _) (by simp) (by simp) HE).mono ?_
  rintro e w1 ⟨rfl, k1⟩
  have C1 := Lib.hid (C0.out.below k1)
  have B1 := Lib.hid (bstep ((Below.refl w.heap.size w).alloc (Nat.le_refl _) (Obj.cells #[.string nm, .slice A n c, .int .i64 own] 63)) k1)
  have g0 := C1.out.1
  have z1 := (C1.out.2 1 _ rfl).1
  clear k1 C0
  go_wp2_with fail
  go_loopw [13] (fun i wr => ∃ k : Nat, k ≤ n ∧ i = .int .i64 k ∧ Hid ((L.take k).all linB = true) ∧ Below w.heap.size w wr) (fun i _ => n - (intOf i).toNat)
  case atStart => exact ⟨0, Nat.zero_le _, rfl, Lib.hid rfl, B1.out⟩
  case round =>
    obtain ⟨k, hk, rfl, hall, hb⟩ := hrel
    by_cases hlt : k < n
    · have hkl : k < L.length := by rw [hnl.out]; exact hlt
      obtain ⟨b, off, c', hAv, hbl, hc⟩ := hL.out.form (by omega)
      have hA : A = some ⟨b, off, none⟩ := by injection hAv
      subst hA
      obtain ⟨sv, c0, c1, c2, hpv⟩ := hc k hkl
      obtain ⟨sa, sn, sc, hsv⟩ : ∃ a n c, sv = .slice a n c := by obtain ⟨a, n, c, h, _⟩ := hpv; exact ⟨a, n, c, h⟩
      subst hsv
      obtain ⟨l, hl⟩ : ∃ l, L[k]'hkl = l := ⟨_, rfl⟩
      have s1 := hsm.out l (hl ▸ List.getElem_mem hkl)
      have HY : Hid (linB l = true → (L.take (k + 1)).all linB = true) := Lib.hid (fun q => lin_snoc L k hkl hall.out (by rw [hl]; exact q))
      have HNO : Hid (linB l = false → false = r) := Lib.hid (fun q => by rw [← hr.out]; exact (lin_no L k hkl (by rw [hl]; exact q)).symm)
      rw [hl] at c0 c2 hpv
      obtain ⟨X0, hX0⟩ : ∃ X : ByteArray, ⟨l.nm.toArray⟩ = X := ⟨_, rfl⟩
      obtain ⟨X2, hX2⟩ : ∃ X : ByteArray, ⟨l.vl.toArray⟩ = X := ⟨_, rfl⟩
      rw [hX0] at c0
      rw [hX2] at c2
      have H0 := Lib.hid hX0.symm
      have H2 := Lib.hid hX2.symm
      have d0 := (hb.cell (p := ⟨b, off + k * 3, none⟩) hbl).trans c0
      have d1 := (hb.cell (p := ⟨b, off + k * 3 + 1, none⟩) hbl).trans c1
      have d2 := (hb.cell (p := ⟨b, off + k * 3 + 2, none⟩) hbl).trans c2
      have HB := Lib.hid hb
      have HP := Lib.hid hpv
      have S1 := Lib.hid s1
      obtain ⟨b1, hb1⟩ : ∃ x, smN l.nm bgL = x := ⟨_, rfl⟩
      obtain ⟨b2, hb2⟩ : ∃ x, smN l.nm enL = x := ⟨_, rfl⟩
      obtain ⟨b3, hb3⟩ : ∃ x, lnE l = x := ⟨_, rfl⟩
      have N1 := Lib.hid hb1
      have N2 := Lib.hid hb2
      have N3 := Lib.hid hb3
      have D1 := Lib.hid (Cs.new wr [.string X0, .slice sa sn sc, .string X2] 24)
      have BW := Lib.hid (hb.alloc hb.size (Obj.cells #[.string X0, .slice sa sn sc, .string X2] 24))
      clear c0 c1 c2 hpv hX0 hX2 hc hAv hl s1 hb hb1 hb2 hb3 hall z1
      go_wp2_with fail
      refine (sn_to X0 l.nm bgL _ b1 _ H0.out rfl (by have := S1.out.1; omega) (by decide) N1).mono ?_
      rintro e w2 ⟨rfl, k1⟩
      have D2 := Lib.hid (D1.out.below k1)
      have B2 := Lib.hid (bstep BW.out k1)
      have g2 := D2.out.1
      have y0 := (D2.out.2 0 _ rfl).1
      have y1 := (D2.out.2 1 _ rfl).1
      have y2 := (D2.out.2 2 _ rfl).1
      clear k1 D1 BW d0 d1 d2
      cases b1 with
      | true =>
        have HR := Lib.hid (HNO.out (by rw [linB, N1.out]; rfl))
        go_wp2
        go_ret
        exact ⟨ret_b HR.out, B2.out⟩
      | false =>
        go_wp2_with fail
        refine (sn_to X0 l.nm enL _ b2 _ H0.out rfl (by have := S1.out.1; omega) (by decide) N2).mono ?_
        rintro e w3 ⟨rfl, k1⟩
        have D3 := Lib.hid (D2.out.below k1)
        have B3 := Lib.hid (bstep B2.out k1)
        have g3 := D3.out.1
        have x0 := (D3.out.2 0 _ rfl).1
        have x1 := (D3.out.2 1 _ rfl).1
        have x2 := (D3.out.2 2 _ rfl).1
        clear k1 D2 B2 y0 y1 y2 g2
        cases b2 with
        | true =>
          have HR := Lib.hid (HNO.out (by rw [linB, N1.out, N2.out]; rfl))
          go_wp2
          go_ret
          exact ⟨ret_b HR.out, B3.out⟩
        | false =>
          go_wp2_with fail
          refine (lchk_v X0 X2 l.nm l.vl (.slice sa sn sc) l.ps b3 _ H0.out H2.out (by have := S1.out.1; omega) S1.out.2.1 (HP.out.below B3.out) S1.out.2.2.1 S1.out.2.2.2 N3).mono ?_
          rintro e w4 ⟨rfl, k1⟩
          have B4 := Lib.hid (bstep B3.out k1)
          clear k1
          cases hlb : lnB l with
          | true =>
            have HYY := Lib.hid (HY.out (by rw [linB, N1.out, N2.out, hlb]; rfl))
            have e3 : b3 = 0 := by rw [← N3.out, lnE, if_pos hlb]
            subst e3
            clear hlb
            go_wp2
            go_roundw
            case rel => exact ⟨k + 1, by omega, by go_num, HYY, B4.out⟩
            case measure => simp [intOf]; omega
          | false =>
            have HR := Lib.hid (HNO.out (by rw [linB, N1.out, N2.out, hlb]; rfl))
            have e3 : b3 = 18 := by rw [← N3.out, lnE, if_neg (by rw [hlb]; decide)]
            subst e3
            clear hlb
            go_wp2
            go_ret
            exact ⟨ret_b HR.out, B4.out⟩
    · have HR : Hid (true = r) := Lib.hid (by
        have h1 := hall.out
        rw [List.take_of_length_le (by rw [hnl.out]; omega)] at h1
        rw [← hr.out, h1])
      go_wp2
      go_ret
      exact ⟨ret_b HR.out, hb⟩
theorem cir_to (c : CV) (nm : ByteArray) (v : Value) (r : Bool) (w : World) (hN : nm = ⟨c.nm.toArray⟩) (hv : LinsV w v c.ls) (hsm : smlC c) (hr : Hid (cmpB c = r)) :
    Calls Try.prog 59 #[.agg #[.string nm, v, .int .i64 c.own]] w fun e w' => e = .returned (.bool r) ∧ Below w.heap.size w w' := by
  have hr' := hr.out
  rw [cmpB] at hr'
  cases h : nmB c.nm with
  | false =>
    rw [h] at hr'
    have hr' : false = r := hr'
    subst hr'
    exact cir_0 nm c.nm v c.own w (Lib.hid hN) hsm.1 (Lib.hid h)
  | true =>
    rw [h, Bool.true_and] at hr'
    obtain ⟨a, k, rfl⟩ := hv.slice
    exact cir_1 nm c.nm a _ k c.ls c.own r w (Lib.hid hN) hsm.1 (Lib.hid h) (Lib.hid hv) hsm.2.1 (Lib.hid hsm.2.2) (Lib.hid hr')
end Tre
end Go.Proofs.Ytdakpncfophjnaa
