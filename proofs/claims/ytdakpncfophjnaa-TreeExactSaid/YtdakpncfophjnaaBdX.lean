/-
  Several texts in one (TrH, TrJ, TrO, TrL).
-/
import Derived.Test.YtdakpncfophjnaaTrC
import Derived.Test.YtdakpncfophjnaaBdAF
import Derived.Test.YtdakpncfophjnaaBdAH
import Derived.Test.YtdakpncfophjnaaBdY
import Derived.Test.YtdakpncfophjnaaBdAI
import Derived.Test.YtdakpncfophjnaaTrZ
/-
  Trees of whatever size: solsticelaw19.Heavy.
-/
namespace Go.Proofs.Ytdakpncfophjnaa
open Go.RowKit
namespace Tre
open Lin CutB Cel Ap
open Opn (TxtV)
def LightC (c : CV) : Prop := c.nm.length ≤ 200 ∧ c.ls.length ≤ 20 ∧ ∀ l ∈ c.ls, Light l
def BdL (l : LV) : Prop := l.nm.length ≤ maxLen ∧ l.vl.length ≤ maxLen ∧ BdP l.ps
def BdC (c : CV) : Prop := c.nm.length ≤ maxLen ∧ c.ls.length ≤ maxLen ∧ i64B c.own ∧ ∀ l ∈ c.ls, BdL l
def BdT (L : List CV) : Prop := L.length ≤ maxLen ∧ ∀ c ∈ L, BdC c
theorem hvy_v (a b : ByteArray) (l : LV) (pv : Value) (w : World) (ha : a = ⟨l.nm.toArray⟩) (hb : b = ⟨l.vl.toArray⟩) (hp : ParsV w pv l.ps) (h : BdL l) :
    Calls Try.prog 12 #[.agg #[.string a, pv, .string b]] w (HvQ (Light l) w) := by
  subst ha hb
  exact hvy_to l.nm l.vl pv l.ps w h.1 h.2.1 hp h.2.2
set_option maxHeartbeats 3200000 in
set_option maxRecDepth 100000 in
theorem thv_0 (A : Option Addr) (c : Nat) (w : World) :
    Calls Try.prog 25 #[.slice A 0 c] w fun e w' => e = .returned (.bool false) ∧ Below w.heap.size w w' := by
  go_enter Try.func25, Try.ntmps25
  go_wp2
  go_loopw [3] (fun i wr => i = .int .i64 0 ∧ w = wr) (fun _ _ => 0)
  case atStart => exact ⟨rfl, rfl⟩
  case round =>
    obtain ⟨rfl, rfl⟩ := hrel
    go_wp2
    go_ret
    exact ⟨rfl, Below.refl _ _⟩
set_option maxHeartbeats 3200000 in
set_option maxRecDepth 100000 in
theorem thv_big (A : Option Addr) (n c : Nat) (w : World) (h : 30 < n) (hn : n ≤ maxLen) :
    Calls Try.prog 25 #[.slice A n c] w fun e w' => e = .returned (.bool true) ∧ Below w.heap.size w w' := by
  unfold maxLen at hn
  go_enter Try.func25, Try.ntmps25
  go_wp2
  go_ret
  exact ⟨rfl, Below.refl _ _⟩
set_option maxHeartbeats 12800000 in
set_option maxRecDepth 100000 in
theorem thv_1 (b off c n : Nat) (L : List CV) (w : World) (hnl : Hid (L.length = n)) (hn : n ≤ 30) (hbl : b < w.heap.size) (hc : Hid (CmpC w b off L)) (hbd : Hid (∀ c ∈ L, BdC c)) :
    Calls Try.prog 25 #[.slice (some ⟨b, off, none⟩) n c] w (HvQ (∀ c ∈ L, LightC c) w) := by
  go_enter Try.func25, Try.ntmps25
  go_wp2
  go_loopw [3] (fun i wr => ∃ k : Nat, k ≤ n ∧ i = .int .i64 k ∧ Hid (∀ c ∈ L.take k, LightC c) ∧ Below w.heap.size w wr) (fun i _ => n - (intOf i).toNat)
  case atStart => exact ⟨0, Nat.zero_le _, rfl, Lib.hid (by simp), Below.refl _ _⟩
  case round =>
    obtain ⟨k, hk, rfl, hall, hb⟩ := hrel
    obtain ⟨wo, rfl⟩ : ∃ wo : World, wo = wr := ⟨_, rfl⟩
    by_cases hlt : k < n
    · have hkl : k < L.length := by rw [hnl.out]; exact hlt
      obtain ⟨sa, sn, sc, p0, p1, p2, hl1⟩ := cmp_at hc.out hkl
      have hbc := hbd.out _ (List.getElem_mem hkl)
      obtain ⟨cv, hcv⟩ : ∃ c, L[k]'hkl = c := ⟨_, rfl⟩
      have HNX : Hid (LightC cv → ∀ q ∈ L.take (k + 1), LightC q) := Lib.hid (fun q => take_all hkl hall.out (by rw [hcv]; exact q))
      rw [hcv] at p0 p2 hl1 hbc
      have e1 : cv.ls.length = sn := by obtain ⟨_, _, e⟩ := hl1.slice; injection e with _ e _; exact e.symm
      have HSN := Lib.hid e1
      obtain ⟨X, hX⟩ : ∃ X : ByteArray, ⟨cv.nm.toArray⟩ = X := ⟨_, rfl⟩
      have hXs : X.size = cv.nm.length := by rw [← hX]; exact sz_l _
      rw [hX] at p0
      have m1 := hbc.1
      have m2 := hbc.2.1
      unfold maxLen at m1 m2
      have x1 : X.size ≤ 9223372036854775807 := by omega
      have x2 : sn ≤ 9223372036854775807 := by omega
      have r0 := (hb.cell (p := ⟨b, off + k * 3, none⟩) hbl).trans p0
      have r1 := (hb.cell (p := ⟨b, off + k * 3 + 1, none⟩) hbl).trans p1
      have P1 := Lib.hid p1
      have HL := Lib.hid hl1
      have HBC := Lib.hid hbc.2.2.2
      have HXS := Lib.hid hXs
      have HB := Lib.hid hb
      clear p0 p1 p2 hl1 hbc hcv hX hXs e1 m1 m2 hb hall
      by_cases b1 : 200 < X.size
      · go_wp2
        go_ret
        exact ⟨true, rfl, Lib.hid (fun q => by cases q), HB.out⟩
      · by_cases b2 : 20 < sn
        · go_wp2
          go_ret
          exact ⟨true, rfl, Lib.hid (fun q => by cases q), HB.out⟩
        · go_wp2
          go_loopw [4] (fun i wx => ∃ j : Nat, j ≤ sn ∧ i = .int .i64 j ∧ Hid (∀ l ∈ cv.ls.take j, Light l) ∧ Below w.heap.size w wx) (fun i _ => sn - (intOf i).toNat)
          case atStart => exact ⟨0, Nat.zero_le _, rfl, Lib.hid (by simp), HB.out⟩
          case round =>
            obtain ⟨j, hj, rfl, hvall, hb⟩ := hrel
            have t1 := (hb.cell (p := ⟨b, off + k * 3 + 1, none⟩) hbl).trans P1.out
            by_cases hjt : j < sn
            · have hjl : j < cv.ls.length := by rw [HSN.out]; exact hjt
              obtain ⟨lb, lo, lc, hAv, hlb, hlc⟩ := HL.out.form (by omega)
              have hA : sa = some ⟨lb, lo, none⟩ := by injection hAv
              subst hA
              obtain ⟨sv, e0, e1, e2, hpv⟩ := hlc j hjl
              obtain ⟨pa, pn, pc, hsv⟩ : ∃ a n c, sv = .slice a n c := by obtain ⟨a, n, c, h, _⟩ := hpv; exact ⟨a, n, c, h⟩
              subst hsv
              have hsl := HBC.out _ (List.getElem_mem hjl)
              obtain ⟨l, hl⟩ : ∃ l, cv.ls[j]'hjl = l := ⟨_, rfl⟩
              have HVX : Hid (Light l → ∀ u ∈ cv.ls.take (j + 1), Light u) := Lib.hid (fun q => take_all hjl hvall.out (by rw [hl]; exact q))
              rw [hl] at e0 e2 hpv hsl
              obtain ⟨Y0, hY0⟩ : ∃ X : ByteArray, ⟨l.nm.toArray⟩ = X := ⟨_, rfl⟩
              obtain ⟨Y2, hY2⟩ : ∃ X : ByteArray, ⟨l.vl.toArray⟩ = X := ⟨_, rfl⟩
              rw [hY0] at e0
              rw [hY2] at e2
              have f0 := (hb.cell (p := ⟨lb, lo + j * 3, none⟩) hlb).trans e0
              have f1 := (hb.cell (p := ⟨lb, lo + j * 3 + 1, none⟩) hlb).trans e1
              have f2 := (hb.cell (p := ⟨lb, lo + j * 3 + 2, none⟩) hlb).trans e2
              have W0 := Lib.hid hY0.symm
              have W2 := Lib.hid hY2.symm
              have HP := Lib.hid (hpv.below hb)
              have HSL := Lib.hid hsl
              have HBB := Lib.hid hb
              clear e0 e1 e2 hpv hl hY0 hY2 hsl hlc hAv hb hvall
              go_wp2_with fail
              refine (hvy_v Y0 Y2 l (.slice pa pn pc) _ W0.out W2.out HP.out HSL.out).mono ?_
              rintro e w2 ⟨bb, rfl, hq, k1⟩
              have B2 := Lib.hid (bstep HBB.out k1)
              clear k1 f0 f1 f2 t1
              cases bb with
              | true =>
                go_wp2
                go_ret
                exact ⟨true, rfl, Lib.hid (fun q => by cases q), B2.out⟩
              | false =>
                have HV := Lib.hid (HVX.out (hq.out rfl))
                clear hq
                go_wp2
                go_roundw
                case rel => exact ⟨j + 1, by omega, by go_num, HV, B2.out⟩
                case measure => simp [intOf]; omega
            · have HL := Lib.hid (HNX.out ⟨by have := HXS.out; omega, by have := HSN.out; omega, by
                have := hvall.out
                rw [List.take_of_length_le (by rw [HSN.out]; omega)] at this
                exact this⟩)
              clear hvall
              go_wp2
              go_roundw
              case rel => exact ⟨k + 1, by omega, by go_num, HL, hb⟩
              case measure => simp [intOf]; omega
    · have HR : Hid (∀ c ∈ L, LightC c) := Lib.hid (by
        have := hall.out
        rw [List.take_of_length_le (by rw [hnl.out]; omega)] at this
        exact this)
      clear hall
      go_wp2
      go_ret
      exact ⟨false, rfl, Lib.hid (fun _ => HR.out), hb⟩
theorem thv_to (v : Value) (L : List CV) (w : World) (hv : CmpsV w v L) (hbd : BdT L) :
    Calls Try.prog 25 #[v] w (HvQ (L.length ≤ 30 ∧ ∀ c ∈ L, LightC c) w) := by
  by_cases h30 : 30 < L.length
  · obtain ⟨A, c, rfl⟩ := hv.slice
    refine (thv_big A _ c w h30 hbd.1).mono ?_
    rintro e w1 ⟨rfl, k1⟩
    exact ⟨true, rfl, Lib.hid (fun q => by cases q), k1⟩
  · cases hL : L with
    | nil =>
      rw [hL] at hv
      obtain ⟨A, c, rfl⟩ := hv.slice
      refine (thv_0 A c w).mono ?_
      rintro e w1 ⟨rfl, k1⟩
      exact ⟨false, rfl, Lib.hid (fun _ => ⟨by simp, by simp⟩), k1⟩
    | cons x xs =>
      have hl : 0 < L.length := by rw [hL]; simp
      obtain ⟨b, off, c, rfl, h1, h2⟩ := hv.form hl
      rw [← hL]
      refine (thv_1 b off c L.length L w (Lib.hid rfl) (by omega) h1 (Lib.hid h2) (Lib.hid hbd.2)).mono ?_
      rintro e w1 ⟨bb, rfl, hq, k1⟩
      exact ⟨bb, rfl, Lib.hid (fun q => ⟨by omega, hq.out q⟩), k1⟩
end Tre
end Go.Proofs.Ytdakpncfophjnaa
/-
  keep.Comps over two lists, wherever they came from.
-/
namespace Go.Proofs.Ytdakpncfophjnaa
open Go.RowKit
namespace Tre
open Lin CutB Cel Ap
open Opn (TxtV)
theorem kln_g (l m : LV) (tb : Bool) (a b a2 b2 : ByteArray) (v u : Value) (w : World) (ha : a = ⟨l.nm.toArray⟩) (hb : b = ⟨l.vl.toArray⟩) (ha2 : a2 = ⟨m.nm.toArray⟩) (hb2 : b2 = ⟨m.vl.toArray⟩) (h1 : ParsV w v l.ps) (h2 : ParsV w u m.ps) (hs : smlL l) (hs2 : smlL m) (ht : Hid (decide (l = m) = tb)) :
    Calls Try.prog 19 #[.agg #[.string a, v, .string b], .agg #[.string a2, u, .string b2]] w fun e w' => e = .returned (.bool tb) ∧ Below w.heap.size w w' := by
  subst ha hb ha2 hb2
  exact kln_to l m v u tb w h1 h2 hs.2.2.1 hs2.2.2.1 (fun p hp => (hs.2.2.2 p hp).2.1) (fun p hp => (hs2.2.2.2 p hp).2.1) ht
set_option maxHeartbeats 3200000 in
set_option maxRecDepth 100000 in
theorem kcg_n (A A2 : Option Addr) (n n2 c c2 : Nat) (w : World) (h : n ≠ n2) :
    Calls Try.prog 30 #[.slice A n c, .slice A2 n2 c2] w fun e w' => e = .returned (.bool false) ∧ Below w.heap.size w w' := by
  have hne : ((n : Int) == (n2 : Int)) = false := beq_eq_false_iff_ne.2 (by omega)
  have hne2 : ((n : Int) != (n2 : Int)) = true := by rw [bne, hne]; rfl
  go_enter Try.func30, Try.ntmps30
  go_wp2
  go_ret
  exact ⟨rfl, Below.refl _ _⟩
theorem lv_dec {a b : LV} {te : Bool} (h : decide (a = b) = te) : (te = true → a = b) ∧ (te = false → a ≠ b) := by
  subst h
  exact ⟨of_decide_eq_true, of_decide_eq_false⟩
set_option maxHeartbeats 51200000 in
set_option maxRecDepth 100000 in
theorem kcg_1 (b1 o1 c1 b2 o2 c2 n : Nat) (L M : List CV) (r : Bool) (w : World) (hnl : Hid (L.length = n)) (hml : Hid (M.length = n)) (hn : n ≤ 1000000) (hb1 : b1 < w.heap.size) (hb2 : b2 < w.heap.size) (hc1 : Hid (CmpC w b1 o1 L)) (hc2 : Hid (CmpC w b2 o2 M)) (hsm : Hid (∀ c ∈ L, smlC c)) (hsm2 : Hid (∀ c ∈ M, smlC c)) (hr : Hid (decide (L = M) = r)) :
    Calls Try.prog 30 #[.slice (some ⟨b1, o1, none⟩) n c1, .slice (some ⟨b2, o2, none⟩) n c2] w fun e w' => e = .returned (.bool r) ∧ Below w.heap.size w w' := by
  go_enter Try.func30, Try.ntmps30
  go_wp2_with fail
  go_loopw [5] (fun i wr => ∃ k : Nat, k ≤ n ∧ i = .int .i64 k ∧ Hid (L.take k = M.take k) ∧ Below w.heap.size w wr) (fun i _ => n - (intOf i).toNat)
  case atStart => exact ⟨0, Nat.zero_le _, rfl, Lib.hid rfl, Below.refl _ _⟩
  case round =>
    obtain ⟨k, hk, rfl, hall, hb⟩ := hrel
    obtain ⟨wo, rfl⟩ : ∃ wo : World, wo = wr := ⟨_, rfl⟩
    by_cases hlt : k < n
    · have hkl : k < L.length := by rw [hnl.out]; exact hlt
      have hkm : k < M.length := by rw [hml.out]; exact hlt
      obtain ⟨sa, sn, sc, p0, p1, p2, hl1⟩ := cmp_at hc1.out hkl
      obtain ⟨ta, tn, tc, q0, q1, q2, hl2⟩ := cmp_at hc2.out hkm
      have hsc := hsm.out _ (List.getElem_mem hkl)
      have hsd := hsm2.out _ (List.getElem_mem hkm)
      obtain ⟨cv, hcv⟩ : ∃ c, L[k]'hkl = c := ⟨_, rfl⟩
      obtain ⟨dv, hdv⟩ : ∃ c, M[k]'hkm = c := ⟨_, rfl⟩
      have HEQ : Hid (cv = dv → L.take (k + 1) = M.take (k + 1)) := Lib.hid (fun e => by rw [List.take_succ_eq_append_getElem hkl, List.take_succ_eq_append_getElem hkm, hall.out, hcv, hdv, e])
      have HNE : Hid (cv ≠ dv → false = r) := Lib.hid (fun e => by rw [← hr.out]; exact (decide_eq_false (fun h => e (by subst h; rw [← hcv, ← hdv]))).symm)
      rw [hcv] at p0 p2 hl1 hsc
      rw [hdv] at q0 q2 hl2 hsd
      have e1 : cv.ls.length = sn := by obtain ⟨_, _, e⟩ := hl1.slice; injection e with _ e _; exact e.symm
      have e2 : dv.ls.length = tn := by obtain ⟨_, _, e⟩ := hl2.slice; injection e with _ e _; exact e.symm
      have HSN := Lib.hid e1
      have HTN := Lib.hid e2
      have xsn : sn ≤ 1000000 := by rw [← e1]; exact hsc.2.1
      have xtn : tn ≤ 1000000 := by rw [← e2]; exact hsd.2.1
      obtain ⟨o, ho⟩ : ∃ o, cv.own = o := ⟨_, rfl⟩
      obtain ⟨p, hp⟩ : ∃ o, dv.own = o := ⟨_, rfl⟩
      rw [ho] at p2
      rw [hp] at q2
      have r0 := (hb.cell (p := ⟨b1, o1 + k * 3, none⟩) hb1).trans p0
      have r1 := (hb.cell (p := ⟨b1, o1 + k * 3 + 1, none⟩) hb1).trans p1
      have r2 := (hb.cell (p := ⟨b1, o1 + k * 3 + 2, none⟩) hb1).trans p2
      have s0 := (hb.cell (p := ⟨b2, o2 + k * 3, none⟩) hb2).trans q0
      have s1 := (hb.cell (p := ⟨b2, o2 + k * 3 + 1, none⟩) hb2).trans q1
      have s2 := (hb.cell (p := ⟨b2, o2 + k * 3 + 2, none⟩) hb2).trans q2
      have HO := Lib.hid ho
      have HPO := Lib.hid hp
      have HL1 := Lib.hid hl1
      have HL2 := Lib.hid hl2
      have P1 := Lib.hid p1
      have Q1 := Lib.hid q1
      have HSC := Lib.hid hsc
      have HSD := Lib.hid hsd
      have HB := Lib.hid hb
      clear p0 p1 p2 q0 q1 q2 hl1 hl2 hcv hdv ho hp hsc hsd e1 e2 hb hall
      by_cases hnm : cv.nm = dv.nm
      case neg =>
        have HF := Lib.hid (HNE.out (fun e => hnm (by rw [e])))
        have hbx := ba_beq hnm
        obtain ⟨X0, hX0⟩ : ∃ X : ByteArray, ⟨cv.nm.toArray⟩ = X := ⟨_, rfl⟩
        obtain ⟨X1, hX1⟩ : ∃ X : ByteArray, ⟨dv.nm.toArray⟩ = X := ⟨_, rfl⟩
        rw [hX0] at r0 hbx
        rw [hX1] at s0 hbx
        clear hX0 hX1 hnm HEQ HNE
        go_wp2_with fail
        go_quiet (fail)
        have HB2 := Lib.hid (below_drewN HB.out nq)
        go_wp2
        go_ret
        exact ⟨ret_b HF.out, HB2.out⟩
      case pos =>
        have HNM := Lib.hid hnm
        rw [← hnm] at s0
        obtain ⟨X0, hX0⟩ : ∃ X : ByteArray, ⟨cv.nm.toArray⟩ = X := ⟨_, rfl⟩
        rw [hX0] at r0 s0
        clear hX0 hnm
        by_cases hop : o = p
        case neg =>
          have HF := Lib.hid (HNE.out (fun e => hop (by rw [← HO.out, ← HPO.out, e])))
          have hne : (o == p) = false := beq_eq_false_iff_ne.2 hop
          have hne2 : (o != p) = true := by rw [bne, hne]; rfl
          clear hop HEQ HNE
          go_wp2_with fail
          go_quiet (fail)
          have HB2 := Lib.hid (below_drewN HB.out nq)
          go_wp2
          go_ret
          exact ⟨ret_b HF.out, HB2.out⟩
        case pos =>
          subst hop
          by_cases hst : sn = tn
          case neg =>
            have HF := Lib.hid (HNE.out (fun e => hst (by rw [← HSN.out, ← HTN.out, e])))
            have hne : ((sn : Int) == (tn : Int)) = false := beq_eq_false_iff_ne.2 (by omega)
            have hne2 : ((sn : Int) != (tn : Int)) = true := by rw [bne, hne]; rfl
            clear hst HEQ HNE
            go_wp2_with fail
            go_quiet (fail)
            have HB2 := Lib.hid (below_drewN HB.out nq)
            go_wp2
            go_ret
            exact ⟨ret_b HF.out, HB2.out⟩
          case pos =>
            subst hst
            have HCE : Hid (cv.ls = dv.ls → cv = dv) := Lib.hid (fun e => by
              have a1 := HNM.out
              have a2 := HO.out
              have a3 := HPO.out
              obtain ⟨n1, l1, w1⟩ := cv
              obtain ⟨n2, l2, w2⟩ := dv
              simp only at a1 a2 a3 e
              rw [a1, e, a2, a3])
            go_wp2_with fail
            go_quiet (fail)
            have HB2 := Lib.hid (below_drewN HB.out nq)
            go_wp2_with fail
            go_loopw [6] (fun i wx => ∃ j : Nat, j ≤ sn ∧ i = .int .i64 j ∧ Hid (cv.ls.take j = dv.ls.take j) ∧ Below w.heap.size w wx) (fun i _ => sn - (intOf i).toNat)
            case atStart => exact ⟨0, Nat.zero_le _, rfl, Lib.hid rfl, HB2.out⟩
            case round =>
              obtain ⟨j, hj, rfl, hall, hb⟩ := hrel
              have t1 := (hb.cell (p := ⟨b1, o1 + k * 3 + 1, none⟩) hb1).trans P1.out
              have u1 := (hb.cell (p := ⟨b2, o2 + k * 3 + 1, none⟩) hb2).trans Q1.out
              by_cases hjt : j < sn
              · have hjl : j < cv.ls.length := by rw [HSN.out]; exact hjt
                have hjm : j < dv.ls.length := by rw [HTN.out]; exact hjt
                obtain ⟨lb, lo, lc, hAv, hlb, hlc⟩ := HL1.out.form (by omega)
                obtain ⟨mb, mo, mc, hAv2, hmb, hmc⟩ := HL2.out.form (by omega)
                have hA : sa = some ⟨lb, lo, none⟩ := by injection hAv
                have hA2 : ta = some ⟨mb, mo, none⟩ := by injection hAv2
                subst hA hA2
                obtain ⟨sv, e0, e1, e2, hpv⟩ := hlc j hjl
                obtain ⟨tv, g0, g1, g2, hqv⟩ := hmc j hjm
                obtain ⟨pa, pn, pc, hsv⟩ : ∃ a n c, sv = .slice a n c := by obtain ⟨a, n, c, h, _⟩ := hpv; exact ⟨a, n, c, h⟩
                obtain ⟨qa, qn, qc, htv⟩ : ∃ a n c, tv = .slice a n c := by obtain ⟨a, n, c, h, _⟩ := hqv; exact ⟨a, n, c, h⟩
                subst hsv htv
                have hsl := HSC.out.2.2 _ (List.getElem_mem hjl)
                have hsl2 := HSD.out.2.2 _ (List.getElem_mem hjm)
                obtain ⟨l, hl⟩ : ∃ l, cv.ls[j]'hjl = l := ⟨_, rfl⟩
                obtain ⟨m, hm⟩ : ∃ l, dv.ls[j]'hjm = l := ⟨_, rfl⟩
                have HJE : Hid (l = m → cv.ls.take (j + 1) = dv.ls.take (j + 1)) := Lib.hid (fun e => by rw [List.take_succ_eq_append_getElem hjl, List.take_succ_eq_append_getElem hjm, hall.out, hl, hm, e])
                have HJN : Hid (l ≠ m → false = r) := Lib.hid (fun e => HNE.out (fun h => e (by subst h; rw [← hl, ← hm])))
                rw [hl] at e0 e2 hpv hsl
                rw [hm] at g0 g2 hqv hsl2
                obtain ⟨Y0, hY0⟩ : ∃ X : ByteArray, ⟨l.nm.toArray⟩ = X := ⟨_, rfl⟩
                obtain ⟨Y2, hY2⟩ : ∃ X : ByteArray, ⟨l.vl.toArray⟩ = X := ⟨_, rfl⟩
                obtain ⟨Z0, hZ0⟩ : ∃ X : ByteArray, ⟨m.nm.toArray⟩ = X := ⟨_, rfl⟩
                obtain ⟨Z2, hZ2⟩ : ∃ X : ByteArray, ⟨m.vl.toArray⟩ = X := ⟨_, rfl⟩
                rw [hY0] at e0
                rw [hY2] at e2
                rw [hZ0] at g0
                rw [hZ2] at g2
                have f0 := (hb.cell (p := ⟨lb, lo + j * 3, none⟩) hlb).trans e0
                have f1 := (hb.cell (p := ⟨lb, lo + j * 3 + 1, none⟩) hlb).trans e1
                have f2 := (hb.cell (p := ⟨lb, lo + j * 3 + 2, none⟩) hlb).trans e2
                have h0 := (hb.cell (p := ⟨mb, mo + j * 3, none⟩) hmb).trans g0
                have h1 := (hb.cell (p := ⟨mb, mo + j * 3 + 1, none⟩) hmb).trans g1
                have h2 := (hb.cell (p := ⟨mb, mo + j * 3 + 2, none⟩) hmb).trans g2
                have W0 := Lib.hid hY0.symm
                have W2 := Lib.hid hY2.symm
                have U0 := Lib.hid hZ0.symm
                have U2 := Lib.hid hZ2.symm
                have HP := Lib.hid (hpv.below hb)
                have HQ := Lib.hid (hqv.below hb)
                have HSL := Lib.hid hsl
                have HSM := Lib.hid hsl2
                have ct1 := cell_regrown t1
                have cu1 := cell_regrown u1
                have cf0 := cell_regrown f0
                have cf1 := cell_regrown f1
                have cf2 := cell_regrown f2
                have ch0 := cell_regrown h0
                have ch1 := cell_regrown h1
                have ch2 := cell_regrown h2
                have HBB := Lib.hid hb
                obtain ⟨te, hte⟩ : ∃ te, decide (l = m) = te := ⟨_, rfl⟩
                have HTE := Lib.hid hte
                have d1 := Lib.hid (fun dd os => Calls.regrown_of (kln_g l m te Y0 Y2 Z0 Z2 (.slice pa pn pc) (.slice qa qn qc) (Sort.grow (redrawn wr dd) os) W0.out W2.out U0.out U2.out (HP.out.below (below_regrown wr dd os)) (HQ.out.below (below_regrown wr dd os)) HSL.out HSM.out HTE))
                clear e0 e1 e2 g0 g1 g2 hpv hqv hl hm hY0 hY2 hZ0 hZ2 hsl hsl2 hlc hmc hAv hAv2 hb hall
                cases te with
                | true =>
                  have HTK := Lib.hid (HJE.out ((lv_dec hte).1 rfl))
                  clear hte HJE HJN HEQ HNE HCE
                  go_upto_region 11 with fail
                  refine wp_region_quiet_below (by kernel_rfl) (by kernel_rfl) ?_
                  clear t1 u1 f0 f1 f2 h0 h1 h2
                  repeat (quiet_step (first | with_reducible exact d1.out _ _))
                  refine wpQuiet_nil ?_
                  intro w' hw'
                  obtain ⟨⟨dq, osq⟩, rfl⟩ := hw'
                  have hz := bstep HBB.out (below_regrown wr dq osq)
                  go_wp2
                  go_roundw
                  case rel => exact ⟨j + 1, by omega, by go_num, HTK, hz⟩
                  case measure => simp [intOf]; omega
                | false =>
                  have HF := Lib.hid (HJN.out ((lv_dec hte).2 rfl))
                  clear hte HJE HJN HEQ HNE HCE
                  go_upto_region 11 with fail
                  refine wp_region_quiet_below (by kernel_rfl) (by kernel_rfl) ?_
                  clear t1 u1 f0 f1 f2 h0 h1 h2
                  repeat (quiet_step (first | with_reducible exact d1.out _ _))
                  refine wpQuiet_nil ?_
                  intro w' hw'
                  obtain ⟨⟨dq, osq⟩, rfl⟩ := hw'
                  have hz := bstep HBB.out (below_regrown wr dq osq)
                  go_wp2
                  go_ret
                  exact ⟨ret_b HF.out, hz⟩
              · have HTK := Lib.hid (HEQ.out (HCE.out (by
                  have := hall.out
                  rw [List.take_of_length_le (by rw [HSN.out]; omega), List.take_of_length_le (by rw [HTN.out]; omega)] at this
                  exact this)))
                clear hall HEQ HNE HCE
                go_wp2
                go_roundw
                case rel => exact ⟨k + 1, by omega, by go_num, HTK, hb⟩
                case measure => simp [intOf]; omega
    · have HF : Hid (true = r) := Lib.hid (by
        have := hall.out
        rw [List.take_of_length_le (by rw [hnl.out]; omega), List.take_of_length_le (by rw [hml.out]; omega)] at this
        rw [← hr.out]; exact (decide_eq_true this).symm)
      clear hall
      go_wp2
      go_ret
      exact ⟨ret_b HF.out, hb⟩
theorem kcg_to (v u : Value) (L M : List CV) (r : Bool) (w : World) (hv : CmpsV w v L) (hu : CmpsV w u M) (hn : L.length ≤ 1000000) (hsm : ∀ c ∈ L, smlC c) (hsm2 : ∀ c ∈ M, smlC c) (hr : Hid (decide (L = M) = r)) :
    Calls Try.prog 30 #[v, u] w fun e w' => e = .returned (.bool r) ∧ Below w.heap.size w w' := by
  by_cases hl : L.length = M.length
  · by_cases h0 : 0 < L.length
    · obtain ⟨b1, o1, c1, rfl, h1, k1⟩ := hv.form h0
      obtain ⟨b2, o2, c2, rfl, h2, k2⟩ := hu.form (by omega)
      rw [← hl]
      exact kcg_1 b1 o1 c1 b2 o2 c2 _ L M r w (Lib.hid rfl) (Lib.hid hl.symm) hn h1 h2 (Lib.hid k1) (Lib.hid k2) (Lib.hid hsm) (Lib.hid hsm2) hr
    · obtain rfl : L = [] := List.eq_nil_of_length_eq_zero (by omega)
      obtain rfl : M = [] := List.eq_nil_of_length_eq_zero (by simpa using hl.symm)
      obtain rfl : r = true := by rw [← hr.out]; rfl
      exact kcm_t v u [] w hv hu hn hsm
  · obtain rfl : r = false := by rw [← hr.out]; exact decide_eq_false (fun e => hl (by rw [e]))
    obtain ⟨A, c, rfl⟩ := hv.slice
    obtain ⟨A2, c2, rfl⟩ := hu.slice
    exact kcg_n A A2 _ _ c c2 w hl
end Tre
end Go.Proofs.Ytdakpncfophjnaa
/-
  Trees that came in, opened: their components read as plain lists.
-/
namespace Go.Proofs.Ytdakpncfophjnaa
open Go.RowKit Go.Deep Go.ChangeShapes Go.WideShapes
namespace Tre
open Lin
section
variable {H : Type} {enc : TypeId × Value → H} {W : World} {base : Nat} {spare : Nat → Bool} {held : Bool}
theorem open_lins {fuel : Nat} {v : Value} {x : DataW H × List MemPlace} (h : DataW.trod enc Try.prog W base spare held fuel 61 [v] = some x) : ∃ L, LinsV W v L ∧ L.length ≤ maxLen ∧ ∀ l ∈ L, BdL l := by
  obtain ⟨A, n, c, rfl, hn, hj⟩ := Flat.open_rows Try.underlying61 (of_decide_eq_true (by kernel_rfl)) h
  have ke : Try.prog.cellsOf 24 = 3 := by kernel_rfl
  rw [ke] at hj
  obtain ⟨L, hl, hL⟩ := list_of (Q := fun j (p : LV) => BdL p ∧ ∃ b off sv, A = some ⟨b, off, none⟩ ∧ b < W.heap.size ∧ W.cell? ⟨b, off + j * 3, none⟩ = some (.string ⟨p.nm.toArray⟩) ∧ W.cell? ⟨b, off + j * 3 + 1, none⟩ = some sv ∧ W.cell? ⟨b, off + j * 3 + 2, none⟩ = some (.string ⟨p.vl.toArray⟩) ∧ ParsV W sv p.ps) n (fun j hjn => by
    obtain ⟨b, off, cs, hA, hb, hlen, hc, m, y, hy⟩ := hj j hjn
    match cs, hlen with
    | [u, sv, z], _ =>
      have lv := (Flat.leaves_at 4 24 [9, 22, 9] (by kernel_rfl) m [u, sv, z] _ hy).2
      obtain ⟨_, _, h0⟩ := lv 0 _ _ rfl rfl
      obtain ⟨_, _, h1⟩ := lv 1 _ _ rfl rfl
      obtain ⟨_, _, h2⟩ := lv 2 _ _ rfl rfl
      obtain ⟨s, rfl, hs⟩ := Flat.leaf_s Try.underlying9 h0
      obtain ⟨t, rfl, ht⟩ := Flat.leaf_s Try.underlying9 h2
      obtain ⟨V, hV, b1⟩ := open_pars h1
      exact ⟨⟨s, V, t⟩, ⟨hs, ht, b1⟩, b, off, sv, hA, hb, hc 0 _ rfl, hc 1 _ rfl, hc 2 _ rfl, hV⟩)
  refine ⟨L, ⟨A, n, c, rfl, hl.symm, fun j hj => (hL j hj).2⟩, by omega, fun p hp => ?_⟩
  obtain ⟨j, hj, rfl⟩ := List.mem_iff_getElem.1 hp
  exact (hL j hj).1
theorem open_comps {fuel : Nat} {v : Value} {x : DataW H × List MemPlace} (h : DataW.trod enc Try.prog W base spare held fuel 49 [v] = some x) : ∃ L, CmpsV W v L ∧ BdT L := by
  obtain ⟨A, n, c, rfl, hn, hj⟩ := Flat.open_rows Try.underlying49 (of_decide_eq_true (by kernel_rfl)) h
  have ke : Try.prog.cellsOf 63 = 3 := by kernel_rfl
  rw [ke] at hj
  obtain ⟨L, hl, hL⟩ := list_of (Q := fun j (p : CV) => BdC p ∧ ∃ b off sv, A = some ⟨b, off, none⟩ ∧ b < W.heap.size ∧ W.cell? ⟨b, off + j * 3, none⟩ = some (.string ⟨p.nm.toArray⟩) ∧ W.cell? ⟨b, off + j * 3 + 1, none⟩ = some sv ∧ W.cell? ⟨b, off + j * 3 + 2, none⟩ = some (.int .i64 p.own) ∧ LinsV W sv p.ls) n (fun j hjn => by
    obtain ⟨b, off, cs, hA, hb, hlen, hc, m, y, hy⟩ := hj j hjn
    match cs, hlen with
    | [u, sv, z], _ =>
      have lv := (Flat.leaves_at 4 63 [9, 61, 3] (by kernel_rfl) m [u, sv, z] _ hy).2
      obtain ⟨_, _, h0⟩ := lv 0 _ _ rfl rfl
      obtain ⟨_, _, h1⟩ := lv 1 _ _ rfl rfl
      obtain ⟨_, _, h2⟩ := lv 2 _ _ rfl rfl
      obtain ⟨s, rfl, hs⟩ := Flat.leaf_s Try.underlying9 h0
      obtain ⟨o, rfl, ho⟩ := Flat.leaf_i Try.underlying3 h2
      obtain ⟨V, hV, b1, b2⟩ := open_lins h1
      exact ⟨⟨s, V, o⟩, ⟨hs, b1, bounds_i64 ho, b2⟩, b, off, sv, hA, hb, hc 0 _ rfl, hc 1 _ rfl, hc 2 _ rfl, hV⟩)
  refine ⟨L, ⟨A, n, c, rfl, hl.symm, fun j hj => (hL j hj).2⟩, by omega, fun p hp => ?_⟩
  obtain ⟨j, hj, rfl⟩ := List.mem_iff_getElem.1 hp
  exact (hL j hj).1
end
end Tre
end Go.Proofs.Ytdakpncfophjnaa
/-
  TreeBack: what is written is read, and two trees say the same where they are the same.
-/
namespace Go.Proofs.Ytdakpncfophjnaa
open Go.RowKit
namespace Tre
open Lin CutB Cel Ap
open Opn (TxtV)
theorem light_w {l : LV} (h : Light l) : smlW l := by
  obtain ⟨h1, h2, h3, _⟩ := id h
  have h5 := (light_len h).1
  exact ⟨⟨by omega, by omega, by omega, light_sml h⟩, by omega⟩
theorem light_c {c : CV} (h : LightC c) : smlC c := ⟨by have := h.1; omega, by have := h.2.1; omega, fun l hl => (light_w (h.2.2 l hl)).1⟩
theorem txG_end (L : List CV) : ∀ (cs : List CV) (i : Int) (K : Stk) (s : WS), s.2 = 0 → s.1.length ≤ 600000 → (txG L i K s cs).1.length ≤ 600000 ∧ ((txG L i K s cs).2 ≠ 0 → (txG L i K s cs).1 = [])
  | [], _, _, s, h, hl => by
    rw [txG]
    exact ⟨hl, fun q => absurd h q⟩
  | c :: cs, i, K, s, h, hl => by
    rw [txG]
    split
    · exact ⟨by simp, fun _ => rfl⟩
    · rename_i hz
      exact txG_end L cs _ _ _ (by simpa using hz) (cmp_len L i K s c hl)
theorem txT_end (L : List CV) : (txT L).1.length ≤ 600000 ∧ ((txT L).2 ≠ 0 → (txT L).1 = []) := by
  rw [txT]
  split
  · exact txG_end L L 0 [] ([], 0) rfl (by simp)
  · exact ⟨by simp, fun _ => rfl⟩
theorem txT_one {L M : List CV} {T : List UInt8} (h1 : txT L = (T, 0)) (h2 : txT M = (T, 0)) : L = M := by
  have a := tree_back h1
  rw [tree_back h2] at a
  injection a with a _
  exact a.symm
set_option maxHeartbeats 51200000 in
set_option maxRecDepth 100000 in
theorem tback_1 (v u : Value) (L M : List CV) (w : World) (hv : CmpsV w v L) (hu : CmpsV w u M) (bL : BdT L) (bM : BdT M) :
    Calls Try.prog 8 #[v, u] w fun e w' => e = .returned (.bool true) ∧ Below w.heap.size w w' := by
  have HV := Lib.hid hv
  have HU := Lib.hid hu
  have BL := Lib.hid bL
  have BM := Lib.hid bM
  clear hv hu bL bM
  go_enter Try.func8, Try.ntmps8
  go_wp2_with fail
  refine (thv_to v L _ HV.out BL.out).mono ?_
  rintro e w1 ⟨b1, rfl, q1, k1⟩
  have V1 := Lib.hid (HV.out.below k1)
  have U1 := Lib.hid (HU.out.below k1)
  have B1 := Lib.hid k1
  clear k1 HV HU
  cases b1 with
  | true =>
    go_wp2
    go_ret
    exact ⟨rfl, B1.out⟩
  | false =>
    go_wp2_with fail
    refine (thv_to u M _ U1.out BM.out).mono ?_
    rintro e w2 ⟨b2, rfl, q2, k1⟩
    have V2 := Lib.hid (V1.out.below k1)
    have U2 := Lib.hid (U1.out.below k1)
    have B2 := Lib.hid (bstep B1.out k1)
    clear k1 V1 U1 B1
    cases b2 with
    | true =>
      go_wp2
      go_ret
      exact ⟨rfl, B2.out⟩
    | false =>
      have l1 := (q1.out (by trivial)).1
      have l2 := (q2.out (by trivial)).1
      have N1 := Lib.hid (q1.out (by trivial)).2
      have N2 := Lib.hid (q2.out (by trivial)).2
      have S1 := Lib.hid (fun c hc => light_c (N1.out c hc))
      have S2 := Lib.hid (fun c hc => light_c (N2.out c hc))
      have W1 := Lib.hid (fun c hc l hl => light_w ((N1.out c hc).2.2 l hl))
      have W2 := Lib.hid (fun c hc l hl => light_w ((N2.out c hc).2.2 l hl))
      have O1 := Lib.hid (fun c hc => (BL.out.2 c hc).2.2.1)
      have O2 := Lib.hid (fun c hc => (BM.out.2 c hc).2.2.1)
      obtain ⟨⟨T1, x1⟩, h1⟩ : ∃ r, txT L = r := ⟨_, rfl⟩
      obtain ⟨⟨T2, x2⟩, h2⟩ : ∃ r, txT M = r := ⟨_, rfl⟩
      obtain ⟨g1, g2⟩ := txT_end L
      obtain ⟨g3, g4⟩ := txT_end M
      rw [h1] at g1 g2
      rw [h2] at g3 g4
      simp only at g1 g2 g3 g4
      have H1 := Lib.hid h1
      have H2 := Lib.hid h2
      have G2 := Lib.hid g2
      have G4 := Lib.hid g4
      clear q1 q2 N1 N2 BL BM h1 h2 g2 g4
      go_wp2_with fail
      refine (tx_to v L (T1, x1) _ V2.out (by omega) O1.out S1.out W1.out H1).mono ?_
      rintro e w3 ⟨rfl, k1⟩
      have V3 := Lib.hid (V2.out.below k1)
      have U3 := Lib.hid (U2.out.below k1)
      have B3 := Lib.hid (bstep B2.out k1)
      clear k1 V2 U2 B2
      go_wp2_with fail
      refine (tx_to u M (T2, x2) _ U3.out (by omega) O2.out S2.out W2.out H2).mono ?_
      rintro e w4 ⟨rfl, k1⟩
      have V4 := Lib.hid (V3.out.below k1)
      have U4 := Lib.hid (U3.out.below k1)
      have B4 := Lib.hid (bstep B3.out k1)
      clear k1 V3 U3 B3 O1 O2 W1 W2
      by_cases y1 : x1 = 0
      · subst y1
        by_cases y2 : x2 = 0
        · subst y2
          clear G2 G4
          by_cases ht : T1 = T2
          · subst ht
            have HE : Hid (decide (L = M) = true) := Lib.hid (decide_eq_true (txT_one H1.out H2.out))
            have HB := Lib.hid (tree_back H1.out)
            obtain ⟨X1, hX1⟩ : ∃ X : ByteArray, ⟨T1.toArray⟩ = X := ⟨_, rfl⟩
            simp only [hX1]
            have HX := Lib.hid hX1
            have hs : X1.size ≤ 600000 := by rw [← hX1]; show T1.toArray.size ≤ _; simpa using g1
            clear hX1 H1 H2
            go_wp2_with fail
            refine (pa_to X1 T1 (L, 0) _ hs (by rw [← HX.out]) HB).mono ?_
            rintro e w5 ⟨A5, n5, c5, rfl, hq5, k1⟩
            have V5 := Lib.hid (V4.out.below k1)
            have U5 := Lib.hid (U4.out.below k1)
            have Q5 := hq5
            have B5 := Lib.hid (bstep B4.out k1)
            clear k1 V4 U4 B4 hq5
            go_wp2_with fail
            refine (kcm_t _ _ L _ Q5.out V5.out (by omega) S1.out).mono ?_
            rintro e w6 ⟨rfl, k1⟩
            have V6 := Lib.hid (V5.out.below k1)
            have U6 := Lib.hid (U5.out.below k1)
            have B6 := Lib.hid (bstep B5.out k1)
            clear k1 V5 U5 B5 Q5
            go_wp2_with fail
            refine (kcg_to _ _ L M true _ V6.out U6.out (by omega) S1.out S2.out HE).mono ?_
            rintro e w7 ⟨rfl, k1⟩
            have B7 := Lib.hid (bstep B6.out k1)
            clear k1 V6 U6 B6
            go_wp2_with fail
            refine (wakes19_any _).mono ?_
            rintro e w8 ⟨rfl, k1⟩
            go_wp2
            go_ret
            exact ⟨rfl, bstep B7.out k1⟩
          · have HE : Hid (decide (L = M) = false) := Lib.hid (decide_eq_false (fun e => ht (by
              have a := H1.out
              rw [e, H2.out] at a
              injection a with a _
              exact a.symm)))
            have HB := Lib.hid (tree_back H1.out)
            have hbx := ba_beq ht
            obtain ⟨X1, hX1⟩ : ∃ X : ByteArray, ⟨T1.toArray⟩ = X := ⟨_, rfl⟩
            obtain ⟨X2, hX2⟩ : ∃ X : ByteArray, ⟨T2.toArray⟩ = X := ⟨_, rfl⟩
            simp only [hX1, hX2]
            rw [hX1, hX2] at hbx
            have HX := Lib.hid hX1
            have hs : X1.size ≤ 600000 := by rw [← hX1]; show T1.toArray.size ≤ _; simpa using g1
            clear hX1 hX2 H1 H2 ht
            go_wp2_with fail
            refine (pa_to X1 T1 (L, 0) _ hs (by rw [← HX.out]) HB).mono ?_
            rintro e w5 ⟨A5, n5, c5, rfl, hq5, k1⟩
            have V5 := Lib.hid (V4.out.below k1)
            have U5 := Lib.hid (U4.out.below k1)
            have Q5 := hq5
            have B5 := Lib.hid (bstep B4.out k1)
            clear k1 V4 U4 B4 hq5
            go_wp2_with fail
            refine (kcm_t _ _ L _ Q5.out V5.out (by omega) S1.out).mono ?_
            rintro e w6 ⟨rfl, k1⟩
            have V6 := Lib.hid (V5.out.below k1)
            have U6 := Lib.hid (U5.out.below k1)
            have B6 := Lib.hid (bstep B5.out k1)
            clear k1 V5 U5 B5 Q5
            go_wp2_with fail
            refine (kcg_to _ _ L M false _ V6.out U6.out (by omega) S1.out S2.out HE).mono ?_
            rintro e w7 ⟨rfl, k1⟩
            have B7 := Lib.hid (bstep B6.out k1)
            clear k1 V6 U6 B6
            go_wp2_with fail
            refine (wakes19_any _).mono ?_
            rintro e w8 ⟨rfl, k1⟩
            go_wp2
            go_ret
            exact ⟨rfl, bstep B7.out k1⟩
        · obtain rfl : T2 = [] := G4.out y2
          obtain ⟨X1, hX1⟩ : ∃ X : ByteArray, ⟨T1.toArray⟩ = X := ⟨_, rfl⟩
          obtain ⟨X2, hX2⟩ : ∃ X : ByteArray, ⟨([] : List UInt8).toArray⟩ = X := ⟨_, rfl⟩
          simp only [hX1, hX2]
          have hX3 : X2 = ⟨#[]⟩ := hX2.symm
          subst hX3
          clear hX1 hX2 H1 H2 G2 G4
          go_wp2_with fail
          refine (wakes19_any _).mono ?_
          rintro e w8 ⟨rfl, k1⟩
          go_wp2
          go_ret
          exact ⟨rfl, bstep B4.out k1⟩
      · obtain rfl : T1 = [] := G2.out y1
        obtain ⟨X2, hX2⟩ : ∃ X : ByteArray, ⟨([] : List UInt8).toArray⟩ = X := ⟨_, rfl⟩
        simp only [hX2]
        have hX3 : X2 = ⟨#[]⟩ := hX2.symm
        by_cases y2 : x2 = 0
        · subst y2
          obtain ⟨X1, hX1⟩ : ∃ X : ByteArray, ⟨T2.toArray⟩ = X := ⟨_, rfl⟩
          simp only [hX1]
          subst hX3
          clear hX1 hX2 H1 H2 G2 G4
          go_wp2_with fail
          refine (wakes19_any _).mono ?_
          rintro e w8 ⟨rfl, k1⟩
          go_wp2
          go_ret
          exact ⟨rfl, bstep B4.out k1⟩
        · obtain rfl : T2 = [] := G4.out y2
          simp only [hX2]
          subst hX3
          clear hX2 H1 H2 G2 G4
          go_wp2_with fail
          refine (wakes19_any _).mono ?_
          rintro e w8 ⟨rfl, k1⟩
          go_wp2
          go_ret
          exact ⟨rfl, bstep B4.out k1⟩
end Tre
end Go.Proofs.Ytdakpncfophjnaa
