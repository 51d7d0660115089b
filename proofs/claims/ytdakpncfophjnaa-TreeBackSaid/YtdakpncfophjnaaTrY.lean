/-
  keep.Comps over two lists that read alike; keep.Ints.
-/
import Derived.Test.YtdakpncfophjnaaTrC
import Derived.Test.YtdakpncfophjnaaLinY
import Derived.Lib.QuietBelow
import Derived.BigQuiet
namespace Go.Proofs.Ytdakpncfophjnaa
open Go.RowKit
namespace Tre
open Lin CutB Cel Ap
open Opn (TxtV)
theorem kln_v (l : LV) (a b a2 b2 : ByteArray) (v u : Value) (w : World) (ha : a = ⟨l.nm.toArray⟩) (hb : b = ⟨l.vl.toArray⟩) (ha2 : a2 = ⟨l.nm.toArray⟩) (hb2 : b2 = ⟨l.vl.toArray⟩) (h1 : ParsV w v l.ps) (h2 : ParsV w u l.ps) (hs : smlL l) :
    Calls Try.prog 19 #[.agg #[.string a, v, .string b], .agg #[.string a2, u, .string b2]] w fun e w' => e = .returned (.bool true) ∧ Below w.heap.size w w' := by
  subst ha hb ha2 hb2
  exact kln_to l l v u true w h1 h2 hs.2.2.1 hs.2.2.1 (fun p hp => (hs.2.2.2 p hp).2.1) (fun p hp => (hs.2.2.2 p hp).2.1) (Lib.hid (decide_eq_true rfl))
set_option maxHeartbeats 3200000 in
set_option maxRecDepth 100000 in
theorem kcm_0 (A A2 : Option Addr) (c c2 : Nat) (w : World) :
    Calls Try.prog 30 #[.slice A 0 c, .slice A2 0 c2] w fun e w' => e = .returned (.bool true) ∧ Below w.heap.size w w' := by
  go_enter Try.func30, Try.ntmps30
  go_wp2
  go_loopw [5] (fun i wr => i = .int .i64 0 ∧ w = wr) (fun _ _ => 0)
  case atStart => exact ⟨rfl, rfl⟩
  case round =>
    obtain ⟨rfl, rfl⟩ := hrel
    go_wp2
    go_ret
    exact ⟨rfl, Below.refl _ _⟩
set_option maxHeartbeats 25600000 in
set_option maxRecDepth 100000 in
theorem kcm_1 (b1 o1 c1 b2 o2 c2 n : Nat) (L : List CV) (w : World) (hnl : Hid (L.length = n)) (hn : n ≤ 1000000) (hb1 : b1 < w.heap.size) (hb2 : b2 < w.heap.size) (hc1 : Hid (CmpC w b1 o1 L)) (hc2 : Hid (CmpC w b2 o2 L)) (hsm : Hid (∀ c ∈ L, smlC c)) :
    Calls Try.prog 30 #[.slice (some ⟨b1, o1, none⟩) n c1, .slice (some ⟨b2, o2, none⟩) n c2] w fun e w' => e = .returned (.bool true) ∧ Below w.heap.size w w' := by
  go_enter Try.func30, Try.ntmps30
  go_wp2_with fail
  go_loopw [5] (fun i wr => ∃ k : Nat, k ≤ n ∧ i = .int .i64 k ∧ Below w.heap.size w wr) (fun i _ => n - (intOf i).toNat)
  case atStart => exact ⟨0, Nat.zero_le _, rfl, Below.refl _ _⟩
  case round =>
    obtain ⟨k, hk, rfl, hb⟩ := hrel
    obtain ⟨wo, rfl⟩ : ∃ wo : World, wo = wr := ⟨_, rfl⟩
    by_cases hlt : k < n
    · have hkl : k < L.length := by rw [hnl.out]; exact hlt
      obtain ⟨sa, sn, sc, p0, p1, p2, hl1⟩ := cmp_at hc1.out hkl
      obtain ⟨ta, tn, tc, q0, q1, q2, hl2⟩ := cmp_at hc2.out hkl
      have hsc := hsm.out _ (List.getElem_mem hkl)
      obtain ⟨cv, hcv⟩ : ∃ c, L[k]'hkl = c := ⟨_, rfl⟩
      rw [hcv] at p0 p2 hl1 q0 q2 hl2 hsc
      have e1 : cv.ls.length = sn := by obtain ⟨_, _, e⟩ := hl1.slice; injection e with _ e _; exact e.symm
      have e2 : cv.ls.length = tn := by obtain ⟨_, _, e⟩ := hl2.slice; injection e with _ e _; exact e.symm
      obtain rfl : sn = tn := e1.symm.trans e2
      have HSN := Lib.hid e1
      have xsn : sn ≤ 1000000 := by rw [← e1]; exact hsc.2.1
      obtain ⟨o, ho⟩ : ∃ o, cv.own = o := ⟨_, rfl⟩
      obtain ⟨X0, hX0⟩ : ∃ X : ByteArray, ⟨cv.nm.toArray⟩ = X := ⟨_, rfl⟩
      rw [ho] at p2 q2
      rw [hX0] at p0 q0
      have r0 := (hb.cell (p := ⟨b1, o1 + k * 3, none⟩) hb1).trans p0
      have r1 := (hb.cell (p := ⟨b1, o1 + k * 3 + 1, none⟩) hb1).trans p1
      have r2 := (hb.cell (p := ⟨b1, o1 + k * 3 + 2, none⟩) hb1).trans p2
      have s0 := (hb.cell (p := ⟨b2, o2 + k * 3, none⟩) hb2).trans q0
      have s1 := (hb.cell (p := ⟨b2, o2 + k * 3 + 1, none⟩) hb2).trans q1
      have s2 := (hb.cell (p := ⟨b2, o2 + k * 3 + 2, none⟩) hb2).trans q2
      have HL1 := Lib.hid hl1
      have HL2 := Lib.hid hl2
      have P1 := Lib.hid p1
      have Q1 := Lib.hid q1
      have HSC := Lib.hid hsc
      have HB := Lib.hid hb
      clear p0 p1 p2 q0 q1 q2 hl1 hl2 hcv ho hX0 hsc e1 e2 hb
      go_wp2_with fail
      go_quiet (fail)
      have HB2 := Lib.hid (below_drewN HB.out nq)
      go_wp2_with fail
      go_loopw [6] (fun i wx => ∃ j : Nat, j ≤ sn ∧ i = .int .i64 j ∧ Below w.heap.size w wx) (fun i _ => sn - (intOf i).toNat)
      case atStart => exact ⟨0, Nat.zero_le _, rfl, HB2.out⟩
      case round =>
        obtain ⟨j, hj, rfl, hb⟩ := hrel
        have t1 := (hb.cell (p := ⟨b1, o1 + k * 3 + 1, none⟩) hb1).trans P1.out
        have u1 := (hb.cell (p := ⟨b2, o2 + k * 3 + 1, none⟩) hb2).trans Q1.out
        by_cases hjt : j < sn
        · have hjl : j < cv.ls.length := by rw [HSN.out]; exact hjt
          obtain ⟨lb, lo, lc, hAv, hlb, hlc⟩ := HL1.out.form (by omega)
          obtain ⟨mb, mo, mc, hAv2, hmb, hmc⟩ := HL2.out.form (by omega)
          have hA : sa = some ⟨lb, lo, none⟩ := by injection hAv
          have hA2 : ta = some ⟨mb, mo, none⟩ := by injection hAv2
          subst hA hA2
          obtain ⟨sv, e0, e1, e2, hpv⟩ := hlc j hjl
          obtain ⟨tv, g0, g1, g2, hqv⟩ := hmc j hjl
          obtain ⟨pa, pn, pc, hsv⟩ : ∃ a n c, sv = .slice a n c := by obtain ⟨a, n, c, h, _⟩ := hpv; exact ⟨a, n, c, h⟩
          obtain ⟨qa, qn, qc, htv⟩ : ∃ a n c, tv = .slice a n c := by obtain ⟨a, n, c, h, _⟩ := hqv; exact ⟨a, n, c, h⟩
          subst hsv htv
          have hsl := HSC.out.2.2 _ (List.getElem_mem hjl)
          obtain ⟨l, hl⟩ : ∃ l, cv.ls[j]'hjl = l := ⟨_, rfl⟩
          rw [hl] at e0 e2 hpv g0 g2 hqv hsl
          obtain ⟨Y0, hY0⟩ : ∃ X : ByteArray, ⟨l.nm.toArray⟩ = X := ⟨_, rfl⟩
          obtain ⟨Y2, hY2⟩ : ∃ X : ByteArray, ⟨l.vl.toArray⟩ = X := ⟨_, rfl⟩
          rw [hY0] at e0 g0
          rw [hY2] at e2 g2
          have f0 := (hb.cell (p := ⟨lb, lo + j * 3, none⟩) hlb).trans e0
          have f1 := (hb.cell (p := ⟨lb, lo + j * 3 + 1, none⟩) hlb).trans e1
          have f2 := (hb.cell (p := ⟨lb, lo + j * 3 + 2, none⟩) hlb).trans e2
          have h0 := (hb.cell (p := ⟨mb, mo + j * 3, none⟩) hmb).trans g0
          have h1 := (hb.cell (p := ⟨mb, mo + j * 3 + 1, none⟩) hmb).trans g1
          have h2 := (hb.cell (p := ⟨mb, mo + j * 3 + 2, none⟩) hmb).trans g2
          have W0 := Lib.hid hY0.symm
          have W2 := Lib.hid hY2.symm
          have HP := Lib.hid (hpv.below hb)
          have HQ := Lib.hid (hqv.below hb)
          have HSL := Lib.hid hsl
          have ct1 := cell_regrown t1
          have cu1 := cell_regrown u1
          have cf0 := cell_regrown f0
          have cf1 := cell_regrown f1
          have cf2 := cell_regrown f2
          have ch0 := cell_regrown h0
          have ch1 := cell_regrown h1
          have ch2 := cell_regrown h2
          have HBB := Lib.hid hb
          have d1 := Lib.hid (fun dd os => Calls.regrown_of (kln_v l Y0 Y2 Y0 Y2 (.slice pa pn pc) (.slice qa qn qc) (Sort.grow (redrawn wr dd) os) W0.out W2.out W0.out W2.out (HP.out.below (below_regrown wr dd os)) (HQ.out.below (below_regrown wr dd os)) HSL.out))
          clear e0 e1 e2 g0 g1 g2 hpv hqv hl hY0 hY2 hsl hlc hmc hAv hAv2 hb
          go_upto_region 11 with fail
          refine wp_region_quiet_below (by kernel_rfl) (by kernel_rfl) ?_
          clear t1 u1 f0 f1 f2 h0 h1 h2
          repeat (quiet_step (first | with_reducible exact d1.out _ _))
          refine wpQuiet_nil ?_
          intro w' hw'
          obtain ⟨⟨dq, osq⟩, rfl⟩ := hw'
          have hz := bstep HBB.out (below_regrown wr dq osq)
          go_wp2
          go_roundw
          case rel => exact ⟨j + 1, by omega, by go_num, hz⟩
          case measure => simp [intOf]; omega
        · go_wp2
          go_roundw
          case rel => exact ⟨k + 1, by omega, by go_num, hb⟩
          case measure => simp [intOf]; omega
    · go_wp2
      go_ret
      exact ⟨rfl, hb⟩
theorem kcm_t (v u : Value) (L : List CV) (w : World) (hv : CmpsV w v L) (hu : CmpsV w u L) (hn : L.length ≤ 1000000) (hsm : ∀ c ∈ L, smlC c) :
    Calls Try.prog 30 #[v, u] w fun e w' => e = .returned (.bool true) ∧ Below w.heap.size w w' := by
  cases hL : L with
  | nil =>
    rw [hL] at hv hu
    obtain ⟨A, c, rfl⟩ := hv.slice
    obtain ⟨A2, c2, rfl⟩ := hu.slice
    exact kcm_0 A A2 c c2 w
  | cons x xs =>
    have hl : 0 < L.length := by rw [hL]; simp
    obtain ⟨b1, o1, c1, rfl, h1, k1⟩ := hv.form hl
    obtain ⟨b2, o2, c2, rfl, h2, k2⟩ := hu.form hl
    exact kcm_1 b1 o1 c1 b2 o2 c2 _ L w (Lib.hid rfl) hn h1 h2 (Lib.hid k1) (Lib.hid k2) (Lib.hid hsm)
end Tre
end Go.Proofs.Ytdakpncfophjnaa
