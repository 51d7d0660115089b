/-
  Several texts in one (TrY, TrT).
-/
import Derived.Test.YtdakpncfophjnaaTrC
import Derived.Test.YtdakpncfophjnaaBdAF
import Derived.Lib.QuietBelow
import Derived.BigQuiet
import Derived.Test.YtdakpncfophjnaaBdAE
/-
  keep.Comps over two lists that read alike; keep.Ints.
-/
namespace Go.Proofs.Ytdakpncfophjnaa
open Go.RowKit
namespace Tre
open Lin CutB Cel Ap
open Opn (TxtV)
theorem kln_v (l : LV) (a b a2 b2 : ByteArray) (v u : Value) (w : World) (ha : a = ⟨l.nm.toArray⟩) (hb : b = ⟨l.vl.toArray⟩) (ha2 : a2 = ⟨l.nm.toArray⟩) (hb2 : b2 = ⟨l.vl.toArray⟩) (h1 : ParsV w v l.ps) (h2 : ParsV w u l.ps) (hs : smlL l) :
    Calls Try.prog 19 #[.agg #[.string a, v, .string b], .agg #[.string a2, u, .string b2]] w fun e w' => e = .returned (.bool true) ∧ Below w.heap.size w w' := by
  subst ha hb ha2 hb2
  exact kln_to l l v u true w h1 h2 hs.2.2.1 hs.2.2.1 (fun p hp => (hs.2.2.2 p hp).2.1) (fun p hp => (hs.2.2.2 p hp).2.1) (Lib.hid (decide_eq_true rfl))
set_option maxHeartbeats 3200000 in
set_option maxRecDepth 100000 in
theorem kcm_0 (A A2 : Option Addr) (c c2 : Nat) (w : World) :
    Calls Try.prog 30 #[.slice A 0 c, .slice A2 0 c2] w fun e w' => e = .returned (.bool true) ∧ Below w.heap.size w w' := by
  go_enter Try.func30, Try.ntmps30
  go_wp2
  go_loopw [5] (fun i wr => i = .int .i64 0 ∧ w = wr) (fun _ _ => 0)
  case atStart => exact ⟨rfl, rfl⟩
  case round =>
    obtain ⟨rfl, rfl⟩ := hrel
    go_wp2
    go_ret
    exact ⟨rfl, Below.refl _ _⟩
set_option maxHeartbeats 25600000 in
set_option maxRecDepth 100000 in
theorem kcm_1 (b1 o1 c1 b2 o2 c2 n : Nat) (L : List CV) (w : World) (hnl : Hid (L.length = n)) (hn : n ≤ 1000000) (hb1 : b1 < w.heap.size) (hb2 : b2 < w.heap.size) (hc1 : Hid (CmpC w b1 o1 L)) (hc2 : Hid (CmpC w b2 o2 L)) (hsm : Hid (∀ c ∈ L, smlC c)) :
    Calls Try.prog 30 #[.slice (some ⟨b1, o1, none⟩) n c1, .slice (some ⟨b2, o2, none⟩) n c2] w fun e w' => e = .returned (.bool true) ∧ Below w.heap.size w w' := by
  go_enter Try.func30, Try.ntmps30
  go_wp2_with fail
  go_loopw [5] (fun i wr => ∃ k : Nat, k ≤ n ∧ i = .int .i64 k ∧ Below w.heap.size w wr) (fun i _ => n - (intOf i).toNat)
  case atStart => exact ⟨0, Nat.zero_le _, rfl, Below.refl _ _⟩
  case round =>
    obtain ⟨k, hk, rfl, hb⟩ := hrel
    obtain ⟨wo, rfl⟩ : ∃ wo : World, wo = wr := ⟨_, rfl⟩
    by_cases hlt : k < n
    · have hkl : k < L.length := by rw [hnl.out]; exact hlt
      obtain ⟨sa, sn, sc, p0, p1, p2, hl1⟩ := cmp_at hc1.out hkl
      obtain ⟨ta, tn, tc, q0, q1, q2, hl2⟩ := cmp_at hc2.out hkl
      have hsc := hsm.out _ (List.getElem_mem hkl)
      obtain ⟨cv, hcv⟩ : ∃ c, L[k]'hkl = c := ⟨_, rfl⟩
      rw [hcv] at p0 p2 hl1 q0 q2 hl2 hsc
      have e1 : cv.ls.length = sn := by obtain ⟨_, _, e⟩ := hl1.slice; injection e with _ e _; exact e.symm
      have e2 : cv.ls.length = tn := by obtain ⟨_, _, e⟩ := hl2.slice; injection e with _ e _; exact e.symm
      obtain rfl : sn = tn := e1.symm.trans e2
      have HSN := Lib.hid e1
      have xsn : sn ≤ 1000000 := by rw [← e1]; exact hsc.2.1
      obtain ⟨o, ho⟩ : ∃ o, cv.own = o := ⟨_, rfl⟩
      obtain ⟨X0, hX0⟩ : ∃ X : ByteArray, ⟨cv.nm.toArray⟩ = X := ⟨_, rfl⟩
      rw [ho] at p2 q2
      rw [hX0] at p0 q0
      have r0 := (hb.cell (p := ⟨b1, o1 + k * 3, none⟩) hb1).trans p0
      have r1 := (hb.cell (p := ⟨b1, o1 + k * 3 + 1, none⟩) hb1).trans p1
      have r2 := (hb.cell (p := ⟨b1, o1 + k * 3 + 2, none⟩) hb1).trans p2
      have s0 := (hb.cell (p := ⟨b2, o2 + k * 3, none⟩) hb2).trans q0
      have s1 := (hb.cell (p := ⟨b2, o2 + k * 3 + 1, none⟩) hb2).trans q1
      have s2 := (hb.cell (p := ⟨b2, o2 + k * 3 + 2, none⟩) hb2).trans q2
      have HL1 := Lib.hid hl1
      have HL2 := Lib.hid hl2
      have P1 := Lib.hid p1
      have Q1 := Lib.hid q1
      have HSC := Lib.hid hsc
      have HB := Lib.hid hb
      clear p0 p1 p2 q0 q1 q2 hl1 hl2 hcv ho hX0 hsc e1 e2 hb
      go_wp2_with fail
      go_quiet (fail)
      have HB2 := Lib.hid (below_drewN HB.out nq)
      go_wp2_with fail
      go_loopw [6] (fun i wx => ∃ j : Nat, j ≤ sn ∧ i = .int .i64 j ∧ Below w.heap.size w wx) (fun i _ => sn - (intOf i).toNat)
      case atStart => exact ⟨0, Nat.zero_le _, rfl, HB2.out⟩
      case round =>
        obtain ⟨j, hj, rfl, hb⟩ := hrel
        have t1 := (hb.cell (p := ⟨b1, o1 + k * 3 + 1, none⟩) hb1).trans P1.out
        have u1 := (hb.cell (p := ⟨b2, o2 + k * 3 + 1, none⟩) hb2).trans Q1.out
        by_cases hjt : j < sn
        · have hjl : j < cv.ls.length := by rw [HSN.out]; exact hjt
          obtain ⟨lb, lo, lc, hAv, hlb, hlc⟩ := HL1.out.form (by omega)
          obtain ⟨mb, mo, mc, hAv2, hmb, hmc⟩ := HL2.out.form (by omega)
          have hA : sa = some ⟨lb, lo, none⟩ := by injection hAv
          have hA2 : ta = some ⟨mb, mo, none⟩ := by injection hAv2
          subst hA hA2
          obtain ⟨sv, e0, e1, e2, hpv⟩ := hlc j hjl
          obtain ⟨tv, g0, g1, g2, hqv⟩ := hmc j hjl
          obtain ⟨pa, pn, pc, hsv⟩ : ∃ a n c, sv = .slice a n c := by obtain ⟨a, n, c, h, _⟩ := hpv; exact ⟨a, n, c, h⟩
          obtain ⟨qa, qn, qc, htv⟩ : ∃ a n c, tv = .slice a n c := by obtain ⟨a, n, c, h, _⟩ := hqv; exact ⟨a, n, c, h⟩
          subst hsv htv
          have hsl := HSC.out.2.2 _ (List.getElem_mem hjl)
          obtain ⟨l, hl⟩ : ∃ l, cv.ls[j]'hjl = l := ⟨_, rfl⟩
          rw [hl] at e0 e2 hpv g0 g2 hqv hsl
          obtain ⟨Y0, hY0⟩ : ∃ X : ByteArray, ⟨l.nm.toArray⟩ = X := ⟨_, rfl⟩
          obtain ⟨Y2, hY2⟩ : ∃ X : ByteArray, ⟨l.vl.toArray⟩ = X := ⟨_, rfl⟩
          rw [hY0] at e0 g0
          rw [hY2] at e2 g2
          have f0 := (hb.cell (p := ⟨lb, lo + j * 3, none⟩) hlb).trans e0
          have f1 := (hb.cell (p := ⟨lb, lo + j * 3 + 1, none⟩) hlb).trans e1
          have f2 := (hb.cell (p := ⟨lb, lo + j * 3 + 2, none⟩) hlb).trans e2
          have h0 := (hb.cell (p := ⟨mb, mo + j * 3, none⟩) hmb).trans g0
          have h1 := (hb.cell (p := ⟨mb, mo + j * 3 + 1, none⟩) hmb).trans g1
          have h2 := (hb.cell (p := ⟨mb, mo + j * 3 + 2, none⟩) hmb).trans g2
          have W0 := Lib.hid hY0.symm
          have W2 := Lib.hid hY2.symm
          have HP := Lib.hid (hpv.below hb)
          have HQ := Lib.hid (hqv.below hb)
          have HSL := Lib.hid hsl
          have ct1 := cell_regrown t1
          have cu1 := cell_regrown u1
          have cf0 := cell_regrown f0
          have cf1 := cell_regrown f1
          have cf2 := cell_regrown f2
          have ch0 := cell_regrown h0
          have ch1 := cell_regrown h1
          have ch2 := cell_regrown h2
          have HBB := Lib.hid hb
          have d1 := Lib.hid (fun dd os => Calls.regrown_of (kln_v l Y0 Y2 Y0 Y2 (.slice pa pn pc) (.slice qa qn qc) (Sort.grow (redrawn wr dd) os) W0.out W2.out W0.out W2.out (HP.out.below (below_regrown wr dd os)) (HQ.out.below (below_regrown wr dd os)) HSL.out))
          clear e0 e1 e2 g0 g1 g2 hpv hqv hl hY0 hY2 hsl hlc hmc hAv hAv2 hb
          go_upto_region 11 with fail
          refine wp_region_quiet_below (by kernel_rfl) (by kernel_rfl) ?_
          clear t1 u1 f0 f1 f2 h0 h1 h2
          repeat (quiet_step (first | with_reducible exact d1.out _ _))
          refine wpQuiet_nil ?_
          intro w' hw'
          obtain ⟨⟨dq, osq⟩, rfl⟩ := hw'
          have hz := bstep HBB.out (below_regrown wr dq osq)
          go_wp2
          go_roundw
          case rel => exact ⟨j + 1, by omega, by go_num, hz⟩
          case measure => simp [intOf]; omega
        · go_wp2
          go_roundw
          case rel => exact ⟨k + 1, by omega, by go_num, hb⟩
          case measure => simp [intOf]; omega
    · go_wp2
      go_ret
      exact ⟨rfl, hb⟩
theorem kcm_t (v u : Value) (L : List CV) (w : World) (hv : CmpsV w v L) (hu : CmpsV w u L) (hn : L.length ≤ 1000000) (hsm : ∀ c ∈ L, smlC c) :
    Calls Try.prog 30 #[v, u] w fun e w' => e = .returned (.bool true) ∧ Below w.heap.size w w' := by
  cases hL : L with
  | nil =>
    rw [hL] at hv hu
    obtain ⟨A, c, rfl⟩ := hv.slice
    obtain ⟨A2, c2, rfl⟩ := hu.slice
    exact kcm_0 A A2 c c2 w
  | cons x xs =>
    have hl : 0 < L.length := by rw [hL]; simp
    obtain ⟨b1, o1, c1, rfl, h1, k1⟩ := hv.form hl
    obtain ⟨b2, o2, c2, rfl, h2, k2⟩ := hu.form hl
    exact kcm_1 b1 o1 c1 b2 o2 c2 _ L w (Lib.hid rfl) hn h1 h2 (Lib.hid k1) (Lib.hid k2) (Lib.hid hsm)
end Tre
end Go.Proofs.Ytdakpncfophjnaa
/-
  Package tree: Text of whatever list of components.
-/
namespace Go.Proofs.Ytdakpncfophjnaa
open Go.RowKit
namespace Tre
open Lin CutB Cel Ap
open Opn (TxtV)
/-- What Text hands back. -/
def TxQ (r : WS) (w : World) (e : Ending) (w' : World) : Prop := e = .returned (.tuple #[.string ⟨r.1.toArray⟩, .int .i64 r.2]) ∧ Below w.heap.size w w'
theorem smlW_of {c : CV} {l : LV} (h : ∀ l ∈ c.ls, smlW l) (hl : l ∈ c.ls) : smlW l := h l hl
theorem smlW_nm (t nm : List UInt8) (ht : t.length ≤ 1000) (h : nm.length ≤ 1000000) : smlW ⟨t, [], nm⟩ := ⟨⟨ht, h, by simp, by simp⟩, by simp [psT]⟩
theorem nm_at (L : List CV) (a : Nat) (h : a < L.length) : nmAt L (a : Int) = (L[a]).nm := by
  rw [nmAt, Int.toNat_natCast, List.getElem?_eq_getElem h]; rfl
theorem foldl_snoc {α β : Type} (f : β → α → β) (xs : List α) (j : Nat) (hj : j < xs.length) (s : β) : (xs.take (j + 1)).foldl f s = f ((xs.take j).foldl f s) xs[j] := by
  rw [List.take_succ_eq_append_getElem hj, List.foldl_append]; rfl
theorem pop_at (K : Stk) (i : Int) (j : Nat) (hj : j < (K.takeWhile (fun x => decide (x.2 = i))).length) : ∃ h : j < K.length, (K.takeWhile (fun x => decide (x.2 = i)))[j] = K[j] := by
  have h1 : j < K.length := Nat.lt_of_lt_of_le hj (List.takeWhile_sublist _).length_le
  refine ⟨h1, ?_⟩
  have h2 := List.takeWhile_prefix (fun x : Int × Int => decide (x.2 = i)) (l := K)
  exact h2.getElem hj
theorem pop_len (K : Stk) (i : Int) : (K.takeWhile (fun x => decide (x.2 = i))).length + (lvK K i).length = K.length := by
  have := congrArg List.length (List.takeWhile_append_dropWhile (p := fun x : Int × Int => decide (x.2 = i)) (l := K))
  rw [List.length_append] at this
  exact this
set_option maxHeartbeats 3200000 in
set_option maxRecDepth 100000 in
theorem tx_no (A : Option Addr) (n c : Nat) (L : List CV) (w : World) (hv : CmpsV w (.slice A n c) L) (hn : L.length ≤ 1000000) (hL : ∀ c ∈ L, i64B c.own) (hsm : ∀ c ∈ L, smlC c) (hR : Hid (chkB L = false)) :
    Calls Try.prog 27 #[.slice A n c] w (TxQ ([], 20) w) := by
  have HC := Lib.hid (ck_to _ L false w hv hn hL hsm hR)
  clear hv hn hL hsm
  go_enter Try.func27, Try.ntmps27
  go_wp2_with fail
  refine HC.out.mono ?_
  rintro e w1 ⟨rfl, k1⟩
  go_wp2
  go_ret2
  exact ⟨rfl, k1⟩
set_option maxHeartbeats 51200000 in
set_option maxRecDepth 100000 in
theorem tx_ok (bl off n c : Nat) (L : List CV) (R : WS) (w : World) (hv : Hid (CmpsV w (.slice (some ⟨bl, off, none⟩) n c) L)) (hc : Hid (CmpC w bl off L)) (hbl : bl < w.heap.size) (hn : n ≤ 1000000) (hn0 : 0 < n) (hnl : Hid (L.length = n)) (hL : Hid (∀ c ∈ L, i64B c.own)) (hsm : Hid (∀ c ∈ L, smlC c)) (hsw : Hid (∀ c ∈ L, ∀ l ∈ c.ls, smlW l)) (hR : Hid (chkB L = true)) (h0n : Hid (ownAt L 0 = (n : Int) - 1))
    (hT : Hid (txG L 0 [] ([], 0) L = R)) :
    Calls Try.prog 27 #[.slice (some ⟨bl, off, none⟩) n c] w (TxQ R w) := by
  have HC := Lib.hid (ck_to _ L true w hv.out (by rw [hnl.out]; exact hn) hL.out hsm.out hR)
  have HI : Hid (TxI L n 0 [] ([], 0) R) := Lib.hid (by
    have h1 := hR.out
    have h2 := hT.out
    cases L with
    | nil => cases h1
    | cons x xs =>
      rw [chkB, Bool.and_eq_true] at h1
      exact ⟨⟨[], rfl, h1.2⟩, by simp, by simp, rfl, by simp, fun h => by omega, h2⟩)
  go_enter Try.func27, Try.ntmps27
  go_wp2_with fail
  refine HC.out.mono ?_
  rintro e w1 ⟨rfl, k1⟩
  have K1 := Lib.hid k1
  have sb := k1.size
  obtain ⟨b, hb⟩ : ∃ b, w1.heap.size = b := ⟨_, rfl⟩
  have W0 := Lib.hid (Wrt.new w1)
  have B0 := Lib.hid (k1.alloc k1.size (Obj.cells #[.pointer none, .slice none 0 0, .int .i64 0] 84))
  have S0 : w1.heap.size < (w1.alloc (Obj.cells #[.pointer none, .slice none 0 0, .int .i64 0] 84)).heap.size := by simp
  clear k1 HC
  go_wp2_with fail
  rw [hb] at W0 sb S0
  obtain ⟨w2, hw2⟩ : ∃ x, w1.alloc (Obj.cells #[.pointer none, .slice none 0 0, .int .i64 0] 84) = x := ⟨_, rfl⟩
  rw [hw2] at W0 B0 S0 ⊢
  clear hw2 K1 hb
  go_loopw [6, 20] (fun sv iv wr => ∃ (k : Nat) (K : Stk) (A : Option Addr) (m cp : Nat) (s : WS), sv = .slice A m cp ∧ iv = .int .i64 k ∧ k ≤ n ∧ m ≤ 8 ∧ Hid (K.length = m) ∧ Hid (TxI L n k K s R) ∧ Hid (Wrt b b s.1 s.2 wr) ∧ Hid (RowO b wr (.slice A m cp) K) ∧ Below w.heap.size w wr) (fun _ iv _ => n - (intOf iv).toNat)
  case atStart => exact ⟨0, [], none, 0, 0, ([], 0), rfl, rfl, by omega, by omega, Lib.hid rfl, HI, W0, Lib.hid (RowO.nil _ _), B0.out⟩
  case round =>
    obtain ⟨k, K, A, m, cp, s, rfl, rfl, hk, hm, hKm, hI, hW, hrow, hB⟩ := hrel
    obtain ⟨wo, rfl⟩ : ∃ wo : World, wo = wr := ⟨_, rfl⟩
    by_cases hlt : k < n
    · have hkl : k < L.length := by rw [hnl.out]; exact hlt
      obtain ⟨sa, sn, sc, c0, c1, c2, hlv⟩ := cmp_at hc.out hkl
      have hstep := hI.out.step hnl.out hkl (fun e => by subst e; rw [← h0n.out]; exact (own_nat L 0 hkl).symm)
      have hcm := hsm.out _ (List.getElem_mem hkl)
      have hcw := hsw.out _ (List.getElem_mem hkl)
      obtain ⟨cv, hcv⟩ : ∃ c, L[k]'hkl = c := ⟨_, rfl⟩
      rw [hcv] at c0 c2 hlv hstep hcm hcw
      obtain ⟨⟨o1, o2⟩, hm7, hbad, hnx⟩ := hstep
      obtain ⟨o, ho⟩ : ∃ o, cv.own = o := ⟨_, rfl⟩
      rw [ho] at c2 o1 o2 hnx
      have hsnl : Hid (cv.ls.length = sn) := Lib.hid (by obtain ⟨a, c', e⟩ := hlv.slice; injection e with _ e _; exact e.symm)
      have xsn : sn ≤ 1000000 := by rw [← hsnl.out]; exact hcm.2.1
      have hs2 : s.2 = 0 := hI.out.2.2.2.1
      have hsl : s.1.length ≤ 600000 := hI.out.2.2.2.2.1
      have HXS := Lib.hid hI.out.2.2.1
      obtain ⟨X0, hX0⟩ : ∃ X : ByteArray, ⟨cv.nm.toArray⟩ = X := ⟨_, rfl⟩
      rw [hX0] at c0
      have H0 := Lib.hid hX0.symm
      have d0 := (hB.cell (p := ⟨bl, off + k * 3, none⟩) hbl).trans c0
      have d1 := (hB.cell (p := ⟨bl, off + k * 3 + 1, none⟩) hbl).trans c1
      have d2 := (hB.cell (p := ⟨bl, off + k * 3 + 2, none⟩) hbl).trans c2
      have HLV := Lib.hid hlv
      have HCM := Lib.hid hcm
      have HCW := Lib.hid hcw
      have HBAD := Lib.hid hbad
      have HNX := Lib.hid hnx
      have HSL := Lib.hid hsl
      obtain ⟨q, hq⟩ : ∃ q, wo.heap.size = q := ⟨_, rfl⟩
      have T1 : Hid (TxS w b wo.heap.size s (.slice A m cp) K [.string X0, .slice sa sn sc, .int .i64 o] (wo.alloc (Obj.cells #[.string X0, .slice sa sn sc, .int .i64 o] 63))) := Lib.hid ⟨hW.out.below ((Below.refl _ _).alloc (Nat.le_refl _) _), hrow.out.below ((Below.refl _ _).alloc (Nat.le_refl _) _), Ob.new wo _ _, hB.alloc hB.size _, sb⟩
      have gb := T1.out.1.lt.2
      have gbs : b ≤ (wo.alloc (Obj.cells #[.string X0, .slice sa sn sc, .int .i64 o] 63)).heap.size := by omega
      have HOW := Lib.hid ho
      clear c0 c1 c2 hlv hX0 hI hW hrow hcm hcw hbad hnx hsl ho hB
      go_wp2_with fail
      refine (pt_to b b s.1 s.2 ⟨#[66, 69, 71, 73, 78]⟩ X0 ⟨bgL, [], cv.nm⟩ (.slice none 0 0) (putW s ⟨bgL, [], cv.nm⟩) _ T1.out.1 gbs HSL.out rfl H0.out (ParsV.none _) (smlW_nm _ _ (by decide) HCM.out.1) (Lib.hid rfl)).mono ?_
      rintro e w3 ⟨rfl, hq1⟩
      have T2 := Lib.hid (T1.out.put hq1)
      rw [hq] at T2
      have g2 := T2.out.2.2.1.lt
      have y1 := T2.out.2.2.1.cell (i := 1) rfl
      have L2 := Lib.hid (put_len s ⟨bgL, [], cv.nm⟩ HSL.out)
      obtain ⟨s1, hs1⟩ : ∃ x, putW s ⟨bgL, [], cv.nm⟩ = x := ⟨_, rfl⟩
      have HS1 := Lib.hid hs1
      rw [hs1] at T2 L2
      clear hq1 d0 d1 d2 T1 gb gbs hs1 hq
      go_wp2_with fail
      go_loopw [32] (fun iv wr => ∃ j : Nat, j ≤ sn ∧ iv = .int .i64 j ∧ Hid (TxS w b q ((cv.ls.take j).foldl putW s1) (.slice A m cp) K [.string X0, .slice sa sn sc, .int .i64 o] wr)) (fun iv _ => sn - (intOf iv).toNat)
      case atStart => exact ⟨0, Nat.zero_le _, rfl, T2⟩
      case round =>
        obtain ⟨j, hj, rfl, hT3⟩ := hrel
        by_cases hjt : j < sn
        · have hjl : j < cv.ls.length := by rw [hsnl.out]; exact hjt
          obtain ⟨lb, lo, lc, hAv, hlb, hlc⟩ := HLV.out.form (by omega)
          have hA : sa = some ⟨lb, lo, none⟩ := by injection hAv
          subst hA
          obtain ⟨sv, e0, e1, e2, hpv⟩ := hlc j hjl
          obtain ⟨pa, pn, pc, hsv⟩ : ∃ a n c, sv = .slice a n c := by obtain ⟨a, n, c, h, _⟩ := hpv; exact ⟨a, n, c, h⟩
          subst hsv
          have hlw := HCW.out _ (List.getElem_mem hjl)
          have HSN := Lib.hid (foldl_snoc putW cv.ls j hjl s1)
          obtain ⟨l, hl⟩ : ∃ l, cv.ls[j]'hjl = l := ⟨_, rfl⟩
          rw [hl] at e0 e2 hpv hlw HSN
          obtain ⟨Y0, hY0⟩ : ∃ X : ByteArray, ⟨l.nm.toArray⟩ = X := ⟨_, rfl⟩
          obtain ⟨Y2, hY2⟩ : ∃ X : ByteArray, ⟨l.vl.toArray⟩ = X := ⟨_, rfl⟩
          rw [hY0] at e0
          rw [hY2] at e2
          have G0 := Lib.hid hY0.symm
          have G2 := Lib.hid hY2.symm
          have HB3 := hT3.out.2.2.2.1
          have f0 := (HB3.cell (p := ⟨lb, lo + j * 3, none⟩) hlb).trans e0
          have f1 := (HB3.cell (p := ⟨lb, lo + j * 3 + 1, none⟩) hlb).trans e1
          have f2 := (HB3.cell (p := ⟨lb, lo + j * 3 + 2, none⟩) hlb).trans e2
          have HPV := Lib.hid ((hpv.below HB3).below ((Below.refl wr.heap.size wr).alloc (Nat.le_refl _) (Obj.cells #[.string Y0, .slice pa pn pc, .string Y2] 24)))
          have HLW := Lib.hid hlw
          have T4 := Lib.hid (hT3.out.alloc (Obj.cells #[.string Y0, .slice pa pn pc, .string Y2] 24))
          have L4 := Lib.hid (foldl_len putW (fun s x h => put_len s x h) (cv.ls.take j) s1 L2.out)
          have gb4 : b ≤ (wr.alloc (Obj.cells #[.string Y0, .slice pa pn pc, .string Y2] 24)).heap.size := Nat.le_of_lt T4.out.1.lt.2
          clear e0 e1 e2 hpv hlw hl hY0 hY2 hlc hAv HB3
          go_wp2_with fail
          refine (pt_to b b _ _ Y0 Y2 l (.slice pa pn pc) _ _ T4.out.1 gb4 L4.out G0.out G2.out HPV.out HLW.out (Lib.hid rfl)).mono ?_
          rintro e w5 ⟨rfl, hq1⟩
          have T5 := Lib.hid (T4.out.put hq1)
          have T6 : Hid (TxS w b q ((cv.ls.take (j + 1)).foldl putW s1) (.slice A m cp) K [.string X0, .slice (some ⟨lb, lo, none⟩) sn sc, .int .i64 o] w5) := Lib.hid (by rw [HSN.out]; exact T5.out)
          clear hq1 f0 f1 f2
          go_wp2
          go_roundw
          case rel => exact ⟨j + 1, by omega, by go_num, T6⟩
          case measure => simp [intOf]; omega
        · have T7 : Hid (TxS w b q (cv.ls.foldl putW s1) (.slice A m cp) K [.string X0, .slice sa sn sc, .int .i64 o] wr) := Lib.hid (by
            have h1 := hT3.out
            rw [List.take_of_length_le (by rw [hsnl.out]; omega)] at h1
            exact h1)
          have L7 := Lib.hid (foldl_len putW (fun s x h => put_len s x h) cv.ls s1 L2.out)
          obtain ⟨s2, hs2'⟩ : ∃ x, cv.ls.foldl putW s1 = x := ⟨_, rfl⟩
          have HS2 := Lib.hid hs2'
          rw [hs2'] at T7 L7
          have g7 := T7.out.2.2.1.lt
          have y2 := T7.out.2.2.1.cell (i := 2) rfl
          have gb7 : b ≤ wr.heap.size := Nat.le_of_lt T7.out.1.lt.2
          have xm : m ≤ 7 := by rw [← hKm.out]; exact hm7
          clear hT3 hs2' T2 L2 y1
          go_wp2_with (at_builtin; refine appO rfl _ _ rfl b _ K rfl T7.out.2.1 (k : Int) ((k : Int) + 1 + o) rfl (by rw [hKm.out]; omega) gb7 ?_)
          intro w4 g gcap r5 g5
          have T8 := Lib.hid (T7.out.app g5 r5)
          rw [hKm.out] at T8 ⊢
          obtain ⟨K1, hK1⟩ : ∃ x, ((k : Int), (k : Int) + 1 + o) :: K = x := ⟨_, rfl⟩
          have HK1 := Lib.hid hK1
          rw [hK1] at T8
          obtain ⟨K2, hK2⟩ : ∃ x, lvK K1 ((k : Int) + 1) = x := ⟨_, rfl⟩
          have HK2 := Lib.hid hK2
          have hk1l : K1.length = m + 1 := by rw [← hK1, List.length_cons, hKm.out]
          have HK1L := Lib.hid hk1l
          obtain ⟨m2, hm2⟩ : ∃ x, K2.length = x := ⟨_, rfl⟩
          have HM2 := Lib.hid hm2
          have hm2l : m2 ≤ m + 1 := by rw [← hm2, ← hk1l, ← hK2]; exact lv_len K1 _
          have hpl := pop_len K1 ((k : Int) + 1)
          rw [hK2, hm2, hk1l] at hpl
          have HX1 : Hid (∀ x ∈ K1, (∃ a : Nat, x.1 = a ∧ a < n)) := Lib.hid (fun x hx => by
            rw [← hK1] at hx
            rcases List.mem_cons.1 hx with rfl | hx
            · exact ⟨k, rfl, hlt⟩
            · exact (HXS.out x hx).1)
          have HCW2 : Hid (cmpW L k K s cv = (K1.takeWhile (fun x => decide (x.2 = (k : Int) + 1))).foldl (endW L) s2) := Lib.hid (by
            rw [cmpW, HS1.out, HS2.out, ← hK1, HOW.out])
          clear r5 g5 T7 g7 y2 gb7 hK1 hK2 hm2 hk1l
          go_wp2_with fail
          refine (lv_to b (some ⟨g, 0, none⟩) (m + 1) gcap K1 K2 ((k : Int) + 1) _ T8.out.2.1 (by omega) HK2).mono ?_
          rintro e w5 ⟨rfl, hR5, rfl⟩
          have T9 : Hid (TxS w b q s2 (.slice (some ⟨g, 0, none⟩) m2 gcap) K2 [.string X0, .slice sa sn sc, .int .i64 o] w4) := Lib.hid (by
            have h1 := T8.out
            have h2 := hR5
            rw [HM2.out] at h2
            exact ⟨h1.1, h2, h1.2.2.1, h1.2.2.2.1, h1.2.2.2.2⟩)
          rw [HM2.out]
          have HP : Hid (∀ (j : Nat) (hj : j < K1.reverse.length), w4.cell? ⟨g, j * 2, none⟩ = some (.int .i64 (K1.reverse[j]).1)) := Lib.hid (fun j hj => by
            obtain ⟨g', c', hv', _, _, hcells⟩ := T8.out.2.1.at (by have := HK1L.out; omega)
            injection hv' with e1 e2 e3
            injection e1 with e1
            injection e1 with e1 _ _
            subst e1
            exact (hcells j hj).1)
          have HGL : Hid (g < w4.heap.size ∧ b ≤ g) := Lib.hid (by
            obtain ⟨g', c', hv', h1, h2, _⟩ := T8.out.2.1.at (by have := HK1L.out; omega)
            injection hv' with e1 e2 e3
            injection e1 with e1
            injection e1 with e1 _ _
            subst e1
            exact ⟨h2, h1⟩)
          have HOBG : Hid (∃ cur, w4.heap[g]? = some (.cells cur 88 (0, 0))) := Lib.hid (by
            rcases T8.out.2.1.2 with ⟨h1, _⟩ | ⟨g', c', cur, hv', _, h3, _⟩
            · cases h1
            · injection hv' with e1 _ _
              injection e1 with e1
              injection e1 with e1 _ _
              subst e1
              exact ⟨cur, h3⟩)
          clear hR5 T8
          obtain ⟨cur, hcur⟩ := HOBG.out
          have HCUR := Lib.hid hcur
          have HPC : Hid (∀ (j : Nat) (hj : j < K1.reverse.length), cur[j * 2]? = some (.int .i64 (K1.reverse[j]).1)) := Lib.hid (fun j hj => by
            have := HP.out j hj
            rw [Lib.cell_of_heap hcur] at this
            exact this)
          obtain ⟨t, ht⟩ : ∃ t, (K1.takeWhile (fun x => decide (x.2 = (k : Int) + 1))).length = t := ⟨_, rfl⟩
          have HTL := Lib.hid ht
          rw [ht] at hpl
          obtain ⟨PP, hPP⟩ : ∃ x, K1.takeWhile (fun x => decide (x.2 = (k : Int) + 1)) = x := ⟨_, rfl⟩
          have HPA : Hid (∀ (j : Nat) (hj : j < PP.length), ∃ h : j < K1.length, PP[j] = K1[j]) := Lib.hid (by subst hPP; exact fun j hj => pop_at K1 _ j hj)
          have HTL2 : Hid (PP.length = t) := Lib.hid (by rw [← hPP]; exact HTL.out)
          have HCW3 : Hid (cmpW L k K s cv = PP.foldl (endW L) s2) := Lib.hid (by rw [← hPP]; exact HCW2.out)
          have gG := HGL.out.1
          have L9 := L7
          clear ht hcur hPP HP HOBG HTL HCW2 L7
          go_wp2_with fail
          go_loopw [12] (fun iv wx => ∃ (i : Nat) (z : Int), iv = .int .i64 z ∧ z + 1 = i ∧ m2 ≤ i ∧ i ≤ m + 1 ∧ Hid (TxS w b q ((PP.take (m + 1 - i)).foldl (endW L) s2) (.slice (some ⟨g, 0, none⟩) m2 gcap) K2 [.string X0, .slice sa sn sc, .int .i64 o] wx) ∧ Hid (wx.heap[g]? = some (.cells cur 88 (0, 0)))) (fun iv _ => (intOf iv + 1).toNat)
          case atStart => exact ⟨m + 1, m, by first | rfl | go_num, by omega, hm2l, Nat.le_refl _, by rw [Nat.sub_self]; exact T9, HCUR⟩
          case round =>
            obtain ⟨i, z, rfl, hz, hi1, hi2, hT10, hG10⟩ := hrel
            by_cases hit : m2 < i
            · obtain ⟨i', rfl⟩ : ∃ i', i = i' + 1 := ⟨i - 1, by omega⟩
              obtain rfl : z = (i' : Int) := by omega
              have hjt : m + 1 - (i' + 1) < PP.length := by rw [HTL2.out]; omega
              obtain ⟨hjk, hPJ⟩ := HPA.out _ hjt
              obtain ⟨⟨a, ha, han⟩⟩ : Nonempty (∃ a : Nat, (K1[m + 1 - (i' + 1)]'hjk).1 = a ∧ a < n) := ⟨HX1.out _ (List.getElem_mem hjk)⟩
              have hrv : i' < K1.reverse.length := by rw [List.length_reverse, HK1L.out]; omega
              have hcc := HPC.out i' hrv
              have hre : K1.reverse[i'] = K1[m + 1 - (i' + 1)]'hjk := by
                rw [List.getElem_reverse]
                congr 1
                rw [HK1L.out]
                omega
              rw [hre, ha] at hcc
              have e0 : wr.cell? ⟨g, i' * 2, none⟩ = some (.int .i64 (a : Int)) := by rw [Lib.cell_of_heap hG10.out]; exact hcc
              have hal : a < L.length := by rw [hnl.out]; exact han
              obtain ⟨_, _, _, n0, -, -, -⟩ := cmp_at hc.out hal
              have hsma := (hsm.out _ (List.getElem_mem hal)).1
              have hnm := nm_at L a hal
              obtain ⟨NM, hNM⟩ : ∃ x, (L[a]'hal).nm = x := ⟨_, rfl⟩
              rw [hNM] at n0 hsma hnm
              obtain ⟨Y0, hY0⟩ : ∃ X : ByteArray, ⟨NM.toArray⟩ = X := ⟨_, rfl⟩
              rw [hY0] at n0
              have G0 := Lib.hid hY0.symm
              have HSM := Lib.hid hsma
              have e1 := (hT10.out.2.2.2.1.cell (p := ⟨bl, off + a * 3, none⟩) hbl).trans n0
              have L10 := Lib.hid (foldl_len (endW L) (fun s _ h => put_len s _ h) (PP.take (m + 1 - (i' + 1))) s2 L9.out)
              have gb10 : b ≤ wr.heap.size := Nat.le_of_lt hT10.out.1.lt.2
              have HSN2 : Hid ((PP.take (m + 1 - i')).foldl (endW L) s2 = putW ((PP.take (m + 1 - (i' + 1))).foldl (endW L) s2) ⟨enL, [], NM⟩) := Lib.hid (by
                have h1 : m + 1 - i' = (m + 1 - (i' + 1)) + 1 := by omega
                rw [h1, foldl_snoc (endW L) PP _ hjt, endW, hPJ, ha, hnm])
              have ga : g < wr.heap.size := blk_lt hG10.out
              clear hre hcc hrv ha hPJ hjk hjt n0 hsma hnm hNM hY0 hal
              go_wp2_with fail
              refine (pt_to b b _ _ ⟨#[69, 78, 68]⟩ Y0 ⟨enL, [], NM⟩ (.slice none 0 0) _ _ hT10.out.1 gb10 L10.out rfl G0.out (ParsV.none _) (smlW_nm _ _ (by decide) HSM.out) (Lib.hid rfl)).mono ?_
              rintro e w6 ⟨rfl, hq1⟩
              have T11 := Lib.hid (hT10.out.put hq1)
              have T12 : Hid (TxS w b q ((PP.take (m + 1 - i')).foldl (endW L) s2) (.slice (some ⟨g, 0, none⟩) m2 gcap) K2 [.string X0, .slice sa sn sc, .int .i64 o] w6) := Lib.hid (by rw [HSN2.out]; exact T11.out)
              have HG6 : Hid (w6.heap[g]? = some (.cells cur 88 (0, 0))) := Lib.hid (hq1.2.2 g _ hG10.out (fun e => by
                obtain ⟨p, u, _, hbk, _⟩ := hT10.out.1.any
                injection e with e
                subst e
                rw [hG10.out] at hbk
                injection hbk with e
                injection e with _ e _
                revert e
                decide) (fun c fz e => by injection e with _ e _; revert e; decide))
              clear hq1 e0 e1
              go_wp2
              go_roundw
              case rel => exact ⟨i', (i' : Int) - 1, by go_num, by omega, by omega, by omega, T12, HG6⟩
              case measure => simp [intOf]
            · obtain rfl : i = m2 := by omega
              have T13 : Hid (TxS w b q (cmpW L k K s cv) (.slice (some ⟨g, 0, none⟩) i gcap) K2 [.string X0, .slice sa sn sc, .int .i64 o] wr) := Lib.hid (by
                have h1 := hT10.out
                rw [List.take_of_length_le (by rw [HTL2.out]; omega), ← HCW3.out] at h1
                exact h1)
              obtain ⟨s3, hs3⟩ : ∃ x, cmpW L k K s cv = x := ⟨_, rfl⟩
              have HNX2 := HNX.out
              have HBAD2 := HBAD.out
              rw [HK1.out, HK2.out, hs3] at HNX2
              rw [hs3] at HBAD2 T13
              obtain ⟨s31, s32⟩ := s3
              simp only at HNX2 HBAD2
              have z3 := T13.out.1.err.1
              simp only at z3
              have N3 := Lib.hid HNX2
              have D3 := Lib.hid HBAD2
              have BB := T13.out.2.2.2.1
              have zz : ¬ (i : Int) ≤ z := by omega
              clear hT10 hs3 HNX2 HBAD2
              by_cases he : s32 = 0
              · subst he
                have HN := Lib.hid (N3.out rfl)
                go_wp2
                go_roundw
                case rel => exact ⟨k + 1, K2, some ⟨g, 0, none⟩, i, gcap, (s31, 0), rfl, by go_num, by omega, by omega, HM2, HN, Lib.hid T13.out.1, Lib.hid T13.out.2.1, BB⟩
                case measure => simp [intOf]; omega
              · have HR := Lib.hid (D3.out he)
                have x1 : (s32 != 0) = true := bne_iff_ne.2 he
                go_wp2_with fail
                go_quiet (fail)
                go_wp2
                go_ret2
                exact ⟨by rw [HR.out]; rfl, below_drewN BB _⟩
    · have hkn : k = n := by omega
      have hkn2 : L.drop k = [] := List.drop_of_length_le (by rw [hnl.out]; omega)
      obtain ⟨_, _, _, hs2, _, hne, hR2⟩ := hI.out
      rw [hkn2, txG] at hR2
      obtain ⟨s1, s2⟩ := s
      simp only at hs2 hne
      subst hs2
      have hne' := hne (by omega)
      have gb := hW.out.lt.2
      go_wp2_with fail
      refine (wst_to b b s1 0 _ hW.out hne').mono ?_
      rintro e w5 ⟨rfl, k5⟩
      go_wp2
      go_ret2
      rw [← hR2]
      exact ⟨rfl, hB.trans (k5.mono sb)⟩
theorem tx_to (v : Value) (L : List CV) (R : WS) (w : World) (hv : CmpsV w v L) (hn : L.length ≤ 1000000) (hL : ∀ c ∈ L, i64B c.own) (hsm : ∀ c ∈ L, smlC c) (hsw : ∀ c ∈ L, ∀ l ∈ c.ls, smlW l) (hR : Hid (txT L = R)) :
    Calls Try.prog 27 #[v] w (TxQ R w) := by
  have hR' := hR.out
  rw [txT] at hR'
  cases hch : chkB L with
  | false =>
    rw [hch, if_neg (by decide)] at hR'
    subst hR'
    obtain ⟨A, c, rfl⟩ := hv.slice
    exact tx_no A _ c L w hv hn hL hsm (Lib.hid hch)
  | true =>
    rw [hch, if_pos rfl] at hR'
    have hl : 0 < L.length := by
      cases L with
      | nil => cases hch
      | cons _ _ => simp
    have h0n : ownAt L 0 = (L.length : Int) - 1 := by
      cases L with
      | nil => cases hch
      | cons x xs =>
        rw [chkB, Bool.and_eq_true] at hch
        have := of_decide_eq_true hch.1
        show x.own = _
        rw [this]; simp
    obtain ⟨b, off, c, rfl, hb, hc⟩ := hv.form hl
    exact tx_ok b off _ c L R w (Lib.hid hv) (Lib.hid hc) hb hn hl (Lib.hid rfl) (Lib.hid hL) (Lib.hid hsm) (Lib.hid hsw) (Lib.hid hch) (Lib.hid h0n) (Lib.hid hR')
end Tre
end Go.Proofs.Ytdakpncfophjnaa
