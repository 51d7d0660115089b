/-
  Twins of trees, wherever they came from. (Written by gen/gen_trtw.py.)
-/
import Derived.Test.YtdakpncfophjnaaTrOA
import Derived.Test.YtdakpncfophjnaaLnRI
import Derived.Test.YtdakpncfophjnaaBdX
namespace Go.Proofs.Ytdakpncfophjnaa
open Go.RowKit
namespace Tre
open Lin CutB Cel Ap
open Opn (TxtV)
attribute [local go_sem ↓] Go.wp_at_zero Go.wp_at_succ
/-- What TwinComps hands back: a tree of its own. -/
def TcQ (L : List CV) (w : World) (e : Ending) (w' : World) : Prop := ∃ v, e = .returned v ∧ CmpO w.heap.size w' v L ∧ Below w.heap.size w w'
theorem twl_v (a b : ByteArray) (l : LV) (pv : Value) (w : World) (_ : a = ⟨l.nm.toArray⟩) (_ : b = ⟨l.vl.toArray⟩) (hp : ParsV w pv l.ps) (hL : Light l) :
    Calls Try.prog 13 #[.agg #[.string a, pv, .string b]] w (TlQ a b l.ps w) := twl_to a b pv l.ps w hp hL.2.2.1 hL.2.2.2
set_option maxHeartbeats 51200000 in
set_option maxRecDepth 100000 in
theorem tcm_1 (A0 : Option Addr) (n c0 : Nat) (L : List CV) (w : World) (hv : Hid (CmpsV w (.slice A0 n c0) L)) (hnl : Hid (L.length = n)) (hn : n ≤ 30) (hL : Hid (∀ c ∈ L, LightC c)) :
    Calls Try.prog 26 #[.slice A0 n c0] w (TcQ L w) := by
  go_enter Try.func26, Try.ntmps26
  go_wp2_with fail
  go_loopw [3, 4] (fun sv iv wr => ∃ (k : Nat) (A : Option Addr) (cp : Nat), sv = .slice A k cp ∧ iv = .int .i64 k ∧ k ≤ n ∧ Hid (CmpO w.heap.size wr (.slice A k cp) (L.take k)) ∧ Below w.heap.size w wr) (fun _ iv _ => n - (intOf iv).toNat)
  case atStart => exact ⟨0, none, 0, rfl, rfl, Nat.zero_le _, Lib.hid (CmpO.nil _ _), Below.refl _ _⟩
  case round =>
    obtain ⟨k, A, cp, rfl, rfl, hk, hrow, hb⟩ := hrel
    obtain ⟨wo, rfl⟩ : ∃ wo : World, wo = wr := ⟨_, rfl⟩
    by_cases hlt : k < n
    · have hkl : k < L.length := by rw [hnl.out]; exact hlt
      obtain ⟨b, off, c, hAv, hbl, hlc⟩ := hv.out.form (by omega)
      have hA : A0 = some ⟨b, off, none⟩ := by injection hAv
      subst hA
      obtain ⟨sa, sn, sc, c0', c1, c2, hlv⟩ := cmp_at hlc hkl
      obtain ⟨cv, hcv⟩ : ∃ c, L[k]'hkl = c := ⟨_, rfl⟩
      have LC := Lib.hid (hL.out _ (List.getElem_mem hkl))
      rw [hcv] at c0' c2 hlv LC
      have HTK : Hid (L.take (k + 1) = L.take k ++ [cv]) := Lib.hid (by rw [List.take_succ_eq_append_getElem hkl, hcv])
      obtain ⟨o, ho⟩ : ∃ o, cv.own = o := ⟨_, rfl⟩
      have HO := Lib.hid ho
      rw [ho] at c2
      obtain ⟨X0, hX0⟩ : ∃ X : ByteArray, ⟨cv.nm.toArray⟩ = X := ⟨_, rfl⟩
      rw [hX0] at c0'
      have H0 := Lib.hid hX0.symm
      have d0 := (hb.cell (p := ⟨b, off + k * 3, none⟩) hbl).trans c0'
      have d1 := (hb.cell (p := ⟨b, off + k * 3 + 1, none⟩) hbl).trans c1
      have d2 := (hb.cell (p := ⟨b, off + k * 3 + 2, none⟩) hbl).trans c2
      have HLV := Lib.hid hlv
      have hsn : cv.ls.length = sn := by obtain ⟨_, _, e⟩ := hlv.slice; injection e with _ e _; exact e.symm
      have HSN := Lib.hid hsn
      have xsn : sn ≤ 20 := by rw [← hsn]; exact LC.out.2.1
      have hbo : b < wo.drew.heap.size := Nat.lt_of_lt_of_le hbl hb.size
      have HROW0 := hrow
      have HB := Lib.hid hb
      have C1 := Lib.hid c1
      clear hAv hlc c0' c1 c2 hlv hX0 hcv ho hsn hrow hb d1
      go_wp2_with fail
      have SZ : Hid (wo.drew.cell? ⟨b, off + k * 3, none⟩ = some (.string X0) ∧ wo.drew.cell? ⟨b, off + k * 3 + 2, none⟩ = some (.int .i64 o)) := Lib.hid ⟨d0, d2⟩
      go_upto_region 5 with fail
      refine Hr.Walk.region (R := fun up x => up.getD 12 false = false → x.cell? ⟨b, off + k * 3, none⟩ = some (.string X0) ∧ x.cell? ⟨b, off + k * 3 + 2, none⟩ = some (.int .i64 o)) (by kernel_rfl) ?_
      refine Hr.Walk.take (i := 0) (v := ?v0) (fun x => x.cell? ⟨b, off + k * 3, none⟩ = some (.string X0) ∧ x.cell? ⟨b, off + k * 3 + 2, none⟩ = some (.int .i64 o)) (fun up => up.getD 12 false = false) rfl (by kernel_rfl) (by kernel_rfl) (by kernel_rfl) (fun _ _ _ h => h) (Hr.keepI (s := 12) rfl (by kernel_rfl)) (fun _ _ hu hr => hr hu) (fun up y => Hr.keepR (s := 12) (i := 0) (S := fun x => x.cell? ⟨b, off + k * 3, none⟩ = some (.string X0) ∧ x.cell? ⟨b, off + k * 3 + 2, none⟩ = some (.int .i64 o)) (by decide) up y) rfl (Or.inl ⟨by rfl, ?hy0⟩) SZ.out (fun _ => SZ.out) ?rest0
      case hy0 => intro x hx; have f0 := hx.1; have f2 := hx.2; clear hx; go_simp; try with_reducible rfl
      refine Hr.Walk.take (i := 1) (v := ?v1) (fun x => x.cell? ⟨b, off + k * 3, none⟩ = some (.string X0) ∧ x.cell? ⟨b, off + k * 3 + 2, none⟩ = some (.int .i64 o)) (fun up => up.getD 12 false = false) rfl (by kernel_rfl) (by kernel_rfl) (by kernel_rfl) (fun _ _ _ h => h) (Hr.keepI (s := 12) rfl (by kernel_rfl)) (fun _ _ hu hr => hr hu) (fun up y => Hr.keepR (s := 12) (i := 1) (S := fun x => x.cell? ⟨b, off + k * 3, none⟩ = some (.string X0) ∧ x.cell? ⟨b, off + k * 3 + 2, none⟩ = some (.int .i64 o)) (by decide) up y) rfl (Or.inl ⟨by rfl, ?hy1⟩) SZ.out (fun _ => SZ.out) ?rest1
      case hy1 => intro x hx; have f0 := hx.1; have f2 := hx.2; clear hx; go_simp; try with_reducible rfl
      refine Hr.Walk.take (i := 2) (v := ?v2) (fun x => x.cell? ⟨b, off + k * 3, none⟩ = some (.string X0) ∧ x.cell? ⟨b, off + k * 3 + 2, none⟩ = some (.int .i64 o)) (fun up => up.getD 12 false = false) rfl (by kernel_rfl) (by kernel_rfl) (by kernel_rfl) (fun _ _ _ h => h) (Hr.keepI (s := 12) rfl (by kernel_rfl)) (fun _ _ hu hr => hr hu) (fun up y => Hr.keepR (s := 12) (i := 2) (S := fun x => x.cell? ⟨b, off + k * 3, none⟩ = some (.string X0) ∧ x.cell? ⟨b, off + k * 3 + 2, none⟩ = some (.int .i64 o)) (by decide) up y) rfl (Or.inl ⟨by rfl, ?hy2⟩) SZ.out (fun _ => SZ.out) ?rest2
      case hy2 => intro x hx; have f0 := hx.1; have f2 := hx.2; clear hx; go_simp; try with_reducible rfl
      refine Hr.Walk.take (i := 3) (v := ?v3) (fun x => x.cell? ⟨b, off + k * 3, none⟩ = some (.string X0) ∧ x.cell? ⟨b, off + k * 3 + 2, none⟩ = some (.int .i64 o)) (fun up => up.getD 12 false = false) rfl (by kernel_rfl) (by kernel_rfl) (by kernel_rfl) (fun _ _ _ h => h) (Hr.keepI (s := 12) rfl (by kernel_rfl)) (fun _ _ hu hr => hr hu) (fun up y => Hr.keepR (s := 12) (i := 3) (S := fun x => x.cell? ⟨b, off + k * 3, none⟩ = some (.string X0) ∧ x.cell? ⟨b, off + k * 3 + 2, none⟩ = some (.int .i64 o)) (by decide) up y) rfl (Or.inl ⟨by rfl, ?hy3⟩) SZ.out (fun _ => SZ.out) ?rest3
      case hy3 => intro x hx; have f0 := hx.1; have f2 := hx.2; clear hx; go_simp; try with_reducible rfl
      refine Hr.Walk.take (i := 4) (v := ?v4) (fun x => x.cell? ⟨b, off + k * 3, none⟩ = some (.string X0) ∧ x.cell? ⟨b, off + k * 3 + 2, none⟩ = some (.int .i64 o)) (fun up => up.getD 12 false = false) rfl (by kernel_rfl) (by kernel_rfl) (by kernel_rfl) (fun _ _ _ h => h) (Hr.keepI (s := 12) rfl (by kernel_rfl)) (fun _ _ hu hr => hr hu) (fun up y => Hr.keepR (s := 12) (i := 4) (S := fun x => x.cell? ⟨b, off + k * 3, none⟩ = some (.string X0) ∧ x.cell? ⟨b, off + k * 3 + 2, none⟩ = some (.int .i64 o)) (by decide) up y) rfl (Or.inl ⟨by rfl, ?hy4⟩) SZ.out (fun _ => SZ.out) ?rest4
      case hy4 => intro x hx; have f0 := hx.1; have f2 := hx.2; clear hx; go_simp; try with_reducible rfl
      refine Hr.Walk.take (i := 5) (v := ?v5) (fun x => x.cell? ⟨b, off + k * 3, none⟩ = some (.string X0) ∧ x.cell? ⟨b, off + k * 3 + 2, none⟩ = some (.int .i64 o)) (fun up => up.getD 12 false = false) rfl (by kernel_rfl) (by kernel_rfl) (by kernel_rfl) (fun _ _ _ h => h) (Hr.keepI (s := 12) rfl (by kernel_rfl)) (fun _ _ hu hr => hr hu) (fun up y => Hr.keepR (s := 12) (i := 5) (S := fun x => x.cell? ⟨b, off + k * 3, none⟩ = some (.string X0) ∧ x.cell? ⟨b, off + k * 3 + 2, none⟩ = some (.int .i64 o)) (by decide) up y) rfl (Or.inl ⟨by rfl, ?hy5⟩) SZ.out (fun _ => SZ.out) ?rest5
      case hy5 => intro x hx; have f0 := hx.1; have f2 := hx.2; clear hx; go_simp; try with_reducible rfl
      refine Hr.Walk.take (i := 6) (v := ?v6) (fun x => x.cell? ⟨b, off + k * 3, none⟩ = some (.string X0) ∧ x.cell? ⟨b, off + k * 3 + 2, none⟩ = some (.int .i64 o)) (fun up => up.getD 12 false = false) rfl (by kernel_rfl) (by kernel_rfl) (by kernel_rfl) (fun _ _ _ h => h) (Hr.keepI (s := 12) rfl (by kernel_rfl)) (fun _ _ hu hr => hr hu) (fun up y => Hr.keepR (s := 12) (i := 6) (S := fun x => x.cell? ⟨b, off + k * 3, none⟩ = some (.string X0) ∧ x.cell? ⟨b, off + k * 3 + 2, none⟩ = some (.int .i64 o)) (by decide) up y) rfl (Or.inl ⟨by rfl, ?hy6⟩) SZ.out (fun _ => SZ.out) ?rest6
      case hy6 => intro x hx; have f0 := hx.1; have f2 := hx.2; clear hx; go_simp; try with_reducible rfl
      refine Hr.Walk.take (i := 7) (v := ?v7) (fun x => x.cell? ⟨b, off + k * 3, none⟩ = some (.string X0) ∧ x.cell? ⟨b, off + k * 3 + 2, none⟩ = some (.int .i64 o)) (fun up => up.getD 12 false = false) rfl (by kernel_rfl) (by kernel_rfl) (by kernel_rfl) (fun _ _ _ h => h) (Hr.keepI (s := 12) rfl (by kernel_rfl)) (fun _ _ hu hr => hr hu) (fun up y => Hr.keepR (s := 12) (i := 7) (S := fun x => x.cell? ⟨b, off + k * 3, none⟩ = some (.string X0) ∧ x.cell? ⟨b, off + k * 3 + 2, none⟩ = some (.int .i64 o)) (by decide) up y) rfl (Or.inl ⟨by rfl, ?hy7⟩) SZ.out (fun _ => SZ.out) ?rest7
      case hy7 => intro x hx; have f0 := hx.1; have f2 := hx.2; clear hx; go_simp; try with_reducible rfl
      refine Hr.Walk.take (i := 8) (v := ?v8) (fun x => x.cell? ⟨b, off + k * 3, none⟩ = some (.string X0) ∧ x.cell? ⟨b, off + k * 3 + 2, none⟩ = some (.int .i64 o)) (fun up => up.getD 12 false = false) rfl (by kernel_rfl) (by kernel_rfl) (by kernel_rfl) (fun _ _ _ h => h) (Hr.keepI (s := 12) rfl (by kernel_rfl)) (fun _ _ hu hr => hr hu) (fun up y => Hr.keepR (s := 12) (i := 8) (S := fun x => x.cell? ⟨b, off + k * 3, none⟩ = some (.string X0) ∧ x.cell? ⟨b, off + k * 3 + 2, none⟩ = some (.int .i64 o)) (by decide) up y) rfl (Or.inl ⟨by rfl, ?hy8⟩) SZ.out (fun _ => SZ.out) ?rest8
      case hy8 => intro x hx; have f0 := hx.1; have f2 := hx.2; clear hx; go_simp; try with_reducible rfl
      refine Hr.Walk.take (i := 9) (v := ?v9) (fun x => x.cell? ⟨b, off + k * 3, none⟩ = some (.string X0) ∧ x.cell? ⟨b, off + k * 3 + 2, none⟩ = some (.int .i64 o)) (fun up => up.getD 12 false = false) rfl (by kernel_rfl) (by kernel_rfl) (by kernel_rfl) (fun _ _ _ h => h) (Hr.keepI (s := 12) rfl (by kernel_rfl)) (fun _ _ hu hr => hr hu) (fun up y => Hr.keepR (s := 12) (i := 9) (S := fun x => x.cell? ⟨b, off + k * 3, none⟩ = some (.string X0) ∧ x.cell? ⟨b, off + k * 3 + 2, none⟩ = some (.int .i64 o)) (by decide) up y) rfl (Or.inl ⟨by rfl, ?hy9⟩) SZ.out (fun _ => SZ.out) ?rest9
      case hy9 => intro x hx; have f0 := hx.1; have f2 := hx.2; clear hx; go_simp; try with_reducible rfl
      refine Hr.Walk.take (i := 10) (v := ?v10) (fun x => x.cell? ⟨b, off + k * 3, none⟩ = some (.string X0) ∧ x.cell? ⟨b, off + k * 3 + 2, none⟩ = some (.int .i64 o)) (fun up => up.getD 12 false = false) rfl (by kernel_rfl) (by kernel_rfl) (by kernel_rfl) (fun _ _ _ h => h) (Hr.keepI (s := 12) rfl (by kernel_rfl)) (fun _ _ hu hr => hr hu) (fun up y => Hr.keepR (s := 12) (i := 10) (S := fun x => x.cell? ⟨b, off + k * 3, none⟩ = some (.string X0) ∧ x.cell? ⟨b, off + k * 3 + 2, none⟩ = some (.int .i64 o)) (by decide) up y) rfl (Or.inl ⟨by rfl, ?hy10⟩) SZ.out (fun _ => SZ.out) ?rest10
      case hy10 => intro x hx; have f0 := hx.1; have f2 := hx.2; clear hx; go_simp; try with_reducible rfl
      refine Hr.Walk.one (i := 11) (by kernel_rfl) rfl (fun K hK => ?_)
      go_simp
      have SA : Hid ((wo.drew.alloc (Obj.cells #[.string ⟨#[]⟩, .slice none 0 0, .int .i64 0] 63)).cell? ⟨b, off + k * 3, none⟩ = some (.string X0) ∧ (wo.drew.alloc (Obj.cells #[.string ⟨#[]⟩, .slice none 0 0, .int .i64 0] 63)).cell? ⟨b, off + k * 3 + 2, none⟩ = some (.int .i64 o)) := Lib.hid ⟨((Below.refl wo.drew.heap.size wo.drew).alloc (Nat.le_refl _) _).cell (p := ⟨b, off + k * 3, none⟩) hbo |>.trans SZ.out.1, ((Below.refl wo.drew.heap.size wo.drew).alloc (Nat.le_refl _) _).cell (p := ⟨b, off + k * 3 + 2, none⟩) hbo |>.trans SZ.out.2⟩
      refine hK.out _ _ (fun _ => SA.out) ?_
      clear hK K
      refine Hr.Walk.one (i := 12) (by kernel_rfl) rfl (fun K hK => ?_)
      go_simp
      refine hK.out _ _ (fun h => by cases h) ?_
      clear hK K
      refine Hr.Walk.done (by kernel_rfl) ?_ _
      have C0 := Lib.hid (Cs.new wo.drew [.string X0, .slice none 0 0, .int .i64 o] 63)
      have hbn : Below wo.heap.size wo (wo.drew.alloc (Obj.cells #[.string X0, .slice none 0 0, .int .i64 o] 63)) := (Below.refl wo.heap.size wo).drew.alloc (Nat.le_refl _) _
      have BN := Lib.hid hbn
      clear hbn d0 d2 SZ SA
      go_wp2_with fail
      go_loopw [6] (fun jv wr => ∃ (j : Nat) (la : Option Addr) (lcp : Nat), jv = .int .i64 j ∧ j ≤ sn ∧ Hid (Cs wo.heap.size wr [.string X0, .slice la j lcp, .int .i64 o]) ∧ Hid (LinO (wo.heap.size + 1) wr (.slice la j lcp) (cv.ls.take j)) ∧ Hid (Below wo.heap.size wo wr)) (fun jv _ => sn - (intOf jv).toNat)
      case atStart => exact ⟨0, none, 0, rfl, Nat.zero_le _, C0, Lib.hid (LinO.nil _ _), BN⟩
      case round =>
        obtain ⟨j, la, lcp, rfl, hj, HCS, HLO, hBo⟩ := hrel
        clear C0 BN
        have hbw : Below w.heap.size w wr := bstep HB.out hBo.out
        have s1 := (hbw.cell (p := ⟨b, off + k * 3 + 1, none⟩) hbl).trans C1.out
        have gqc : wo.heap.size < wr.heap.size := HCS.out.1
        have y0 := (HCS.out.2 0 _ rfl).1
        have y1 := (HCS.out.2 1 _ rfl).1
        have y2 := (HCS.out.2 2 _ rfl).1
        by_cases hjn : j < sn
        · have hjl : j < cv.ls.length := by rw [HSN.out]; exact hjn
          obtain ⟨lb, lo, lc, hAv2, hlb, hlc⟩ := HLV.out.form (by omega)
          have hA2 : sa = some ⟨lb, lo, none⟩ := by injection hAv2
          subst hA2
          obtain ⟨sv, e0, e1, e2, hpv⟩ := hlc j hjl
          obtain ⟨pa, pn, pc, hsv⟩ : ∃ a n c, sv = .slice a n c := by obtain ⟨a, n, c, h, _⟩ := hpv; exact ⟨a, n, c, h⟩
          subst hsv
          have LT := Lib.hid (LC.out.2.2 _ (List.getElem_mem hjl))
          obtain ⟨l, hl⟩ : ∃ l, cv.ls[j]'hjl = l := ⟨_, rfl⟩
          have HTJ : Hid (cv.ls.take (j + 1) = cv.ls.take j ++ [l]) := Lib.hid (by rw [List.take_succ_eq_append_getElem hjl, hl])
          have HLJ : Hid ((cv.ls.take j).length = j) := Lib.hid (by rw [List.length_take]; omega)
          rw [hl] at e0 e2 hpv LT
          obtain ⟨Y0, hY0⟩ : ∃ X : ByteArray, ⟨l.nm.toArray⟩ = X := ⟨_, rfl⟩
          obtain ⟨Y2, hY2⟩ : ∃ X : ByteArray, ⟨l.vl.toArray⟩ = X := ⟨_, rfl⟩
          rw [hY0] at e0
          rw [hY2] at e2
          have W0 := Lib.hid hY0.symm
          have W2 := Lib.hid hY2.symm
          have HX0 : Hid (Value.string Y0 = .string ⟨l.nm.toArray⟩) := Lib.hid (by rw [hY0])
          have HX2 : Hid (Value.string Y2 = .string ⟨l.vl.toArray⟩) := Lib.hid (by rw [hY2])
          have S0 : Hid (wr.cell? ⟨wo.heap.size, 1, none⟩ = some (.slice la j lcp) ∧ wr.cell? ⟨b, off + k * 3 + 1, none⟩ = some (.slice (some ⟨lb, lo, none⟩) sn sc) ∧ wr.cell? ⟨lb, lo + j * 3, none⟩ = some (.string Y0) ∧ wr.cell? ⟨lb, lo + j * 3 + 1, none⟩ = some (.slice pa pn pc) ∧ wr.cell? ⟨lb, lo + j * 3 + 2, none⟩ = some (.string Y2)) := Lib.hid ⟨y1, s1, (hbw.cell (p := ⟨lb, lo + j * 3, none⟩) hlb).trans e0, (hbw.cell (p := ⟨lb, lo + j * 3 + 1, none⟩) hlb).trans e1, (hbw.cell (p := ⟨lb, lo + j * 3 + 2, none⟩) hlb).trans e2⟩
          have HP := Lib.hid ((hpv.below hbw).below (Below.refl wr.heap.size wr).drew)
          have hqc9 : wo.heap.size < wr.drew.heap.size := gqc
          have hb8 : b < wo.heap.size + 1 := Nat.lt_of_lt_of_le (Nat.lt_of_lt_of_le hbl HB.out.size) (Nat.le_succ _)
          have hlb8 : lb < wo.heap.size + 1 := Nat.lt_of_lt_of_le (Nat.lt_of_lt_of_le hlb HB.out.size) (Nat.le_succ _)
          have hb9 : b < wr.drew.heap.size := Nat.lt_of_lt_of_le hbl hbw.size
          have hlb9 : lb < wr.drew.heap.size := Nat.lt_of_lt_of_le hlb hbw.size
          clear e0 e1 e2 hpv hl hY0 hY2 hlc hAv2 hbw y0 y1 y2
          go_wp2_with fail
          have SZ : Hid (wr.drew.cell? ⟨wo.heap.size, 1, none⟩ = some (.slice la j lcp) ∧ wr.drew.cell? ⟨b, off + k * 3 + 1, none⟩ = some (.slice (some ⟨lb, lo, none⟩) sn sc) ∧ wr.drew.cell? ⟨lb, lo + j * 3, none⟩ = some (.string Y0) ∧ wr.drew.cell? ⟨lb, lo + j * 3 + 1, none⟩ = some (.slice pa pn pc) ∧ wr.drew.cell? ⟨lb, lo + j * 3 + 2, none⟩ = some (.string Y2)) := Lib.hid S0.out
          go_upto_region 9 with fail
          refine Hr.Walk.region (R := fun up x => up.getD 14 false = false → x.cell? ⟨wo.heap.size, 1, none⟩ = some (.slice la j lcp) ∧ x.cell? ⟨b, off + k * 3 + 1, none⟩ = some (.slice (some ⟨lb, lo, none⟩) sn sc) ∧ x.cell? ⟨lb, lo + j * 3, none⟩ = some (.string Y0) ∧ x.cell? ⟨lb, lo + j * 3 + 1, none⟩ = some (.slice pa pn pc) ∧ x.cell? ⟨lb, lo + j * 3 + 2, none⟩ = some (.string Y2)) (by kernel_rfl) ?_
          refine Hr.Walk.take (i := 0) (v := ?vc0) (fun x => x.cell? ⟨wo.heap.size, 1, none⟩ = some (.slice la j lcp) ∧ x.cell? ⟨b, off + k * 3 + 1, none⟩ = some (.slice (some ⟨lb, lo, none⟩) sn sc) ∧ x.cell? ⟨lb, lo + j * 3, none⟩ = some (.string Y0) ∧ x.cell? ⟨lb, lo + j * 3 + 1, none⟩ = some (.slice pa pn pc) ∧ x.cell? ⟨lb, lo + j * 3 + 2, none⟩ = some (.string Y2)) (fun up => up.getD 14 false = false) rfl (by kernel_rfl) (by kernel_rfl) (by kernel_rfl) (fun _ _ _ h => h) (Hr.keepI (s := 14) rfl (by kernel_rfl)) (fun _ _ hu hr => hr hu) (fun up y => Hr.keepR (s := 14) (i := 0) (S := fun x => x.cell? ⟨wo.heap.size, 1, none⟩ = some (.slice la j lcp) ∧ x.cell? ⟨b, off + k * 3 + 1, none⟩ = some (.slice (some ⟨lb, lo, none⟩) sn sc) ∧ x.cell? ⟨lb, lo + j * 3, none⟩ = some (.string Y0) ∧ x.cell? ⟨lb, lo + j * 3 + 1, none⟩ = some (.slice pa pn pc) ∧ x.cell? ⟨lb, lo + j * 3 + 2, none⟩ = some (.string Y2)) (by decide) up y) rfl (Or.inl ⟨by rfl, ?hyc0⟩) SZ.out (fun _ => SZ.out) ?restc0
          case hyc0 => intro x hx; have f0 := hx.1; have f1 := hx.2.1; have f2 := hx.2.2.1; have f3 := hx.2.2.2.1; have f4 := hx.2.2.2.2; clear hx; go_simp; try with_reducible rfl
          refine Hr.Walk.take (i := 1) (v := ?vc1) (fun x => x.cell? ⟨wo.heap.size, 1, none⟩ = some (.slice la j lcp) ∧ x.cell? ⟨b, off + k * 3 + 1, none⟩ = some (.slice (some ⟨lb, lo, none⟩) sn sc) ∧ x.cell? ⟨lb, lo + j * 3, none⟩ = some (.string Y0) ∧ x.cell? ⟨lb, lo + j * 3 + 1, none⟩ = some (.slice pa pn pc) ∧ x.cell? ⟨lb, lo + j * 3 + 2, none⟩ = some (.string Y2)) (fun up => up.getD 14 false = false) rfl (by kernel_rfl) (by kernel_rfl) (by kernel_rfl) (fun _ _ _ h => h) (Hr.keepI (s := 14) rfl (by kernel_rfl)) (fun _ _ hu hr => hr hu) (fun up y => Hr.keepR (s := 14) (i := 1) (S := fun x => x.cell? ⟨wo.heap.size, 1, none⟩ = some (.slice la j lcp) ∧ x.cell? ⟨b, off + k * 3 + 1, none⟩ = some (.slice (some ⟨lb, lo, none⟩) sn sc) ∧ x.cell? ⟨lb, lo + j * 3, none⟩ = some (.string Y0) ∧ x.cell? ⟨lb, lo + j * 3 + 1, none⟩ = some (.slice pa pn pc) ∧ x.cell? ⟨lb, lo + j * 3 + 2, none⟩ = some (.string Y2)) (by decide) up y) rfl (Or.inl ⟨by rfl, ?hyc1⟩) SZ.out (fun _ => SZ.out) ?restc1
          case hyc1 => intro x hx; have f0 := hx.1; have f1 := hx.2.1; have f2 := hx.2.2.1; have f3 := hx.2.2.2.1; have f4 := hx.2.2.2.2; clear hx; go_simp; try with_reducible rfl
          refine Hr.Walk.take (i := 2) (v := ?vc2) (fun x => x.cell? ⟨wo.heap.size, 1, none⟩ = some (.slice la j lcp) ∧ x.cell? ⟨b, off + k * 3 + 1, none⟩ = some (.slice (some ⟨lb, lo, none⟩) sn sc) ∧ x.cell? ⟨lb, lo + j * 3, none⟩ = some (.string Y0) ∧ x.cell? ⟨lb, lo + j * 3 + 1, none⟩ = some (.slice pa pn pc) ∧ x.cell? ⟨lb, lo + j * 3 + 2, none⟩ = some (.string Y2)) (fun up => up.getD 14 false = false) rfl (by kernel_rfl) (by kernel_rfl) (by kernel_rfl) (fun _ _ _ h => h) (Hr.keepI (s := 14) rfl (by kernel_rfl)) (fun _ _ hu hr => hr hu) (fun up y => Hr.keepR (s := 14) (i := 2) (S := fun x => x.cell? ⟨wo.heap.size, 1, none⟩ = some (.slice la j lcp) ∧ x.cell? ⟨b, off + k * 3 + 1, none⟩ = some (.slice (some ⟨lb, lo, none⟩) sn sc) ∧ x.cell? ⟨lb, lo + j * 3, none⟩ = some (.string Y0) ∧ x.cell? ⟨lb, lo + j * 3 + 1, none⟩ = some (.slice pa pn pc) ∧ x.cell? ⟨lb, lo + j * 3 + 2, none⟩ = some (.string Y2)) (by decide) up y) rfl (Or.inl ⟨by rfl, ?hyc2⟩) SZ.out (fun _ => SZ.out) ?restc2
          case hyc2 => intro x hx; have f0 := hx.1; have f1 := hx.2.1; have f2 := hx.2.2.1; have f3 := hx.2.2.2.1; have f4 := hx.2.2.2.2; clear hx; go_simp; try with_reducible rfl
          refine Hr.Walk.take (i := 3) (v := ?vc3) (fun x => x.cell? ⟨wo.heap.size, 1, none⟩ = some (.slice la j lcp) ∧ x.cell? ⟨b, off + k * 3 + 1, none⟩ = some (.slice (some ⟨lb, lo, none⟩) sn sc) ∧ x.cell? ⟨lb, lo + j * 3, none⟩ = some (.string Y0) ∧ x.cell? ⟨lb, lo + j * 3 + 1, none⟩ = some (.slice pa pn pc) ∧ x.cell? ⟨lb, lo + j * 3 + 2, none⟩ = some (.string Y2)) (fun up => up.getD 14 false = false) rfl (by kernel_rfl) (by kernel_rfl) (by kernel_rfl) (fun _ _ _ h => h) (Hr.keepI (s := 14) rfl (by kernel_rfl)) (fun _ _ hu hr => hr hu) (fun up y => Hr.keepR (s := 14) (i := 3) (S := fun x => x.cell? ⟨wo.heap.size, 1, none⟩ = some (.slice la j lcp) ∧ x.cell? ⟨b, off + k * 3 + 1, none⟩ = some (.slice (some ⟨lb, lo, none⟩) sn sc) ∧ x.cell? ⟨lb, lo + j * 3, none⟩ = some (.string Y0) ∧ x.cell? ⟨lb, lo + j * 3 + 1, none⟩ = some (.slice pa pn pc) ∧ x.cell? ⟨lb, lo + j * 3 + 2, none⟩ = some (.string Y2)) (by decide) up y) rfl (Or.inl ⟨by rfl, ?hyc3⟩) SZ.out (fun _ => SZ.out) ?restc3
          case hyc3 => intro x hx; have f0 := hx.1; have f1 := hx.2.1; have f2 := hx.2.2.1; have f3 := hx.2.2.2.1; have f4 := hx.2.2.2.2; clear hx; go_simp; try with_reducible rfl
          refine Hr.Walk.take (i := 4) (v := ?vc4) (fun x => x.cell? ⟨wo.heap.size, 1, none⟩ = some (.slice la j lcp) ∧ x.cell? ⟨b, off + k * 3 + 1, none⟩ = some (.slice (some ⟨lb, lo, none⟩) sn sc) ∧ x.cell? ⟨lb, lo + j * 3, none⟩ = some (.string Y0) ∧ x.cell? ⟨lb, lo + j * 3 + 1, none⟩ = some (.slice pa pn pc) ∧ x.cell? ⟨lb, lo + j * 3 + 2, none⟩ = some (.string Y2)) (fun up => up.getD 14 false = false) rfl (by kernel_rfl) (by kernel_rfl) (by kernel_rfl) (fun _ _ _ h => h) (Hr.keepI (s := 14) rfl (by kernel_rfl)) (fun _ _ hu hr => hr hu) (fun up y => Hr.keepR (s := 14) (i := 4) (S := fun x => x.cell? ⟨wo.heap.size, 1, none⟩ = some (.slice la j lcp) ∧ x.cell? ⟨b, off + k * 3 + 1, none⟩ = some (.slice (some ⟨lb, lo, none⟩) sn sc) ∧ x.cell? ⟨lb, lo + j * 3, none⟩ = some (.string Y0) ∧ x.cell? ⟨lb, lo + j * 3 + 1, none⟩ = some (.slice pa pn pc) ∧ x.cell? ⟨lb, lo + j * 3 + 2, none⟩ = some (.string Y2)) (by decide) up y) rfl (Or.inl ⟨by rfl, ?hyc4⟩) SZ.out (fun _ => SZ.out) ?restc4
          case hyc4 => intro x hx; have f0 := hx.1; have f1 := hx.2.1; have f2 := hx.2.2.1; have f3 := hx.2.2.2.1; have f4 := hx.2.2.2.2; clear hx; go_simp; try with_reducible rfl
          refine Hr.Walk.take (i := 5) (v := ?vc5) (fun x => x.cell? ⟨wo.heap.size, 1, none⟩ = some (.slice la j lcp) ∧ x.cell? ⟨b, off + k * 3 + 1, none⟩ = some (.slice (some ⟨lb, lo, none⟩) sn sc) ∧ x.cell? ⟨lb, lo + j * 3, none⟩ = some (.string Y0) ∧ x.cell? ⟨lb, lo + j * 3 + 1, none⟩ = some (.slice pa pn pc) ∧ x.cell? ⟨lb, lo + j * 3 + 2, none⟩ = some (.string Y2)) (fun up => up.getD 14 false = false) rfl (by kernel_rfl) (by kernel_rfl) (by kernel_rfl) (fun _ _ _ h => h) (Hr.keepI (s := 14) rfl (by kernel_rfl)) (fun _ _ hu hr => hr hu) (fun up y => Hr.keepR (s := 14) (i := 5) (S := fun x => x.cell? ⟨wo.heap.size, 1, none⟩ = some (.slice la j lcp) ∧ x.cell? ⟨b, off + k * 3 + 1, none⟩ = some (.slice (some ⟨lb, lo, none⟩) sn sc) ∧ x.cell? ⟨lb, lo + j * 3, none⟩ = some (.string Y0) ∧ x.cell? ⟨lb, lo + j * 3 + 1, none⟩ = some (.slice pa pn pc) ∧ x.cell? ⟨lb, lo + j * 3 + 2, none⟩ = some (.string Y2)) (by decide) up y) rfl (Or.inl ⟨by rfl, ?hyc5⟩) SZ.out (fun _ => SZ.out) ?restc5
          case hyc5 => intro x hx; have f0 := hx.1; have f1 := hx.2.1; have f2 := hx.2.2.1; have f3 := hx.2.2.2.1; have f4 := hx.2.2.2.2; clear hx; go_simp; try with_reducible rfl
          refine Hr.Walk.take (i := 6) (v := ?vc6) (fun x => x.cell? ⟨wo.heap.size, 1, none⟩ = some (.slice la j lcp) ∧ x.cell? ⟨b, off + k * 3 + 1, none⟩ = some (.slice (some ⟨lb, lo, none⟩) sn sc) ∧ x.cell? ⟨lb, lo + j * 3, none⟩ = some (.string Y0) ∧ x.cell? ⟨lb, lo + j * 3 + 1, none⟩ = some (.slice pa pn pc) ∧ x.cell? ⟨lb, lo + j * 3 + 2, none⟩ = some (.string Y2)) (fun up => up.getD 14 false = false) rfl (by kernel_rfl) (by kernel_rfl) (by kernel_rfl) (fun _ _ _ h => h) (Hr.keepI (s := 14) rfl (by kernel_rfl)) (fun _ _ hu hr => hr hu) (fun up y => Hr.keepR (s := 14) (i := 6) (S := fun x => x.cell? ⟨wo.heap.size, 1, none⟩ = some (.slice la j lcp) ∧ x.cell? ⟨b, off + k * 3 + 1, none⟩ = some (.slice (some ⟨lb, lo, none⟩) sn sc) ∧ x.cell? ⟨lb, lo + j * 3, none⟩ = some (.string Y0) ∧ x.cell? ⟨lb, lo + j * 3 + 1, none⟩ = some (.slice pa pn pc) ∧ x.cell? ⟨lb, lo + j * 3 + 2, none⟩ = some (.string Y2)) (by decide) up y) rfl (Or.inl ⟨by rfl, ?hyc6⟩) SZ.out (fun _ => SZ.out) ?restc6
          case hyc6 => intro x hx; have f0 := hx.1; have f1 := hx.2.1; have f2 := hx.2.2.1; have f3 := hx.2.2.2.1; have f4 := hx.2.2.2.2; clear hx; go_simp; try with_reducible rfl
          refine Hr.Walk.take (i := 7) (v := ?vc7) (fun x => x.cell? ⟨wo.heap.size, 1, none⟩ = some (.slice la j lcp) ∧ x.cell? ⟨b, off + k * 3 + 1, none⟩ = some (.slice (some ⟨lb, lo, none⟩) sn sc) ∧ x.cell? ⟨lb, lo + j * 3, none⟩ = some (.string Y0) ∧ x.cell? ⟨lb, lo + j * 3 + 1, none⟩ = some (.slice pa pn pc) ∧ x.cell? ⟨lb, lo + j * 3 + 2, none⟩ = some (.string Y2)) (fun up => up.getD 14 false = false) rfl (by kernel_rfl) (by kernel_rfl) (by kernel_rfl) (fun _ _ _ h => h) (Hr.keepI (s := 14) rfl (by kernel_rfl)) (fun _ _ hu hr => hr hu) (fun up y => Hr.keepR (s := 14) (i := 7) (S := fun x => x.cell? ⟨wo.heap.size, 1, none⟩ = some (.slice la j lcp) ∧ x.cell? ⟨b, off + k * 3 + 1, none⟩ = some (.slice (some ⟨lb, lo, none⟩) sn sc) ∧ x.cell? ⟨lb, lo + j * 3, none⟩ = some (.string Y0) ∧ x.cell? ⟨lb, lo + j * 3 + 1, none⟩ = some (.slice pa pn pc) ∧ x.cell? ⟨lb, lo + j * 3 + 2, none⟩ = some (.string Y2)) (by decide) up y) rfl (Or.inl ⟨by rfl, ?hyc7⟩) SZ.out (fun _ => SZ.out) ?restc7
          case hyc7 => intro x hx; have f0 := hx.1; have f1 := hx.2.1; have f2 := hx.2.2.1; have f3 := hx.2.2.2.1; have f4 := hx.2.2.2.2; clear hx; go_simp; try with_reducible rfl
          refine Hr.Walk.take (i := 8) (v := ?vc8) (fun x => x.cell? ⟨wo.heap.size, 1, none⟩ = some (.slice la j lcp) ∧ x.cell? ⟨b, off + k * 3 + 1, none⟩ = some (.slice (some ⟨lb, lo, none⟩) sn sc) ∧ x.cell? ⟨lb, lo + j * 3, none⟩ = some (.string Y0) ∧ x.cell? ⟨lb, lo + j * 3 + 1, none⟩ = some (.slice pa pn pc) ∧ x.cell? ⟨lb, lo + j * 3 + 2, none⟩ = some (.string Y2)) (fun up => up.getD 14 false = false) rfl (by kernel_rfl) (by kernel_rfl) (by kernel_rfl) (fun _ _ _ h => h) (Hr.keepI (s := 14) rfl (by kernel_rfl)) (fun _ _ hu hr => hr hu) (fun up y => Hr.keepR (s := 14) (i := 8) (S := fun x => x.cell? ⟨wo.heap.size, 1, none⟩ = some (.slice la j lcp) ∧ x.cell? ⟨b, off + k * 3 + 1, none⟩ = some (.slice (some ⟨lb, lo, none⟩) sn sc) ∧ x.cell? ⟨lb, lo + j * 3, none⟩ = some (.string Y0) ∧ x.cell? ⟨lb, lo + j * 3 + 1, none⟩ = some (.slice pa pn pc) ∧ x.cell? ⟨lb, lo + j * 3 + 2, none⟩ = some (.string Y2)) (by decide) up y) rfl (Or.inl ⟨by rfl, ?hyc8⟩) SZ.out (fun _ => SZ.out) ?restc8
          case hyc8 => intro x hx; have f0 := hx.1; have f1 := hx.2.1; have f2 := hx.2.2.1; have f3 := hx.2.2.2.1; have f4 := hx.2.2.2.2; clear hx; go_simp; try with_reducible rfl
          refine Hr.Walk.take (i := 9) (v := ?vc9) (fun x => x.cell? ⟨wo.heap.size, 1, none⟩ = some (.slice la j lcp) ∧ x.cell? ⟨b, off + k * 3 + 1, none⟩ = some (.slice (some ⟨lb, lo, none⟩) sn sc) ∧ x.cell? ⟨lb, lo + j * 3, none⟩ = some (.string Y0) ∧ x.cell? ⟨lb, lo + j * 3 + 1, none⟩ = some (.slice pa pn pc) ∧ x.cell? ⟨lb, lo + j * 3 + 2, none⟩ = some (.string Y2)) (fun up => up.getD 14 false = false) rfl (by kernel_rfl) (by kernel_rfl) (by kernel_rfl) (fun _ _ _ h => h) (Hr.keepI (s := 14) rfl (by kernel_rfl)) (fun _ _ hu hr => hr hu) (fun up y => Hr.keepR (s := 14) (i := 9) (S := fun x => x.cell? ⟨wo.heap.size, 1, none⟩ = some (.slice la j lcp) ∧ x.cell? ⟨b, off + k * 3 + 1, none⟩ = some (.slice (some ⟨lb, lo, none⟩) sn sc) ∧ x.cell? ⟨lb, lo + j * 3, none⟩ = some (.string Y0) ∧ x.cell? ⟨lb, lo + j * 3 + 1, none⟩ = some (.slice pa pn pc) ∧ x.cell? ⟨lb, lo + j * 3 + 2, none⟩ = some (.string Y2)) (by decide) up y) rfl (Or.inl ⟨by rfl, ?hyc9⟩) SZ.out (fun _ => SZ.out) ?restc9
          case hyc9 => intro x hx; have f0 := hx.1; have f1 := hx.2.1; have f2 := hx.2.2.1; have f3 := hx.2.2.2.1; have f4 := hx.2.2.2.2; clear hx; go_simp; try with_reducible rfl
          refine Hr.Walk.one (i := 10) (by kernel_rfl) rfl (fun K hK => ?_)
          go_simp
          go_wp2_with ((go_at_call 13; (with_reducible refine (twl_v Y0 Y2 l (.slice pa pn pc) _ W0.out W2.out HP.out LT.out).mono ?_); rintro e w5 ⟨pu, rfl, hu, b5⟩; obtain ⟨ua, uc, hux⟩ := hu.form; subst hux))
          have S5 : Hid (w5.cell? ⟨wo.heap.size, 1, none⟩ = some (.slice la j lcp) ∧ w5.cell? ⟨b, off + k * 3 + 1, none⟩ = some (.slice (some ⟨lb, lo, none⟩) sn sc) ∧ w5.cell? ⟨lb, lo + j * 3, none⟩ = some (.string Y0) ∧ w5.cell? ⟨lb, lo + j * 3 + 1, none⟩ = some (.slice pa pn pc) ∧ w5.cell? ⟨lb, lo + j * 3 + 2, none⟩ = some (.string Y2)) := Lib.hid ⟨(b5.cell (p := ⟨wo.heap.size, 1, none⟩) hqc9).trans SZ.out.1, (b5.cell (p := ⟨b, off + k * 3 + 1, none⟩) hb9).trans SZ.out.2.1, (b5.cell (p := ⟨lb, lo + j * 3, none⟩) hlb9).trans SZ.out.2.2.1, (b5.cell (p := ⟨lb, lo + j * 3 + 1, none⟩) hlb9).trans SZ.out.2.2.2.1, (b5.cell (p := ⟨lb, lo + j * 3 + 2, none⟩) hlb9).trans SZ.out.2.2.2.2⟩
          have HPU := Lib.hid (parLow (show wo.heap.size + 1 ≤ wr.drew.heap.size from hqc9) hu)
          have HLO5 := Lib.hid ((HLO.out.below (Below.refl _ _).drew).below b5)
          have HQ5 : Hid (wo.heap.size + 1 ≤ w5.heap.size) := Lib.hid (Nat.le_trans (show wo.heap.size + 1 ≤ wr.drew.heap.size from hqc9) b5.size)
          clear hu
          refine hK.out _ _ (fun _ => S5.out) ?_
          clear hK K
          refine Hr.Walk.one (i := 11) (by kernel_rfl) rfl (fun K hK => ?_)
          go_simp
          have S6 : Hid ((w5.alloc (Obj.cells #[.string Y0, .slice ua l.ps.length uc, .string Y2] 24)).cell? ⟨wo.heap.size, 1, none⟩ = some (.slice la j lcp) ∧ (w5.alloc (Obj.cells #[.string Y0, .slice ua l.ps.length uc, .string Y2] 24)).cell? ⟨b, off + k * 3 + 1, none⟩ = some (.slice (some ⟨lb, lo, none⟩) sn sc) ∧ (w5.alloc (Obj.cells #[.string Y0, .slice ua l.ps.length uc, .string Y2] 24)).cell? ⟨lb, lo + j * 3, none⟩ = some (.string Y0) ∧ (w5.alloc (Obj.cells #[.string Y0, .slice ua l.ps.length uc, .string Y2] 24)).cell? ⟨lb, lo + j * 3 + 1, none⟩ = some (.slice pa pn pc) ∧ (w5.alloc (Obj.cells #[.string Y0, .slice ua l.ps.length uc, .string Y2] 24)).cell? ⟨lb, lo + j * 3 + 2, none⟩ = some (.string Y2)) := Lib.hid ⟨((Below.refl w5.heap.size w5).alloc (Nat.le_refl _) _).cell (p := ⟨wo.heap.size, 1, none⟩) (Nat.lt_of_lt_of_le hqc9 b5.size) |>.trans S5.out.1, ((Below.refl w5.heap.size w5).alloc (Nat.le_refl _) _).cell (p := ⟨b, off + k * 3 + 1, none⟩) (Nat.lt_of_lt_of_le hb9 b5.size) |>.trans S5.out.2.1, ((Below.refl w5.heap.size w5).alloc (Nat.le_refl _) _).cell (p := ⟨lb, lo + j * 3, none⟩) (Nat.lt_of_lt_of_le hlb9 b5.size) |>.trans S5.out.2.2.1, ((Below.refl w5.heap.size w5).alloc (Nat.le_refl _) _).cell (p := ⟨lb, lo + j * 3 + 1, none⟩) (Nat.lt_of_lt_of_le hlb9 b5.size) |>.trans S5.out.2.2.2.1, ((Below.refl w5.heap.size w5).alloc (Nat.le_refl _) _).cell (p := ⟨lb, lo + j * 3 + 2, none⟩) (Nat.lt_of_lt_of_le hlb9 b5.size) |>.trans S5.out.2.2.2.2⟩
          refine hK.out _ _ (fun _ => S6.out) ?_
          clear hK K
          refine Hr.Walk.one (i := 12) (by kernel_rfl) rfl (fun K hK => ?_)
          refine stepLO rfl _ _ rfl (wo.heap.size + 1) _ (cv.ls.take j) rfl HLO5.out l _ _ _ HX0.out HX2.out HPU.out rfl (by rw [HLJ.out]; omega) HQ5.out ?_
          intro w6 g6 c6 r6 bb6 s6
          rw [HLJ.out] at r6 ⊢
          have b6 := bb6 (wo.heap.size + 1) _ (Nat.le_refl _) (Below.refl _ w5) HQ5.out
          have S7 : Hid (w6.cell? ⟨wo.heap.size, 1, none⟩ = some (.slice la j lcp) ∧ w6.cell? ⟨b, off + k * 3 + 1, none⟩ = some (.slice (some ⟨lb, lo, none⟩) sn sc) ∧ w6.cell? ⟨lb, lo + j * 3, none⟩ = some (.string Y0) ∧ w6.cell? ⟨lb, lo + j * 3 + 1, none⟩ = some (.slice pa pn pc) ∧ w6.cell? ⟨lb, lo + j * 3 + 2, none⟩ = some (.string Y2)) := Lib.hid ⟨(b6.cell (p := ⟨wo.heap.size, 1, none⟩) (Nat.lt_succ_self _)).trans S5.out.1, (b6.cell (p := ⟨b, off + k * 3 + 1, none⟩) hb8).trans S5.out.2.1, (b6.cell (p := ⟨lb, lo + j * 3, none⟩) hlb8).trans S5.out.2.2.1, (b6.cell (p := ⟨lb, lo + j * 3 + 1, none⟩) hlb8).trans S5.out.2.2.2.1, (b6.cell (p := ⟨lb, lo + j * 3 + 2, none⟩) hlb8).trans S5.out.2.2.2.2⟩
          have C6 := cs_lo ((HCS.out.below (Below.refl _ _).drew).below b5) b6 (Nat.lt_succ_self _) s6
          have D6 := C6.set 1 (by simp) (.slice (some ⟨g6, 0, none⟩) (j + 1) c6)
          simp only [List.set_cons_succ, List.set_cons_zero] at D6
          have DD := Lib.hid D6
          have RR : Hid (LinO (wo.heap.size + 1) (w6.setCell ⟨wo.heap.size, 1, none⟩ (.slice (some ⟨g6, 0, none⟩) (j + 1) c6)) (.slice (some ⟨g6, 0, none⟩) (j + 1) c6) (cv.ls.take (j + 1))) := Lib.hid (by rw [HTJ.out]; exact r6.set (Nat.lt_succ_self _) 1 _)
          have BBN : Hid (Below wo.heap.size wo (w6.setCell ⟨wo.heap.size, 1, none⟩ (.slice (some ⟨g6, 0, none⟩) (j + 1) c6))) := Lib.hid ((bb6 wo.heap.size wo (Nat.le_succ _) (bstep hBo.out.drew b5) (Nat.le_trans (Nat.le_succ _) HQ5.out)).setCell (p := ⟨wo.heap.size, 1, none⟩) (Nat.le_refl _) _)
          have yf := (C6.2 1 _ rfl).2
          have xf := S7.out.1
          clear C6 D6 r6 b6 bb6
          refine hK.out _ _ (fun _ => S7.out) ?_
          clear hK K
          refine Hr.Walk.one (i := 13) (by kernel_rfl) rfl (fun K hK => ?_)
          go_simp
          refine hK.out _ _ (fun _ => S7.out) ?_
          clear hK K
          refine Hr.Walk.one (i := 14) (by kernel_rfl) rfl (fun K hK => ?_)
          go_simp
          refine hK.out _ _ (fun h => by cases h) ?_
          clear hK K
          refine Hr.Walk.done (by kernel_rfl) ?_ _
          go_wp2
          go_roundw
          case rel => exact ⟨j + 1, some ⟨g6, 0, none⟩, c6, by go_num, by omega, DD, RR, BBN⟩
          case measure => simp [intOf]; omega
        · have HLL : Hid (LinO w.heap.size wr (.slice la j lcp) cv.ls) := Lib.hid (by
            have h := HLO.out
            rw [List.take_of_length_le (by rw [HSN.out]; omega)] at h
            exact h.low (by have := HB.out.size; omega))
          obtain ⟨Ck, hCk⟩ : ∃ x, L.take k = x := ⟨_, rfl⟩
          have HCK := Lib.hid hCk
          have HCO : Hid (CmpO w.heap.size wr (.slice A k cp) Ck) := Lib.hid (by rw [← hCk]; exact (HROW0.out).below hBo.out)
          have HKL : Hid (Ck.length = k) := Lib.hid (by rw [← hCk, List.length_take]; omega)
          have HXC : Hid (Value.string X0 = .string ⟨cv.nm.toArray⟩) := Lib.hid (by rw [H0.out])
          have HOC : Hid (Value.int .i64 o = .int .i64 cv.own) := Lib.hid (by rw [HO.out])
          have HBW := Lib.hid hbw
          have sB : w.heap.size ≤ wr.heap.size := hbw.size
          clear hbw hCk
          go_wp2_with (at_builtin; refine appCO rfl _ _ rfl w.heap.size _ Ck rfl HCO.out cv _ _ _ HXC.out HOC.out HLL.out rfl (by rw [HKL.out]; omega) sB ?_)
          intro w7 g7 c7 r7 gr7
          have HR7 : Hid (CmpO w.heap.size w7 (.slice (some ⟨g7, 0, none⟩) (k + 1) c7) (L.take (k + 1))) := Lib.hid (by rw [HTK.out, HCK.out]; rw [HKL.out] at r7; exact r7)
          have HB7 := Lib.hid (gr7.below w.heap.size w (Nat.le_refl _) HBW.out sB)
          rw [HKL.out]
          clear r7 gr7
          go_wp2
          go_roundw
          case rel => exact ⟨k + 1, some ⟨g7, 0, none⟩, c7, by first | rfl | go_num, by go_num, by omega, HR7, HB7.out⟩
          case measure => simp [intOf]; omega
    · have hkn : L.take k = L := List.take_of_length_le (by rw [hnl.out]; omega)
      have HF : Hid (CmpO w.heap.size wo (.slice A k cp) L) := Lib.hid (by have h := hrow.out; rw [hkn] at h; exact h)
      clear hkn
      go_wp2
      go_ret
      exact ⟨_, rfl, HF.out, hb⟩
theorem tcm_to (v : Value) (L : List CV) (w : World) (hv : CmpsV w v L) (hn : L.length ≤ 30) (hL : ∀ c ∈ L, LightC c) :
    Calls Try.prog 26 #[v] w (TcQ L w) := by
  obtain ⟨A, c, rfl⟩ := hv.slice
  exact tcm_1 A _ c L w (Lib.hid hv) (Lib.hid rfl) hn (Lib.hid hL)
end Tre
end Go.Proofs.Ytdakpncfophjnaa
