/-
  Package tree: Parse of whatever text.
-/
import Derived.Test.YtdakpncfophjnaaTrU
import Derived.Test.YtdakpncfophjnaaLinPO
import Derived.Test.YtdakpncfophjnaaBdAC
namespace Go.Proofs.Ytdakpncfophjnaa
open Go.RowKit
namespace Tre
open Lin CutB Cel Ap
open Opn (TxtV)
theorem unf_bd : ∀ (n : Nat) (S P : List UInt8), S.length ≤ n → (Fld.unfG P S).length ≤ S.length + 1 ∧ ∀ t ∈ Fld.unfG P S, t.length ≤ P.length + S.length
  | 0, S, P, h => by
    have : S = [] := List.eq_nil_of_length_eq_zero (by omega)
    subst this
    rw [Fld.unf_nil, Fld.fin]
    split
    · simp
    · simp
  | n + 1, [], P, _ => by
    rw [Fld.unf_nil, Fld.fin]
    split
    · simp
    · simp
  | n + 1, c :: T, P, h => by
    have hT : T.length ≤ n := by simpa using h
    by_cases h1 : c = 13
    · subst h1
      rw [Fld.unf_cr]
      obtain ⟨a, b⟩ := unf_bd n T P hT
      exact ⟨by simp only [List.length_cons]; omega, fun t ht => by have := b t ht; simp only [List.length_cons]; omega⟩
    · by_cases h2 : c = 10
      · subst h2
        cases hbl : Fld.blank T.head? with
        | false =>
          rw [Fld.unf_lf P T hbl]
          obtain ⟨a, b⟩ := unf_bd n T [] hT
          refine ⟨by simp only [List.length_cons]; omega, fun t ht => ?_⟩
          rcases List.mem_cons.1 ht with rfl | ht
          · omega
          · have := b t ht; simp only [List.length_cons, List.length_nil] at this ⊢; omega
        | true =>
          cases T with
          | nil => cases hbl
          | cons d T =>
            have hd : d = 32 ∨ d = 9 := by
              rw [Fld.blank, Bool.or_eq_true] at hbl
              rcases hbl with q | q
              · left; simpa using q
              · right; simpa using q
            rw [Fld.unf_fold P T hd]
            obtain ⟨a, b⟩ := unf_bd n T P (by simp only [List.length_cons] at hT; omega)
            exact ⟨by simp only [List.length_cons]; omega, fun t ht => by have := b t ht; simp only [List.length_cons]; omega⟩
      · rw [Fld.unf_any P T h1 h2]
        obtain ⟨a, b⟩ := unf_bd n T (P ++ [c]) hT
        exact ⟨by simp only [List.length_cons]; omega, fun t ht => by have := b t ht; simp only [List.length_append, List.length_cons, List.length_nil] at this ⊢; omega⟩
theorem lnX_ok {S : List UInt8} {l : LV} (h : lnX S = some l) : lnB l = true := by
  rw [lnX] at h
  split at h
  · cases h
  · split at h
    · cases h
    · cases h
    · split at h
      · rename_i hq
        injection h with h
        subst h
        exact hq.2
      · cases h
theorem lnB_nm {l : LV} (h : lnB l = true) : l.nm.length ≤ 40 := by
  rw [lnB, Bool.and_eq_true] at h
  have h1 := h.1
  rw [nmB, Bool.and_eq_true] at h1
  exact (of_decide_eq_true h1.1).2
/-- A row of lines that is being filled. -/
def MkR (B g n : Nat) (acc : List LV) (w : World) : Prop := ∃ xs, w.ownsRow B 24 3 (.slice (some ⟨g, 0, none⟩) n n) n xs ∧ ∀ (j : Nat) (hj : j < acc.length), ∃ sv, xs[j * 3]? = some (.string ⟨(acc[j]).nm.toArray⟩) ∧ xs[j * 3 + 1]? = some sv ∧ xs[j * 3 + 2]? = some (.string ⟨(acc[j]).vl.toArray⟩) ∧ ParR B w sv (acc[j]).ps
theorem parR_other {B g n m : Nat} {w : World} {u sv : Value} {ps : List PV} {ys : List Value} {i : Nat} (h : ParR B w sv ps) (hrow : w.ownsRow B 24 3 (.slice (some ⟨g, 0, none⟩) n m) n ys) : ParR B (w.setCell ⟨g, i, none⟩ u) sv ps := by
  have far : ∀ {e : TypeId} {s : Nat} {v : Value} {k : Nat} {zs : List Value}, e ≠ 24 → w.ownsRow B e s v k zs → (w.setCell ⟨g, i, none⟩ u).ownsRow B e s v k zs := fun hne hz => ownsRow_setCell_other hz (fun e => by
    rcases Rws.apart hz hrow hne with q | q
    · rw [q] at e; cases e
    · exact q e) u
  obtain ⟨xs, h1, h2⟩ := h
  refine ⟨xs, far (by decide) h1, fun j hj => ?_⟩
  obtain ⟨sv', a, b, c⟩ := h2 j hj
  exact ⟨sv', a, b, far (by decide) c⟩
theorem MkR.below {B g n : Nat} {acc : List LV} {w w' : World} (h : MkR B g n acc w) (hb : Below w.heap.size w w') : MkR B g n acc w' := by
  obtain ⟨xs, h1, h2⟩ := h
  refine ⟨xs, own_below h1 hb, fun j hj => ?_⟩
  obtain ⟨sv, a, b, c, d⟩ := h2 j hj
  exact ⟨sv, a, b, c, d.below hb⟩
theorem MkR.cells {B g n : Nat} {acc : List LV} {w : World} (h : MkR B g n acc w) : B ≤ g ∧ g < w.heap.size ∧ (∀ j, j < n * 3 → ∃ v, w.cell? ⟨g, j, none⟩ = some v) ∧ ∀ j, w.frozen? ⟨g, j, none⟩ = false := by
  obtain ⟨xs, h1, _⟩ := h
  obtain ⟨hb, hl⟩ := h1.lt g rfl
  refine ⟨hb, hl, fun j hj => ?_, fun j => h1.frozenAt j⟩
  have hx : j < xs.length := by rw [h1.1]; exact hj
  exact ⟨xs[j], by rw [h1.cellAt j hj, List.getElem?_eq_getElem hx]⟩
theorem MkR.step {B g n : Nat} {acc : List LV} {w : World} (h : MkR B g n acc w) (l : LV) (sv a b : Value) (hk : acc.length < n) (ha : a = .string ⟨l.nm.toArray⟩) (hb : b = .string ⟨l.vl.toArray⟩) (hp : ParR B w sv l.ps) :
    MkR B g n (acc ++ [l]) (((w.setCell ⟨g, acc.length * 3, none⟩ a).setCell ⟨g, acc.length * 3 + 1, none⟩ sv).setCell ⟨g, acc.length * 3 + 2, none⟩ b) := by
  subst ha hb
  obtain ⟨xs, h1, h2⟩ := h
  have hxl := h1.1
  obtain ⟨r1, _⟩ := h1.stored (acc.length * 3) (.string ⟨l.nm.toArray⟩)
  obtain ⟨r2, _⟩ := r1.stored (acc.length * 3 + 1) sv
  obtain ⟨r3, _⟩ := r2.stored (acc.length * 3 + 2) (.string ⟨l.vl.toArray⟩)
  have keep : ∀ {sv' : Value} {ps : List PV}, ParR B w sv' ps → ParR B (((w.setCell ⟨g, acc.length * 3, none⟩ (.string ⟨l.nm.toArray⟩)).setCell ⟨g, acc.length * 3 + 1, none⟩ sv).setCell ⟨g, acc.length * 3 + 2, none⟩ (.string ⟨l.vl.toArray⟩)) sv' ps := fun hq => parR_other (parR_other (parR_other hq h1) r1) r2
  refine ⟨_, r3, fun j hj => ?_⟩
  by_cases hja : j < acc.length
  · obtain ⟨sv', q1, q2, q3, q4⟩ := h2 j hja
    have e : (acc ++ [l])[j] = acc[j] := List.getElem_append_left hja
    rw [e]
    refine ⟨sv', ?_, ?_, ?_, keep q4⟩
    · rw [List.getElem?_set_ne (by omega), List.getElem?_set_ne (by omega), List.getElem?_set_ne (by omega)]; exact q1
    · rw [List.getElem?_set_ne (by omega), List.getElem?_set_ne (by omega), List.getElem?_set_ne (by omega)]; exact q2
    · rw [List.getElem?_set_ne (by omega), List.getElem?_set_ne (by omega), List.getElem?_set_ne (by omega)]; exact q3
  · obtain rfl : j = acc.length := by
      rw [List.length_append] at hj
      simp only [List.length_cons, List.length_nil] at hj
      omega
    have e : (acc ++ [l])[acc.length] = l := by simp
    rw [e]
    refine ⟨sv, ?_, ?_, ?_, keep hp⟩
    · rw [List.getElem?_set_ne (by omega), List.getElem?_set_ne (by omega), List.getElem?_set_self (by omega)]
    · rw [List.getElem?_set_ne (by omega), List.getElem?_set_self (by rw [List.length_set]; omega)]
    · rw [List.getElem?_set_self (by rw [List.length_set, List.length_set]; omega)]
theorem MkR.lins {B g n : Nat} {acc : List LV} {w : World} (h : MkR B g n acc w) (hn : acc.length = n) : LinsV w (.slice (some ⟨g, 0, none⟩) n n) acc := by
  obtain ⟨xs, h1, h2⟩ := h
  refine ⟨_, _, _, rfl, hn.symm, fun j hj => ?_⟩
  obtain ⟨sv, a, b, c, d⟩ := h2 j hj
  have k0 := h1.cellAt (j * 3) (by omega)
  have k1 := h1.cellAt (j * 3 + 1) (by omega)
  have k2 := h1.cellAt (j * 3 + 2) (by omega)
  exact ⟨g, 0, sv, rfl, (h1.lt g rfl).2, by rw [Nat.zero_add, k0, a], by rw [Nat.zero_add, k1, b], by rw [Nat.zero_add, k2, c], d.pars⟩
/-- What Parse hands back. -/
def PaQ (r : List CV × Int) (w : World) (e : Ending) (w' : World) : Prop := ∃ A n c, e = .returned (.tuple #[.slice A n c, .int .i64 r.2]) ∧ Hid (CmpsV w' (.slice A n c) r.1) ∧ Below w.heap.size w w'
theorem pq_no (w w' : World) (c : Int) (r : List CV × Int) (h : ([], c) = r) (hb : Below w.heap.size w w') : PaQ r w (.returned (.tuple #[.slice none 0 0, .int .i64 c])) w' := by
  subst h
  exact ⟨none, 0, 0, rfl, Lib.hid (CmpsV.none _), hb⟩
/-- Bounds of what lines say. -/
def lnsR (T : List (List UInt8)) : List CV × Int := match lnsG T [] with
  | none => ([], 18)
  | some xs => bdR xs
theorem pTr_eq (S : List UInt8) : pTr S = if Fld.okCR S = true then lnsR (Fld.unfS S) else ([], 18) := rfl
set_option maxHeartbeats 3200000 in
set_option maxRecDepth 100000 in
theorem pa_no (s : ByteArray) (S : List UInt8) (w : World) (hs : s.size ≤ 600000) (hS : Hid (s.data.toList = S)) (h : Hid (Fld.unfR S = ([], 18))) (h2 : Hid (pTr S = ([], 18))) :
    Calls Try.prog 28 #[.string s] w (PaQ (pTr S) w) := by
  rw [h2.out]
  go_enter Try.func28, Try.ntmps28
  go_wp2_with fail
  refine (Fld.unfold_any s S [] 18 _ hs hS h).mono ?_
  rintro e w1 ⟨v, rfl, hv, k1⟩
  obtain ⟨a, c, rfl⟩ := hv.slice
  go_wp2
  go_ret2
  exact pq_no _ _ 18 _ rfl k1
/-- What build may tell is small. -/
def okC (M : Nat) (c : CV) : Prop := c.nm.length ≤ 1000000 ∧ c.ls.length ≤ M ∧ (∀ l ∈ c.ls, smlL l) ∧ -1000000 ≤ c.own ∧ c.own ≤ 1000000
theorem bd_bd (N : Nat) (hN : N ≤ 900000) : ∀ (xs : List LV) (C : List CV) (K : List Nat) (C' : List CV) (M : Nat), bdG xs C K = some C' → (∀ x ∈ xs, smlL x) → (∀ c ∈ C, okC M c) → (∀ k ∈ K, k < C.length) → C.length + xs.length ≤ N → C'.length ≤ N ∧ ∀ c ∈ C', okC (M + xs.length) c
  | [], C, K, C', M, h, _, hC, _, hl => by
    rw [bdG] at h
    split at h
    · injection h with h
      subst h
      exact ⟨by simpa using hl, by simpa using hC⟩
    · cases h
  | x :: xs, C, K, C', M, h, hx, hC, hK, hl => by
    have hx1 := hx x (by simp)
    have hxs : ∀ y ∈ xs, smlL y := fun y hy => hx y (by simp [hy])
    have up : ∀ {c : CV}, okC M c → okC (M + 1) c := fun ⟨a, b, c, d⟩ => ⟨a, by omega, c, d⟩
    simp only [List.length_cons] at hl ⊢
    rw [bd_cons] at h
    split at h
    · cases h
    · split at h
      · split at h
        · cases h
        · have := bd_bd N hN xs _ _ C' (M + 1) h hxs (fun c hc => by
            rcases List.mem_append.1 hc with hc | hc
            · exact up (hC c hc)
            · rw [List.mem_singleton.1 hc]
              exact ⟨hx1.2.1, by simp, by simp, by simp, by simp⟩) (fun k hk => by
            rw [List.length_append]
            rcases List.mem_cons.1 hk with rfl | hk
            · simp
            · have := hK k hk; simp; omega) (by rw [List.length_append]; simp only [List.length_cons, List.length_nil]; omega)
          rw [show M + (xs.length + 1) = M + 1 + xs.length by omega]
          exact this
      · cases K with
        | nil => cases h
        | cons k K =>
          have hk := hK k (by simp)
          simp only at h
          split at h
          · split at h
            · have := bd_bd N hN xs _ _ C' (M + 1) h hxs (mod_all2 C k _ (okC M) (okC (M + 1)) hC (fun c hc => up hc) (fun c hc => ⟨hc.1, by show c.ls.length ≤ _; have := hc.2.1; omega, hc.2.2.1, by show -1000000 ≤ (C.length : Int) - 1 - k; omega, by show (C.length : Int) - 1 - k ≤ 1000000; omega⟩)) (fun q hq => by rw [List.length_modify]; exact hK q (by simp [hq])) (by rw [List.length_modify]; omega)
              rw [show M + (xs.length + 1) = M + 1 + xs.length by omega]
              exact this
            · cases h
          · have := bd_bd N hN xs _ _ C' (M + 1) h hxs (mod_all2 C k _ (okC M) (okC (M + 1)) hC (fun c hc => up hc) (fun c hc => ⟨hc.1, by show (c.ls ++ [x]).length ≤ _; have := hc.2.1; rw [List.length_append]; simp only [List.length_cons, List.length_nil]; omega, fun l hl => by
              rcases List.mem_append.1 hl with q | q
              · exact hc.2.2.1 l q
              · rw [List.mem_singleton.1 q]; exact hx1, hc.2.2.2⟩)) (fun q hq => by rw [List.length_modify]; exact hK q hq) (by rw [List.length_modify]; omega)
            rw [show M + (xs.length + 1) = M + 1 + xs.length by omega]
            exact this
theorem bd_sml {xs : List LV} {C : List CV} (h : bdG xs [] [] = some C) (hn : xs.length ≤ 900000) (hx : ∀ x ∈ xs, smlL x) : C.length ≤ 900000 ∧ (∀ c ∈ C, i64B c.own) ∧ ∀ c ∈ C, smlC c := by
  obtain ⟨h1, h2⟩ := bd_bd 900000 (Nat.le_refl _) xs [] [] C 0 h hx (by simp) (by simp) (by simpa using hn)
  refine ⟨h1, fun c hc => ?_, fun c hc => ?_⟩
  · obtain ⟨_, _, _, q1, q2⟩ := h2 c hc
    exact ⟨by omega, by omega⟩
  · obtain ⟨q0, q1, q2, _⟩ := h2 c hc
    exact ⟨q0, by omega, q2⟩
theorem lns_drop {T : List (List UInt8)} {k : Nat} (hk : k < T.length) (acc : List LV) : lnsG (T.drop k) acc = match lnX T[k] with
    | none => none
    | some l => lnsG (T.drop (k + 1)) (acc ++ [l]) := by
  rw [List.drop_eq_getElem_cons hk, lnsG]
  cases lnX T[k] <;> rfl
set_option maxHeartbeats 25600000 in
set_option maxRecDepth 100000 in
theorem pa_ok (s : ByteArray) (S : List UInt8) (T : List (List UInt8)) (n : Nat) (r : List CV × Int) (w : World) (hs : s.size ≤ 600000) (hS : Hid (s.data.toList = S)) (hU : Hid (Fld.unfR S = (T, 0))) (hn : Hid (T.length = n)) (hn6 : n ≤ 600001) (hT : Hid (∀ t ∈ T, t.length ≤ 600000)) (hr : Hid (lnsR T = r)) :
    Calls Try.prog 28 #[.string s] w (PaQ r w) := by
  obtain ⟨i0, hi0, hz0, hz1, hz2⟩ := info_parts infoL
  go_enter Try.func28, Try.ntmps28
  go_wp2_with fail
  refine (Fld.unfold_any s S T 0 _ hs hS hU).mono ?_
  rintro e w1 ⟨v, rfl, hv, k1⟩
  obtain ⟨A, c, hvx⟩ := hv.slice
  subst hvx
  rw [hn.out] at hv ⊢
  have HV := Lib.hid hv
  have K1 := Lib.hid k1
  obtain ⟨w2, hmk, hown, hgr⟩ := run_make_full (P := Try.prog) w1 w1.heap.size 61 24 i0 (.agg #[.string ⟨#[]⟩, .slice none 0 0, .string ⟨#[]⟩]) 3 (by kernel_rfl) hi0 hz0 hz1 .i64 .i64 n (by rw [hz2]; omega) (by unfold maxLen; omega) (Nat.le_refl _)
  have M0 : Hid (MkR w1.heap.size w1.heap.size n [] w2) := Lib.hid ⟨_, hown, fun j hj => by simp at hj⟩
  have B0 : Hid (Below w1.heap.size w1 w2) := Lib.hid ((Below.refl _ _).grown hgr (Nat.le_refl _) (fun k hk => by cases hk))
  clear hv k1 hown hgr
  go_wp2_with fail
  go_loopw [24] (fun iv wr => ∃ (k : Nat) (acc : List LV), iv = .int .i64 k ∧ k ≤ n ∧ Hid (acc.length = k) ∧ Hid (lnsG (T.drop k) acc = lnsG T []) ∧ Hid (∀ l ∈ acc, smlL l) ∧ Hid (MkR w1.heap.size w1.heap.size n acc wr) ∧ Below w1.heap.size w1 wr) (fun iv _ => n - (intOf iv).toNat)
  case atStart => exact ⟨0, [], rfl, Nat.zero_le _, Lib.hid rfl, Lib.hid rfl, Lib.hid (by simp), M0, B0.out⟩
  case round =>
    obtain ⟨k, acc, rfl, hk, hacc, hG, hsm, hM, hB⟩ := hrel
    by_cases hlt : k < n
    · have hkT : k < T.length := by rw [hn.out]; exact hlt
      obtain ⟨b, off, c', hAv, hbl, hcell⟩ := HV.out.form (by omega)
      have hA : A = some ⟨b, off, none⟩ := by injection hAv
      subst hA
      have d0 := (hB.cell (p := ⟨b, off + k, none⟩) hbl).trans (hcell k hkT)
      have ht6 := hT.out _ (List.getElem_mem hkT)
      have hG' := hG.out
      rw [lns_drop hkT] at hG'
      obtain ⟨t, ht⟩ : ∃ t, T[k]'hkT = t := ⟨_, rfl⟩
      rw [ht] at d0 ht6 hG'
      have Z : Hid ((⟨t.toArray⟩ : ByteArray).size ≤ 800000) := Lib.hid (by show t.length ≤ _; omega)
      have HB := Lib.hid hB
      have sB := hB.size
      clear hcell hAv ht hB ht6
      cases hx : lnX t with
      | none =>
        have HP : Hid (lnP t = (18, ⟨[], [], []⟩)) := Lib.hid (by rw [lnP, hx]; rfl)
        rw [hx] at hG'
        have HR : Hid (([], 18) = r) := Lib.hid (by rw [← hr.out, lnsR, ← hG'])
        clear hx hG'
        go_wp2_with fail
        refine (lpw_at _ t (18, ⟨[], [], []⟩) _ Z.out (Lib.hid rfl) HP).mono ?_
        rintro e w3 ⟨pv, rfl, hq, k3⟩
        obtain ⟨pa, pc, hpv⟩ := hq.out.1.form
        subst hpv
        have M3 := Lib.hid (hM.out.below k3)
        have B3 := Lib.hid (HB.out.trans (k3.mono sB))
        obtain ⟨_, gl, mc, mf⟩ := M3.out.cells
        obtain ⟨u0, m0⟩ := mc (k * 3) (by omega)
        obtain ⟨u1, m1⟩ := mc (k * 3 + 1) (by omega)
        obtain ⟨u2, m2⟩ := mc (k * 3 + 2) (by omega)
        have f0 := mf (k * 3)
        have f1 := mf (k * 3 + 1)
        have f2 := mf (k * 3 + 2)
        clear hq k3 mc mf
        go_wp2
        go_ret2
        exact pq_no _ _ 18 _ HR.out (bstep K1.out (by repeat (first | with_reducible exact B3.out | with_reducible refine Below.setCell ?_ (by exact Nat.le_refl _) _)))
      | some l =>
        have HP : Hid (lnP t = (0, l)) := Lib.hid (by rw [lnP, hx])
        have HOK := Lib.hid (lnB_nm (lnX_ok hx))
        rw [hx] at hG'
        have HG2 := Lib.hid hG'
        clear hx hG'
        go_wp2_with fail
        refine (lpw_at _ t (0, l) _ Z.out (Lib.hid rfl) HP).mono ?_
        rintro e w3 ⟨pv, rfl, hq, k3⟩
        obtain ⟨pa, pc, hpv⟩ := hq.out.1.form
        subst hpv
        have M3 := Lib.hid (hM.out.below k3)
        have B3 := Lib.hid (HB.out.trans (k3.mono sB))
        obtain ⟨_, gl, mc, mf⟩ := M3.out.cells
        obtain ⟨u0, m0⟩ := mc (k * 3) (by omega)
        obtain ⟨u1, m1⟩ := mc (k * 3 + 1) (by omega)
        obtain ⟨u2, m2⟩ := mc (k * 3 + 2) (by omega)
        have f0 := mf (k * 3)
        have f1 := mf (k * 3 + 1)
        have f2 := mf (k * 3 + 2)
        have PP := Lib.hid (ParR.low sB hq.out.1)
        have HSM : Hid (∀ x ∈ acc ++ [l], smlL x) := Lib.hid (fun x hx => by
          rcases List.mem_append.1 hx with h | h
          · exact hsm.out x h
          · rw [List.mem_singleton.1 h]
            exact ⟨by have := HOK.out; omega, hq.out.2.2.1, hq.out.2.2.2.1, hq.out.2.2.2.2⟩)
        obtain ⟨pn, hpn⟩ : ∃ x, l.ps.length = x := ⟨_, rfl⟩
        obtain ⟨a, ha⟩ : ∃ x : ByteArray, ⟨l.nm.toArray⟩ = x := ⟨_, rfl⟩
        obtain ⟨a2, ha2⟩ : ∃ x : ByteArray, ⟨l.vl.toArray⟩ = x := ⟨_, rfl⟩
        simp only at PP ⊢
        rw [hpn] at PP
        rw [hpn, ha, ha2]
        have MS : Hid (MkR w1.heap.size w1.heap.size n (acc ++ [l]) (((w3.setCell ⟨w1.heap.size, k * 3, none⟩ (.string a)).setCell ⟨w1.heap.size, k * 3 + 1, none⟩ (.slice pa pn pc)).setCell ⟨w1.heap.size, k * 3 + 2, none⟩ (.string a2))) := Lib.hid (by
          have h := M3.out.step l (.slice pa pn pc) (.string a) (.string a2) (by rw [hacc.out]; exact hlt) (by rw [ha]) (by rw [ha2]) PP.out
          rw [hacc.out] at h
          exact h)
        clear hq k3 mc mf hpn ha ha2
        go_wp2
        go_roundw
        case rel => exact ⟨k + 1, acc ++ [l], by go_num, by omega, Lib.hid (by rw [List.length_append, hacc.out]; rfl), HG2, HSM, MS, by repeat (first | with_reducible exact B3.out | with_reducible refine Below.setCell ?_ (by exact Nat.le_refl _) _)⟩
        case measure => simp [intOf]; omega
    · obtain rfl : k = n := by omega
      have hall : lnsG T [] = some acc := by
        have h := hG.out
        rw [List.drop_of_length_le (by rw [hn.out]; omega), lnsG] at h
        exact h.symm
      have HR : Hid (bdR acc = r) := Lib.hid (by rw [← hr.out, lnsR, hall])
      have HLN := Lib.hid (hM.out.lins hacc.out)
      have HB := Lib.hid hB
      obtain ⟨o, ho⟩ : ∃ o, bdG acc [] [] = o := ⟨_, rfl⟩
      have HO := Lib.hid ho
      have HAL : Hid (acc.length ≤ 900000) := Lib.hid (by rw [hacc.out]; omega)
      clear hall ho hB
      go_wp2_with fail
      refine (bd_to _ acc o _ HLN.out (by have := HAL.out; omega) hsm.out HO).mono ?_
      rintro e w3 ⟨A3, n3, c3, ok, rfl, hq, k3⟩
      have B3 := Lib.hid (bstep K1.out (HB.out.trans (k3.mono HB.out.size)))
      cases o with
      | none =>
        have hq := hq.out
        simp only at hq
        subst hq
        have HE : Hid (([], 20) = r) := Lib.hid (by rw [← HR.out, bdR, HO.out])
        clear k3
        go_wp2
        go_ret2
        exact pq_no _ _ 20 _ HE.out B3.out
      | some C =>
        obtain ⟨rfl, hcv⟩ := hq.out
        obtain ⟨q1, q2, q3⟩ := bd_sml HO.out HAL.out hsm.out
        have HC := Lib.hid (ck_to _ C (chkB C) w3 hcv (by omega) q2 q3 (Lib.hid rfl))
        have HCV := Lib.hid hcv
        have hbd := HR.out
        rw [bdR, HO.out] at hbd
        simp only at hbd
        cases hch : chkB C with
        | false =>
          rw [hch] at HC
          have HE : Hid (([], 20) = r) := Lib.hid (by rw [← hbd, hch]; rfl)
          clear k3 hbd hch hcv q1 q2 q3 hq
          go_wp2_with fail
          refine HC.out.mono ?_
          rintro e w4 ⟨rfl, k4⟩
          go_wp2
          go_ret2
          exact pq_no _ _ 20 _ HE.out (bstep B3.out k4)
        | true =>
          rw [hch] at HC
          have HE : Hid ((C, 0) = r) := Lib.hid (by rw [← hbd, hch]; rfl)
          clear k3 hbd hch hcv q1 q2 q3 hq
          go_wp2_with fail
          refine HC.out.mono ?_
          rintro e w4 ⟨rfl, k4⟩
          have HF := Lib.hid (HCV.out.below k4)
          go_wp2
          go_ret2
          rw [← HE.out]
          exact ⟨_, _, _, rfl, Lib.hid HF.out, bstep B3.out k4⟩
theorem pa_to (s : ByteArray) (S : List UInt8) (r : List CV × Int) (w : World) (hs : s.size ≤ 600000) (hS : s.data.toList = S) (hr : Hid (pTr S = r)) :
    Calls Try.prog 28 #[.string s] w (PaQ r w) := by
  have hl : S.length = s.size := by rw [← hS]; simp
  have hr' := hr.out
  rw [pTr_eq] at hr'
  cases ho : Fld.okCR S with
  | false =>
    have h2 : pTr S = ([], 18) := by rw [pTr_eq, ho, if_neg (by decide)]
    rw [← hr.out]
    exact pa_no s S w hs (Lib.hid hS) (Lib.hid (by rw [Fld.unfR, ho, if_neg (by decide)])) (Lib.hid h2)
  | true =>
    rw [ho, if_pos rfl] at hr'
    obtain ⟨b1, b2⟩ := unf_bd S.length S [] (Nat.le_refl _)
    exact pa_ok s S (Fld.unfS S) _ r w hs (Lib.hid hS) (Lib.hid (by rw [Fld.unfR, ho, if_pos rfl])) (Lib.hid rfl) (by rw [Fld.unfS]; omega) (Lib.hid (fun t ht => by have := b2 t ht; simp only [List.length_nil] at this; omega)) (Lib.hid hr')
end Tre
end Go.Proofs.Ytdakpncfophjnaa
