/-
  TreeKids: each component but the first is one other's own, and the own of each adds up.
-/
import Derived.Test.YtdakpncfophjnaaBdAI
import Derived.Test.YtdakpncfophjnaaTrF
import Derived.Test.YtdakpncfophjnaaBdX
import Derived.Laws.OwnMore
import Derived.Test.YtdakpncfophjnaaHeldR
namespace Go.Proofs.Ytdakpncfophjnaa
open Go.RowKit
namespace Tre
open Lin CutB Cel Ap
open Opn (TxtV)
/-- A row of n numbers of the call's own. -/
def MkI (B g n : Nat) (f : Nat → Int) (w : World) : Prop := ∃ xs, w.ownsRow B 3 1 (.slice (some ⟨g, 0, none⟩) n n) n xs ∧ ∀ j, j < n → xs[j]? = some (.int .i64 (f j))
theorem MkI.below {B g n : Nat} {f : Nat → Int} {w w' : World} (h : MkI B g n f w) (hb : Below w.heap.size w w') : MkI B g n f w' := by
  obtain ⟨xs, h1, h2⟩ := h
  exact ⟨xs, own_below h1 hb, h2⟩
theorem MkI.cells {B g n : Nat} {f : Nat → Int} {w : World} (h : MkI B g n f w) : B ≤ g ∧ g < w.heap.size ∧ (∀ j, j < n → w.cell? ⟨g, j, none⟩ = some (.int .i64 (f j))) ∧ ∀ j, w.frozen? ⟨g, j, none⟩ = false := by
  obtain ⟨xs, h1, h2⟩ := h
  obtain ⟨hb, hl⟩ := h1.lt g rfl
  exact ⟨hb, hl, fun j hj => by rw [h1.cellAt j (by omega)]; exact h2 j hj, fun j => h1.frozenAt j⟩
theorem MkI.set {B g n : Nat} {f f' : Nat → Int} {w : World} (h : MkI B g n f w) (c : Nat) (v : Int) (hf : ∀ j, j < n → f' j = if j = c then v else f j) : MkI B g n f' (w.setCell ⟨g, c, none⟩ (.int .i64 v)) ∧ ∀ {w0 : World} {B0 : Nat}, Below B0 w0 w → B0 ≤ g → Below B0 w0 (w.setCell ⟨g, c, none⟩ (.int .i64 v)) := by
  obtain ⟨xs, h1, h2⟩ := h
  obtain ⟨hb, hl⟩ := h1.lt g rfl
  obtain ⟨r1, r2⟩ := h1.stored c (.int .i64 v)
  refine ⟨⟨_, r1, fun j hj => ?_⟩, fun hw hB => hw.grown r2 (by omega) (fun k hk => by injection hk with hk; omega)⟩
  have hxl := h1.1
  rw [hf j hj]
  by_cases hjc : j = c
  · subst hjc
    rw [if_pos rfl, List.getElem?_set_self (by omega)]
  · rw [if_neg hjc, List.getElem?_set_ne (by omega)]
    exact h2 j hj
theorem bst {g : Nat} {w a b : World} (h : Below g w a) (hg : g ≤ a.heap.size) (k : Below a.heap.size a b) : Below g w b := h.trans (k.mono hg)
/-- The kids' cells. -/
def KdC (q g : Nat) (R : List Int) (w : World) : Prop := q ≠ g ∧ ∀ (t : Nat) (ht : t < R.length), w.cell? ⟨q, t, none⟩ = some (.int .i64 R[t])
theorem KdC.set {q g : Nat} {R : List Int} {w : World} (h : KdC q g R w) (c : Nat) (v : Value) : KdC q g R (w.setCell ⟨g, c, none⟩ v) :=
  ⟨h.1, fun t ht => by rw [World.cell?_setCell_other _ _ _ _ (fun e => h.1 (by have z := congrArg Addr.block e; first | exact z | exact z.symm))]; exact h.2 t ht⟩
theorem gI_step {L : List CV} {i c : Nat} (h : Fr L i c) (hc : c < ed L i) (j : Nat) : gI L i (ed L c) j = if j = c then 0 + 1 else gI L i c j := by
  rw [gI, gB_step h hc j]
  split
  · simp
  · rw [gI]
theorem gI_at {L : List CV} {i c : Nat} (h : Fr L i c) (hc : c < ed L i) : gI L i c c = 0 := by rw [gI, gB_at h hc]; rfl
theorem gI_last (L : List CV) (i j : Nat) : gI L i (ed L i) j = gI L (i + 1) (i + 1 + 1) j := by rw [gI, gB_last]; rfl
set_option maxHeartbeats 12800000 in
set_option maxRecDepth 100000 in
theorem tk_0 (v : Value) (L : List CV) (w : World) (hv : Hid (CmpsV w v L)) (bL : Hid (BdT L)) (hc : Hid (chkB L = false)) :
    Calls Try.prog 10 #[v] w fun e w' => e = .returned (.bool true) ∧ Below w.heap.size w w' := by
  go_enter Try.func10, Try.ntmps10
  go_wp2_with fail
  refine (thv_to v L _ hv.out bL.out).mono ?_
  rintro e w1 ⟨b1, rfl, q1, k1⟩
  have V1 := Lib.hid (hv.out.below k1)
  have B1 := Lib.hid k1
  clear k1
  cases b1 with
  | true =>
    go_wp2
    go_ret
    exact ⟨rfl, B1.out⟩
  | false =>
    have l1 := (q1.out (by trivial)).1
    have N1 := Lib.hid (q1.out (by trivial)).2
    clear q1
    go_wp2_with fail
    refine (rtr_to v L false _ V1.out (by omega) (fun c hc => (bL.out.2 c hc).2.2.1) (fun c hc => light_c (N1.out c hc)) hc).mono ?_
    rintro e w2 ⟨rfl, k1⟩
    go_wp2
    go_ret
    exact ⟨rfl, bstep B1.out k1⟩
set_option maxHeartbeats 51200000 in
set_option maxRecDepth 100000 in
theorem tk_1 (b off c n : Nat) (L : List CV) (w : World) (hnl : Hid (L.length = n)) (hn0 : 0 < n) (hbl : b < w.heap.size) (hv : Hid (CmpsV w (.slice (some ⟨b, off, none⟩) n c) L)) (hcm : Hid (CmpC w b off L)) (bL : Hid (BdT L)) (hc : Hid (chkB L = true)) (hN : Hid (Nst L n)) :
    Calls Try.prog 10 #[.slice (some ⟨b, off, none⟩) n c] w fun e w' => e = .returned (.bool true) ∧ Below w.heap.size w w' := by
  have hnm : n ≤ 9223372036854775807 := by have := bL.out.1; rw [hnl.out] at this; unfold maxLen at this; omega
  go_enter Try.func10, Try.ntmps10
  go_wp2_with fail
  refine (thv_to _ L _ hv.out bL.out).mono ?_
  rintro e w1 ⟨b1, rfl, q1, k1⟩
  have V1 := Lib.hid (hv.out.below k1)
  have B1 := Lib.hid k1
  clear k1
  cases b1 with
  | true =>
    go_wp2
    go_ret
    exact ⟨rfl, B1.out⟩
  | false =>
    have l1 : n ≤ 30 := by have := (q1.out (by trivial)).1; rw [hnl.out] at this; exact this
    have N1 := Lib.hid (q1.out (by trivial)).2
    have O1 := Lib.hid (fun c hc => (bL.out.2 c hc).2.2.1)
    clear q1
    go_wp2_with fail
    refine (rtr_to _ L true _ V1.out (by rw [hnl.out]; omega) O1.out (fun c hc => light_c (N1.out c hc)) hc).mono ?_
    rintro e w2 ⟨rfl, k1⟩
    have V2 := Lib.hid (V1.out.below k1)
    have B2 := Lib.hid (bstep B1.out k1)
    clear k1 V1 B1
    obtain ⟨i0, hi0, hz0, hz1, hz2⟩ := info_parts infoI
    obtain ⟨w3, hmk, hown, hgr⟩ := run_make_full (P := Try.prog) w2 w2.heap.size 47 3 i0 (.int .i64 0) 1 (by kernel_rfl) hi0 hz0 hz1 .i64 .i64 n (by rw [hz2]; omega) (by unfold maxLen; omega) (Nat.le_refl _)
    have M3 : Hid (MkI w2.heap.size w2.heap.size n (fun j => gI L 0 (0 + 1) j) w3) := Lib.hid ⟨_, hown, fun j hj => by
      have e : (madeCells (Value.int .i64 0).cells (n * 1)).toList = List.replicate n (.int .i64 0) := by rw [Nat.mul_one]; exact toList_madeCells_one _ n
      rw [e, List.getElem?_replicate, if_pos hj]
      show some (Value.int .i64 0) = some (Value.int .i64 (gI L 0 (0 + 1) j))
      rw [gI, gB_start]; rfl⟩
    have B3 : Hid (Below w2.heap.size w2 w3) := Lib.hid ((Below.refl _ _).grown hgr (Nat.le_refl _) (fun k hk => by cases hk))
    obtain ⟨g, hg⟩ : ∃ g, w2.heap.size = g := ⟨_, rfl⟩
    have HG := Lib.hid hg
    have M3 : Hid (MkI g g n (fun j => gI L 0 (0 + 1) j) w3) := Lib.hid (by rw [← hg]; exact M3.out)
    have B3 : Hid (Below g w2 w3) := Lib.hid (by rw [← hg]; exact B3.out)
    clear hown hgr
    go_wp2_with fail
    go_loopw [4] (fun iv wr => ∃ k : Nat, k ≤ n ∧ iv = .int .i64 k ∧ Hid (MkI g g n (fun j => gI L k (k + 1) j) wr) ∧ Below g w2 wr) (fun iv _ => n - (intOf iv).toNat)
    case atStart => exact ⟨0, Nat.zero_le _, rfl, M3, B3.out⟩
    case round =>
      obtain ⟨k, hk, rfl, hM, hB⟩ := hrel
      obtain ⟨wo, rfl⟩ : ∃ wo : World, wo = wr := ⟨_, rfl⟩
      clear M3 B3 hmk
      have V3 := Lib.hid (V2.out.below (show Below w2.heap.size w2 wo from by rw [HG.out]; exact hB))
      have HB := Lib.hid hB
      by_cases hlt : k < n
      case pos =>
        obtain ⟨R, hR⟩ : ∃ R, kids L (k : Int) = R := ⟨_, rfl⟩
        have HR := Lib.hid hR
        have HCH : Hid (Ch L (ed L k) (k + 1) R) := Lib.hid (by rw [← hR]; exact kids_ch hN.out hlt)
        have hkl : k < L.length := by rw [hnl.out]; exact hlt
        obtain ⟨_, _, _, _, _, p2, _⟩ := cmp_at hcm.out hkl
        have hok : (L[k]'hkl).own = ownAt L k := (own_nat L k hkl).symm
        rw [hok] at p2
        have hok0 := hN.out.own k hlt
        have hedk : (ed L k : Int) = (k : Int) + 1 + ownAt L k := by rw [ed]; omega
        have hedn := hN.out.le k hlt
        obtain ⟨ok, hokk⟩ : ∃ o, ownAt L (k : Int) = o := ⟨_, rfl⟩
        rw [hokk] at p2 hok0 hedk
        have P2 := Lib.hid p2
        clear hR hB p2 hok hokk
        go_wp2_with fail
        refine (kd_to _ L k R _ V3.out (by rw [hnl.out]; omega) ⟨by omega, by omega⟩ O1.out HR).mono ?_
        rintro e w4 ⟨kv, rfl, hrow, k1⟩
        obtain ⟨kA, kc, hkv⟩ := hrow.forms
        subst hkv
        obtain ⟨rl, hrl⟩ : ∃ x, R.length = x := ⟨_, rfl⟩
        have HRL := Lib.hid hrl
        have hrm : rl ≤ 9223372036854775807 := by
          obtain ⟨_, h1, h2⟩ := own_cap hrow
          unfold maxLen at h2
          omega
        have hgw := hM.out.cells.2.1
        have HKD : Hid (0 < R.length → ∃ q, kA = some ⟨q, 0, none⟩ ∧ KdC q g R w4) := Lib.hid (fun h => by
          obtain ⟨q, cc, e1, e2, _, e4, _⟩ := hrow.form h
          injection e1 with e1 _ _
          exact ⟨q, e1, by omega, e4⟩)
        have M4 := Lib.hid (hM.out.below k1)
        have B4 := Lib.hid (bst HB.out (Nat.le_of_lt hgw) k1)
        rw [hrl]
        clear hrow k1 hM HB hrl V3 hgw
        go_wp2_with fail
        go_loopw [6, 7] (fun sv iv wr => ∃ (t cc : Nat), sv = .int .i64 ((cc : Int) - (k : Int) - 1) ∧ iv = .int .i64 t ∧ t ≤ rl ∧ Hid (Ch L (ed L k) cc (R.drop t)) ∧ Hid (Fr L k cc) ∧ Hid (∀ (t' : Nat) (h : t' < R.length), t = t' + 1 → R[t'] < (cc : Int)) ∧ Hid (MkI g g n (fun j => gI L k cc j) wr) ∧ Hid (0 < R.length → ∃ q, kA = some ⟨q, 0, none⟩ ∧ KdC q g R wr) ∧ Below g w2 wr) (fun _ iv _ => rl - (intOf iv).toNat)
        case atStart => exact ⟨0, k + 1, by congr 1; omega, rfl, Nat.zero_le _, Lib.hid HCH.out, Lib.hid (Fr.first L k), Lib.hid (fun t' h e => by omega), M4, HKD, B4.out⟩
        case round =>
          obtain ⟨t, cc, rfl, rfl, ht, hch, hfr, hpr, hM, hKD, hB⟩ := hrel
          by_cases htl : t < rl
          · have htR : t < R.length := by rw [HRL.out]; exact htl
            obtain ⟨e1, e2, e3⟩ := hch.out.at htR
            have hcn : cc < n := by omega
            have hck := hfr.out.1
            obtain ⟨q, hq, hqg, hqc⟩ := hKD.out (by omega)
            subst hq
            have r0 := hqc t htR
            rw [e1] at r0
            obtain ⟨_, hgl, mc, mf⟩ := hM.out.cells
            have m0 := mc cc hcn
            rw [gI_at hfr.out e2] at m0
            have m1 := mf cc
            have hcl : cc < L.length := by rw [hnl.out]; exact hcn
            obtain ⟨_, _, _, _, _, p2, _⟩ := cmp_at hcm.out hcl
            have hoc : (L[cc]'hcl).own = ownAt L cc := (own_nat L cc hcl).symm
            rw [hoc] at p2
            have hoc0 := hN.out.own cc hcn
            have hedc : (ed L cc : Int) = (cc : Int) + 1 + ownAt L cc := by rw [ed]; omega
            have hednc := hN.out.le cc hcn
            have hfr2 := hfr.out.step hN.out hlt e2
            have hle2 := hfr2.2.1
            obtain ⟨oc, hocc⟩ : ∃ o, ownAt L (cc : Int) = o := ⟨_, rfl⟩
            rw [hocc] at p2 hoc0 hedc
            obtain ⟨M5, hBs⟩ := (hM.out.below (Below.refl wr.heap.size wr).drew).set (f' := fun j => gI L k (ed L cc) j) cc 1 (fun j hj => gI_step hfr.out e2 j)
            have hB5 := hBs hB.drew (Nat.le_refl _)
            have M5' := Lib.hid M5
            have B5 := Lib.hid hB5
            have K5 : Hid (0 < R.length → ∃ q', (some ⟨q, 0, none⟩ : Option Addr) = some ⟨q', 0, none⟩ ∧ KdC q' g R (wr.drew.setCell ⟨g, cc, none⟩ (.int .i64 1))) := Lib.hid (fun _ => ⟨q, rfl, KdC.set (show KdC q g R wr.drew from ⟨hqg, hqc⟩) cc _⟩)
            have C5 := Lib.hid e3
            have F5 := Lib.hid hfr2
            have R5 : Hid (∀ (t' : Nat) (h : t' < R.length), t + 1 = t' + 1 → R[t'] < (ed L cc : Int)) := Lib.hid (fun t' h e => by
              obtain rfl : t = t' := by omega
              rw [e1]; omega)
            have hbb : b < g := by rw [← HG.out]; exact Nat.lt_of_lt_of_le hbl B2.out.size
            have s2 := (hB.cell (p := ⟨b, off + cc * 3 + 2, none⟩) hbb).trans ((B2.out.cell (p := ⟨b, off + cc * 3 + 2, none⟩) hbl).trans p2)
            have z2 := (hB5.cell (p := ⟨b, off + cc * 3 + 2, none⟩) hbb).trans ((B2.out.cell (p := ⟨b, off + cc * 3 + 2, none⟩) hbl).trans p2)
            have z0 := (KdC.set (show KdC q g R wr.drew from ⟨hqg, hqc⟩) cc (.int .i64 1)).2 t htR
            have hocn : oc ≤ 30 := by omega
            have HEDC := Lib.hid hedc
            rw [e1] at z0
            have rp : ∀ t', t = t' + 1 → ∃ p : Int, wr.cell? ⟨q, t', none⟩ = some (.int .i64 p) ∧ p < cc := fun t' e => ⟨R[t'], hqc t' (by omega), hpr.out t' (by omega) e⟩
            clear hch hfr hpr hM hKD hqc mc mf M5 hB5 hBs hoc hocc p2 e1 e3 hB hedc
            by_cases ht0 : t = 0
            · subst ht0
              clear rp
              have d1 : decide (cc ≤ k) = false := decide_eq_false (by omega)
              have d2 : decide (n ≤ cc) = false := decide_eq_false (by omega)
              have SZ : Hid (wr.drew.cell? ⟨q, 0, none⟩ = some (.int .i64 (cc : Int))) := Lib.hid r0
              go_upto_region 12 with fail
              refine Hr.Walk.region (R := fun _ x => x.cell? ⟨q, 0, none⟩ = some (.int .i64 (cc : Int))) (by kernel_rfl) ?_
              refine Hr.Walk.take (i := 0) (v := ?v0) (fun x => x.cell? ⟨q, 0, none⟩ = some (.int .i64 (cc : Int))) (fun _ => True) rfl (by kernel_rfl) (by kernel_rfl) (by kernel_rfl) (fun _ _ _ h => h) (fun _ _ _ _ _ _ => trivial) (fun _ _ _ h => h) (fun _ _ h => h) trivial (Or.inl ⟨by rfl, ?hy0⟩) SZ.out SZ.out ?rest0
              case hy0 => intro x hx; have f2 := hx; clear hx; go_simp; try with_reducible rfl
              (try go_simp)
              refine Hr.Walk.take (i := 1) (v := ?v1) (fun x => x.cell? ⟨q, 0, none⟩ = some (.int .i64 (cc : Int))) (fun _ => True) rfl (by kernel_rfl) (by kernel_rfl) (by kernel_rfl) (fun _ _ _ h => h) (fun _ _ _ _ _ _ => trivial) (fun _ _ _ h => h) (fun _ _ h => h) trivial (Or.inl ⟨by rfl, ?hy1⟩) SZ.out SZ.out ?rest1
              case hy1 => intro x hx; have f2 := hx; clear hx; go_simp; try with_reducible rfl
              (try go_simp)
              refine Hr.Walk.take (i := 2) (v := ?v2) (fun x => x.cell? ⟨q, 0, none⟩ = some (.int .i64 (cc : Int))) (fun _ => True) rfl (by kernel_rfl) (by kernel_rfl) (by kernel_rfl) (fun _ _ _ h => h) (fun _ _ _ _ _ _ => trivial) (fun _ _ _ h => h) (fun _ _ h => h) trivial (Or.inl ⟨by rfl, ?hy2⟩) SZ.out SZ.out ?rest2
              case hy2 => intro x hx; have f2 := hx; clear hx; go_simp; try with_reducible rfl
              (try go_simp)
              refine Hr.Walk.take (i := 3) (v := ?v3) (fun x => x.cell? ⟨q, 0, none⟩ = some (.int .i64 (cc : Int))) (fun _ => True) rfl (by kernel_rfl) (by kernel_rfl) (by kernel_rfl) (fun _ _ _ h => h) (fun _ _ _ _ _ _ => trivial) (fun _ _ _ h => h) (fun _ _ h => h) trivial (Or.inl ⟨by rfl, ?hy3⟩) SZ.out SZ.out ?rest3
              case hy3 => intro x hx; have f2 := hx; clear hx; go_simp; try with_reducible rfl
              (try go_simp)
              refine Hr.Walk.one (i := 4) (by kernel_rfl) rfl (fun K hK => ?_)
              go_simp
              refine hK.out _ _ SZ.out ?_
              clear hK K
              refine Hr.Walk.one (i := 5) (by kernel_rfl) rfl (fun K hK => ?_)
              go_simp
              refine hK.out _ _ SZ.out ?_
              clear hK K
              refine Hr.Walk.one (i := 6) (by kernel_rfl) rfl (fun K hK => ?_)
              go_simp
              refine hK.out _ _ SZ.out ?_
              clear hK K
              refine Hr.Walk.take (i := 7) (v := ?v7) (fun x => x.cell? ⟨q, 0, none⟩ = some (.int .i64 (cc : Int))) (fun _ => True) rfl (by kernel_rfl) (by kernel_rfl) (by kernel_rfl) (fun _ _ _ h => h) (fun _ _ _ _ _ _ => trivial) (fun _ _ _ h => h) (fun _ _ h => h) trivial (Or.inl ⟨by rfl, ?hy7⟩) SZ.out SZ.out ?rest7
              case hy7 => intro x hx; have f2 := hx; clear hx; go_simp; try with_reducible rfl
              (try go_simp)
              refine Hr.Walk.take (i := 8) (v := ?v8) (fun x => x.cell? ⟨q, 0, none⟩ = some (.int .i64 (cc : Int))) (fun _ => True) rfl (by kernel_rfl) (by kernel_rfl) (by kernel_rfl) (fun _ _ _ h => h) (fun _ _ _ _ _ _ => trivial) (fun _ _ _ h => h) (fun _ _ h => h) trivial (Or.inl ⟨by rfl, ?hy8⟩) SZ.out SZ.out ?rest8
              case hy8 => intro x hx; have f2 := hx; clear hx; go_simp; try with_reducible rfl
              (try go_simp)
              refine Hr.Walk.take (i := 9) (v := ?v9) (fun x => x.cell? ⟨q, 0, none⟩ = some (.int .i64 (cc : Int))) (fun _ => True) rfl (by kernel_rfl) (by kernel_rfl) (by kernel_rfl) (fun _ _ _ h => h) (fun _ _ _ _ _ _ => trivial) (fun _ _ _ h => h) (fun _ _ h => h) trivial (Or.inl ⟨by rfl, ?hy9⟩) SZ.out SZ.out ?rest9
              case hy9 => intro x hx; have f2 := hx; clear hx; go_simp; try with_reducible rfl
              (try go_simp)
              refine Hr.Walk.take (i := 10) (v := ?v10) (fun x => x.cell? ⟨q, 0, none⟩ = some (.int .i64 (cc : Int))) (fun _ => True) rfl (by kernel_rfl) (by kernel_rfl) (by kernel_rfl) (fun _ _ _ h => h) (fun _ _ _ _ _ _ => trivial) (fun _ _ _ h => h) (fun _ _ h => h) trivial (Or.inl ⟨by rfl, ?hy10⟩) SZ.out SZ.out ?rest10
              case hy10 => intro x hx; have f2 := hx; clear hx; go_simp; try with_reducible rfl
              (try go_simp)
              refine Hr.Walk.one (i := 11) (by kernel_rfl) rfl (fun K hK => ?_)
              go_simp
              refine hK.out _ _ SZ.out ?_
              clear hK K
              refine Hr.Walk.one (i := 12) (by kernel_rfl) rfl (fun K hK => ?_)
              go_simp
              refine hK.out _ _ SZ.out ?_
              clear hK K
              refine Hr.Walk.one (i := 13) (by kernel_rfl) rfl (fun K hK => ?_)
              go_simp
              refine hK.out _ _ SZ.out ?_
              clear hK K
              refine Hr.Walk.one (i := 14) (by kernel_rfl) rfl (fun K hK => ?_)
              go_simp
              refine hK.out _ _ SZ.out ?_
              clear hK K
              refine Hr.Walk.one (i := 15) (by kernel_rfl) rfl (fun K hK => ?_)
              go_simp
              refine hK.out _ _ SZ.out ?_
              clear hK K
              refine Hr.Walk.one (i := 16) (by kernel_rfl) rfl (fun K hK => ?_)
              go_simp
              refine hK.out _ _ SZ.out ?_
              clear hK K
              refine Hr.Walk.one (i := 17) (by kernel_rfl) rfl (fun K hK => ?_)
              go_simp
              refine hK.out _ _ SZ.out ?_
              clear hK K
              refine Hr.Walk.one (i := 18) (by kernel_rfl) rfl (fun K hK => ?_)
              go_simp
              refine hK.out _ _ SZ.out ?_
              clear hK K
              refine Hr.Walk.take (i := 19) (v := undef) (fun x => x.cell? ⟨q, 0, none⟩ = some (.int .i64 (cc : Int))) (fun _ => True) rfl (by kernel_rfl) (by kernel_rfl) (by kernel_rfl) (fun _ _ _ h => h) (fun _ _ _ _ _ _ => trivial) (fun _ _ _ h => h) (fun _ _ h => h) trivial (Or.inr ⟨by rfl, rfl⟩) SZ.out SZ.out ?_
              (try go_simp)
              refine Hr.Walk.take (i := 20) (v := undef) (fun x => x.cell? ⟨q, 0, none⟩ = some (.int .i64 (cc : Int))) (fun _ => True) rfl (by kernel_rfl) (by kernel_rfl) (by kernel_rfl) (fun _ _ _ h => h) (fun _ _ _ _ _ _ => trivial) (fun _ _ _ h => h) (fun _ _ h => h) trivial (Or.inr ⟨by rfl, rfl⟩) SZ.out SZ.out ?_
              (try go_simp)
              refine Hr.Walk.take (i := 21) (v := undef) (fun x => x.cell? ⟨q, 0, none⟩ = some (.int .i64 (cc : Int))) (fun _ => True) rfl (by kernel_rfl) (by kernel_rfl) (by kernel_rfl) (fun _ _ _ h => h) (fun _ _ _ _ _ _ => trivial) (fun _ _ _ h => h) (fun _ _ h => h) trivial (Or.inr ⟨by rfl, rfl⟩) SZ.out SZ.out ?_
              (try go_simp)
              refine Hr.Walk.take (i := 22) (v := undef) (fun x => x.cell? ⟨q, 0, none⟩ = some (.int .i64 (cc : Int))) (fun _ => True) rfl (by kernel_rfl) (by kernel_rfl) (by kernel_rfl) (fun _ _ _ h => h) (fun _ _ _ _ _ _ => trivial) (fun _ _ _ h => h) (fun _ _ h => h) trivial (Or.inr ⟨by rfl, rfl⟩) SZ.out SZ.out ?_
              (try go_simp)
              refine Hr.Walk.take (i := 23) (v := undef) (fun x => x.cell? ⟨q, 0, none⟩ = some (.int .i64 (cc : Int))) (fun _ => True) rfl (by kernel_rfl) (by kernel_rfl) (by kernel_rfl) (fun _ _ _ h => h) (fun _ _ _ _ _ _ => trivial) (fun _ _ _ h => h) (fun _ _ h => h) trivial (Or.inr ⟨by rfl, rfl⟩) SZ.out SZ.out ?_
              (try go_simp)
              refine Hr.Walk.one (i := 24) (by kernel_rfl) rfl (fun K hK => ?_)
              go_simp
              refine hK.out _ _ SZ.out ?_
              clear hK K
              refine Hr.Walk.one (i := 25) (by kernel_rfl) rfl (fun K hK => ?_)
              go_simp
              refine hK.out _ _ SZ.out ?_
              clear hK K
              refine Hr.Walk.one (i := 26) (by kernel_rfl) rfl (fun K hK => ?_)
              go_simp
              refine hK.out _ _ SZ.out ?_
              clear hK K
              refine Hr.Walk.one (i := 27) (by kernel_rfl) rfl (fun K hK => ?_)
              go_simp
              refine hK.out _ _ SZ.out ?_
              clear hK K
              refine Hr.Walk.one (i := 28) (by kernel_rfl) rfl (fun K hK => ?_)
              go_simp
              refine hK.out _ _ SZ.out ?_
              clear hK K
              refine Hr.Walk.one (i := 29) (by kernel_rfl) rfl (fun K hK => ?_)
              go_simp
              refine hK.out _ _ SZ.out ?_
              clear hK K
              refine Hr.Walk.one (i := 30) (by kernel_rfl) rfl (fun K hK => ?_)
              go_simp
              refine hK.out _ _ SZ.out ?_
              clear hK K
              refine Hr.Walk.done (by kernel_rfl) ?_ _
              go_wp2
              go_roundw
              case rel => exact ⟨0 + 1, ed L cc, by congr 1; have := HEDC.out; omega, by go_num, by omega, C5, F5, R5, M5', K5, B5.out⟩
              case measure => simp [intOf]; omega
            · obtain ⟨tp, rfl⟩ : ∃ tp, t = tp + 1 := ⟨t - 1, by omega⟩
              obtain ⟨pv, rp1, rp2⟩ := rp tp rfl
              clear rp
              have d1 : decide (cc ≤ k) = false := decide_eq_false (by omega)
              have d2 : decide (n ≤ cc) = false := decide_eq_false (by omega)
              have d3 : decide ((cc : Int) ≤ pv) = false := decide_eq_false (by omega)
              have d4 : IntKind.i64.wrap (tp : Int) = (tp : Int) := by rw [IntKind.wrap_i64]; omega
              have d5 : (0 : Int) ≤ (tp : Int) := by omega
              have d6 : (tp : Int) < (rl : Int) := by omega
              have d7 : (0 : Int) ≤ (tp : Int) + 1 := by omega
              have d8 : (tp : Int) + 1 < (rl : Int) := by omega
              have SZ : Hid (wr.drew.cell? ⟨q, tp + 1, none⟩ = some (.int .i64 (cc : Int)) ∧ wr.drew.cell? ⟨q, tp, none⟩ = some (.int .i64 pv)) := Lib.hid ⟨r0, rp1⟩
              go_upto_region 12 with fail
              refine Hr.Walk.region (R := fun _ x => x.cell? ⟨q, tp + 1, none⟩ = some (.int .i64 (cc : Int)) ∧ x.cell? ⟨q, tp, none⟩ = some (.int .i64 pv)) (by kernel_rfl) ?_
              refine Hr.Walk.take (i := 0) (v := ?vb0) (fun x => x.cell? ⟨q, tp + 1, none⟩ = some (.int .i64 (cc : Int)) ∧ x.cell? ⟨q, tp, none⟩ = some (.int .i64 pv)) (fun _ => True) rfl (by kernel_rfl) (by kernel_rfl) (by kernel_rfl) (fun _ _ _ h => h) (fun _ _ _ _ _ _ => trivial) (fun _ _ _ h => h) (fun _ _ h => h) trivial (Or.inl ⟨by rfl, ?hyb0⟩) SZ.out SZ.out ?restb0
              case hyb0 => intro x hx; have f2 := hx.1; have f3 := hx.2; clear hx; go_simp; try with_reducible rfl
              (try go_simp)
              refine Hr.Walk.take (i := 1) (v := ?vb1) (fun x => x.cell? ⟨q, tp + 1, none⟩ = some (.int .i64 (cc : Int)) ∧ x.cell? ⟨q, tp, none⟩ = some (.int .i64 pv)) (fun _ => True) rfl (by kernel_rfl) (by kernel_rfl) (by kernel_rfl) (fun _ _ _ h => h) (fun _ _ _ _ _ _ => trivial) (fun _ _ _ h => h) (fun _ _ h => h) trivial (Or.inl ⟨by rfl, ?hyb1⟩) SZ.out SZ.out ?restb1
              case hyb1 => intro x hx; have f2 := hx.1; have f3 := hx.2; clear hx; go_simp; try with_reducible rfl
              (try go_simp)
              refine Hr.Walk.take (i := 2) (v := ?vb2) (fun x => x.cell? ⟨q, tp + 1, none⟩ = some (.int .i64 (cc : Int)) ∧ x.cell? ⟨q, tp, none⟩ = some (.int .i64 pv)) (fun _ => True) rfl (by kernel_rfl) (by kernel_rfl) (by kernel_rfl) (fun _ _ _ h => h) (fun _ _ _ _ _ _ => trivial) (fun _ _ _ h => h) (fun _ _ h => h) trivial (Or.inl ⟨by rfl, ?hyb2⟩) SZ.out SZ.out ?restb2
              case hyb2 => intro x hx; have f2 := hx.1; have f3 := hx.2; clear hx; go_simp; try with_reducible rfl
              (try go_simp)
              refine Hr.Walk.take (i := 3) (v := ?vb3) (fun x => x.cell? ⟨q, tp + 1, none⟩ = some (.int .i64 (cc : Int)) ∧ x.cell? ⟨q, tp, none⟩ = some (.int .i64 pv)) (fun _ => True) rfl (by kernel_rfl) (by kernel_rfl) (by kernel_rfl) (fun _ _ _ h => h) (fun _ _ _ _ _ _ => trivial) (fun _ _ _ h => h) (fun _ _ h => h) trivial (Or.inl ⟨by rfl, ?hyb3⟩) SZ.out SZ.out ?restb3
              case hyb3 => intro x hx; have f2 := hx.1; have f3 := hx.2; clear hx; go_simp; try with_reducible rfl
              (try go_simp)
              refine Hr.Walk.one (i := 4) (by kernel_rfl) rfl (fun K hK => ?_)
              go_simp
              refine hK.out _ _ SZ.out ?_
              clear hK K
              refine Hr.Walk.one (i := 5) (by kernel_rfl) rfl (fun K hK => ?_)
              go_simp
              refine hK.out _ _ SZ.out ?_
              clear hK K
              refine Hr.Walk.one (i := 6) (by kernel_rfl) rfl (fun K hK => ?_)
              go_simp
              refine hK.out _ _ SZ.out ?_
              clear hK K
              refine Hr.Walk.take (i := 7) (v := ?vb7) (fun x => x.cell? ⟨q, tp + 1, none⟩ = some (.int .i64 (cc : Int)) ∧ x.cell? ⟨q, tp, none⟩ = some (.int .i64 pv)) (fun _ => True) rfl (by kernel_rfl) (by kernel_rfl) (by kernel_rfl) (fun _ _ _ h => h) (fun _ _ _ _ _ _ => trivial) (fun _ _ _ h => h) (fun _ _ h => h) trivial (Or.inl ⟨by rfl, ?hyb7⟩) SZ.out SZ.out ?restb7
              case hyb7 => intro x hx; have f2 := hx.1; have f3 := hx.2; clear hx; go_simp; try with_reducible rfl
              (try go_simp)
              refine Hr.Walk.take (i := 8) (v := ?vb8) (fun x => x.cell? ⟨q, tp + 1, none⟩ = some (.int .i64 (cc : Int)) ∧ x.cell? ⟨q, tp, none⟩ = some (.int .i64 pv)) (fun _ => True) rfl (by kernel_rfl) (by kernel_rfl) (by kernel_rfl) (fun _ _ _ h => h) (fun _ _ _ _ _ _ => trivial) (fun _ _ _ h => h) (fun _ _ h => h) trivial (Or.inl ⟨by rfl, ?hyb8⟩) SZ.out SZ.out ?restb8
              case hyb8 => intro x hx; have f2 := hx.1; have f3 := hx.2; clear hx; go_simp; try with_reducible rfl
              (try go_simp)
              refine Hr.Walk.take (i := 9) (v := ?vb9) (fun x => x.cell? ⟨q, tp + 1, none⟩ = some (.int .i64 (cc : Int)) ∧ x.cell? ⟨q, tp, none⟩ = some (.int .i64 pv)) (fun _ => True) rfl (by kernel_rfl) (by kernel_rfl) (by kernel_rfl) (fun _ _ _ h => h) (fun _ _ _ _ _ _ => trivial) (fun _ _ _ h => h) (fun _ _ h => h) trivial (Or.inl ⟨by rfl, ?hyb9⟩) SZ.out SZ.out ?restb9
              case hyb9 => intro x hx; have f2 := hx.1; have f3 := hx.2; clear hx; go_simp; try with_reducible rfl
              (try go_simp)
              refine Hr.Walk.take (i := 10) (v := ?vb10) (fun x => x.cell? ⟨q, tp + 1, none⟩ = some (.int .i64 (cc : Int)) ∧ x.cell? ⟨q, tp, none⟩ = some (.int .i64 pv)) (fun _ => True) rfl (by kernel_rfl) (by kernel_rfl) (by kernel_rfl) (fun _ _ _ h => h) (fun _ _ _ _ _ _ => trivial) (fun _ _ _ h => h) (fun _ _ h => h) trivial (Or.inl ⟨by rfl, ?hyb10⟩) SZ.out SZ.out ?restb10
              case hyb10 => intro x hx; have f2 := hx.1; have f3 := hx.2; clear hx; go_simp; try with_reducible rfl
              (try go_simp)
              refine Hr.Walk.one (i := 11) (by kernel_rfl) rfl (fun K hK => ?_)
              go_simp
              refine hK.out _ _ SZ.out ?_
              clear hK K
              refine Hr.Walk.one (i := 12) (by kernel_rfl) rfl (fun K hK => ?_)
              go_simp
              refine hK.out _ _ SZ.out ?_
              clear hK K
              refine Hr.Walk.one (i := 13) (by kernel_rfl) rfl (fun K hK => ?_)
              go_simp
              refine hK.out _ _ SZ.out ?_
              clear hK K
              refine Hr.Walk.one (i := 14) (by kernel_rfl) rfl (fun K hK => ?_)
              go_simp
              refine hK.out _ _ SZ.out ?_
              clear hK K
              refine Hr.Walk.one (i := 15) (by kernel_rfl) rfl (fun K hK => ?_)
              go_simp
              refine hK.out _ _ SZ.out ?_
              clear hK K
              refine Hr.Walk.one (i := 16) (by kernel_rfl) rfl (fun K hK => ?_)
              go_simp
              refine hK.out _ _ SZ.out ?_
              clear hK K
              refine Hr.Walk.one (i := 17) (by kernel_rfl) rfl (fun K hK => ?_)
              go_simp
              refine hK.out _ _ SZ.out ?_
              clear hK K
              refine Hr.Walk.one (i := 18) (by kernel_rfl) rfl (fun K hK => ?_)
              go_simp
              refine hK.out _ _ SZ.out ?_
              clear hK K
              refine Hr.Walk.take (i := 19) (v := ?vb19) (fun x => x.cell? ⟨q, tp + 1, none⟩ = some (.int .i64 (cc : Int)) ∧ x.cell? ⟨q, tp, none⟩ = some (.int .i64 pv)) (fun _ => True) rfl (by kernel_rfl) (by kernel_rfl) (by kernel_rfl) (fun _ _ _ h => h) (fun _ _ _ _ _ _ => trivial) (fun _ _ _ h => h) (fun _ _ h => h) trivial (Or.inl ⟨by rfl, ?hyb19⟩) SZ.out SZ.out ?restb19
              case hyb19 => intro x hx; have f2 := hx.1; have f3 := hx.2; clear hx; go_simp; try with_reducible rfl
              (try go_simp)
              refine Hr.Walk.take (i := 20) (v := ?vb20) (fun x => x.cell? ⟨q, tp + 1, none⟩ = some (.int .i64 (cc : Int)) ∧ x.cell? ⟨q, tp, none⟩ = some (.int .i64 pv)) (fun _ => True) rfl (by kernel_rfl) (by kernel_rfl) (by kernel_rfl) (fun _ _ _ h => h) (fun _ _ _ _ _ _ => trivial) (fun _ _ _ h => h) (fun _ _ h => h) trivial (Or.inl ⟨by rfl, ?hyb20⟩) SZ.out SZ.out ?restb20
              case hyb20 => intro x hx; have f2 := hx.1; have f3 := hx.2; clear hx; go_simp; try with_reducible rfl
              (try go_simp)
              refine Hr.Walk.take (i := 21) (v := ?vb21) (fun x => x.cell? ⟨q, tp + 1, none⟩ = some (.int .i64 (cc : Int)) ∧ x.cell? ⟨q, tp, none⟩ = some (.int .i64 pv)) (fun _ => True) rfl (by kernel_rfl) (by kernel_rfl) (by kernel_rfl) (fun _ _ _ h => h) (fun _ _ _ _ _ _ => trivial) (fun _ _ _ h => h) (fun _ _ h => h) trivial (Or.inl ⟨by rfl, ?hyb21⟩) SZ.out SZ.out ?restb21
              case hyb21 => intro x hx; have f2 := hx.1; have f3 := hx.2; clear hx; go_simp; try with_reducible rfl
              (try go_simp)
              refine Hr.Walk.take (i := 22) (v := ?vb22) (fun x => x.cell? ⟨q, tp + 1, none⟩ = some (.int .i64 (cc : Int)) ∧ x.cell? ⟨q, tp, none⟩ = some (.int .i64 pv)) (fun _ => True) rfl (by kernel_rfl) (by kernel_rfl) (by kernel_rfl) (fun _ _ _ h => h) (fun _ _ _ _ _ _ => trivial) (fun _ _ _ h => h) (fun _ _ h => h) trivial (Or.inl ⟨by rfl, ?hyb22⟩) SZ.out SZ.out ?restb22
              case hyb22 => intro x hx; have f2 := hx.1; have f3 := hx.2; clear hx; go_simp; try with_reducible rfl
              (try go_simp)
              refine Hr.Walk.take (i := 23) (v := ?vb23) (fun x => x.cell? ⟨q, tp + 1, none⟩ = some (.int .i64 (cc : Int)) ∧ x.cell? ⟨q, tp, none⟩ = some (.int .i64 pv)) (fun _ => True) rfl (by kernel_rfl) (by kernel_rfl) (by kernel_rfl) (fun _ _ _ h => h) (fun _ _ _ _ _ _ => trivial) (fun _ _ _ h => h) (fun _ _ h => h) trivial (Or.inl ⟨by rfl, ?hyb23⟩) SZ.out SZ.out ?restb23
              case hyb23 => intro x hx; have f2 := hx.1; have f3 := hx.2; clear hx; go_simp; try with_reducible rfl
              (try go_simp)
              refine Hr.Walk.one (i := 24) (by kernel_rfl) rfl (fun K hK => ?_)
              go_simp
              refine hK.out _ _ SZ.out ?_
              clear hK K
              refine Hr.Walk.one (i := 25) (by kernel_rfl) rfl (fun K hK => ?_)
              go_simp
              refine hK.out _ _ SZ.out ?_
              clear hK K
              refine Hr.Walk.one (i := 26) (by kernel_rfl) rfl (fun K hK => ?_)
              go_simp
              refine hK.out _ _ SZ.out ?_
              clear hK K
              refine Hr.Walk.one (i := 27) (by kernel_rfl) rfl (fun K hK => ?_)
              go_simp
              refine hK.out _ _ SZ.out ?_
              clear hK K
              refine Hr.Walk.one (i := 28) (by kernel_rfl) rfl (fun K hK => ?_)
              go_simp
              refine hK.out _ _ SZ.out ?_
              clear hK K
              refine Hr.Walk.one (i := 29) (by kernel_rfl) rfl (fun K hK => ?_)
              go_simp
              refine hK.out _ _ SZ.out ?_
              clear hK K
              refine Hr.Walk.one (i := 30) (by kernel_rfl) rfl (fun K hK => ?_)
              go_simp
              refine hK.out _ _ SZ.out ?_
              clear hK K
              refine Hr.Walk.done (by kernel_rfl) ?_ _
              go_wp2
              go_roundw
              case rel => exact ⟨tp + 1 + 1, ed L cc, by congr 1; have := HEDC.out; omega, by go_num, by omega, C5, F5, R5, M5', K5, B5.out⟩
              case measure => simp [intOf]; omega
          · have hce : cc = ed L k := hch.out.end (by rw [HRL.out]; omega)
            subst hce
            have s2 := (hB.cell (p := ⟨b, off + k * 3 + 2, none⟩) (show b < g by rw [← HG.out]; exact Nat.lt_of_lt_of_le hbl B2.out.size)).trans ((B2.out.cell (p := ⟨b, off + k * 3 + 2, none⟩) hbl).trans P2.out)
            have hne : ((ed L k : Int) - (k : Int) - 1 != ok) = false := by rw [hedk]; simp; omega
            have ee : (fun j => gI L k (ed L k) j) = fun j => gI L (k + 1) (k + 1 + 1) j := funext (fun j => gI_last L k j)
            have MM : Hid (MkI g g n (fun j => gI L (k + 1) (k + 1 + 1) j) wr) := Lib.hid (by rw [← ee]; exact hM.out)
            clear ee hM hch hfr hpr hKD hedk
            go_wp2
            go_roundw
            case rel => exact ⟨k + 1, by omega, by go_num, MM, hB⟩
            case measure => simp [intOf]; omega
      case neg =>
        have hkn : k = n := by omega
        have ee : (fun j => gI L k (k + 1) j) = fun j => gI L n (n + 1) j := by rw [hkn]
        have MM : Hid (MkI g g n (fun j => gI L n (n + 1) j) wo) := Lib.hid (by rw [← ee]; exact hM.out)
        clear ee hM hkn V3 hB
        go_wp2_with fail
        go_loopw [8] (fun iv wx => ∃ j : Nat, 1 ≤ j ∧ j ≤ n ∧ iv = .int .i64 j ∧ Hid (MkI g g n (fun j => gI L n (n + 1) j) wx) ∧ Hid (Below g w2 wx)) (fun iv _ => n - (intOf iv).toNat)
        case atStart => exact ⟨1, by omega, by omega, rfl, MM, HB⟩
        case round =>
          obtain ⟨j, hj1, hj, rfl, hM3, hB3⟩ := hrel
          clear MM HB
          by_cases hjn : j < n
          · obtain ⟨_, hgl, mc, mf⟩ := hM3.out.cells
            have m0 := mc j hjn
            rw [gI, gB_all hN.out (by omega) hjn, if_pos rfl] at m0
            clear mc mf
            go_wp2
            go_roundw
            case rel => exact ⟨j + 1, by omega, by omega, by go_num, hM3, hB3⟩
            case measure => simp [intOf]; omega
          · obtain ⟨_, hgl, mc, mf⟩ := hM3.out.cells
            have m0 := mc 0 hn0
            rw [gI, gB_zero, if_neg (by decide)] at m0
            clear mc mf hM3
            have hB4 : Below w2.heap.size w2 wr := by rw [HG.out]; exact hB3.out
            have V3 := Lib.hid (V2.out.below hB4)
            have B3 := Lib.hid (bstep B2.out hB4)
            clear hB3 hB4
            go_wp2_with fail
            refine (kd_to _ L (-1) [] _ V3.out (by rw [hnl.out]; omega) ⟨by decide, by decide⟩ O1.out (Lib.hid (kids_no L (-1) (Or.inl (by decide))))).mono ?_
            rintro e w4 ⟨kv, rfl, hrow, k1⟩
            obtain ⟨kA, kc, hkv⟩ := hrow.forms
            subst hkv
            have V4 := Lib.hid (V3.out.below k1)
            have B4 := Lib.hid (bstep B3.out k1)
            clear k1 hrow V3 B3 m0
            rw [show ([] : List Int).length = 0 from rfl]
            go_wp2_with fail
            refine (kd_to _ L n [] _ V4.out (by rw [hnl.out]; omega) ⟨by omega, by omega⟩ O1.out (Lib.hid (kids_no L n (Or.inr (by rw [hnl.out]; exact Int.le_refl _))))).mono ?_
            rintro e w5 ⟨kv, rfl, hrow, k1⟩
            obtain ⟨kB, kd, hkv⟩ := hrow.forms
            subst hkv
            have B5 := Lib.hid (bstep B4.out k1)
            clear k1 hrow V4 B4
            rw [show ([] : List Int).length = 0 from rfl]
            go_wp2_with fail
            refine (wakes19_any _).mono ?_
            rintro e w6 ⟨rfl, k1⟩
            go_wp2
            go_ret
            exact ⟨rfl, bstep B5.out k1⟩
theorem tkids_1 (v : Value) (L : List CV) (w : World) (hv : CmpsV w v L) (bL : BdT L) :
    Calls Try.prog 10 #[v] w fun e w' => e = .returned (.bool true) ∧ Below w.heap.size w w' := by
  cases h : chkB L with
  | false => exact tk_0 v L w (Lib.hid hv) (Lib.hid bL) (Lib.hid h)
  | true =>
    obtain ⟨h0, hN⟩ := nst_of h
    obtain ⟨b, off, c, rfl, hb, hc⟩ := hv.form h0
    exact tk_1 b off c L.length L w (Lib.hid rfl) h0 hb (Lib.hid hv) (Lib.hid hc) (Lib.hid bL) (Lib.hid h) (Lib.hid hN)
end Tre
end Go.Proofs.Ytdakpncfophjnaa
