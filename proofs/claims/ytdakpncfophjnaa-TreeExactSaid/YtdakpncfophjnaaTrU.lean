/-
  Package tree: build of whatever lines. (Written by gen/gen_tru.py.)
-/
import Derived.Test.YtdakpncfophjnaaBdAD
import Derived.Test.YtdakpncfophjnaaHeldR
import Derived.Lib.QuietBelow
import Derived.Deep.RegionHeldLaw
namespace Go.Proofs.Ytdakpncfophjnaa
open Go.RowKit
namespace Tre
open Lin CutB Cel Ap
open Opn (TxtV)
def KI (K : List Nat) : List Int := (K.map Int.ofNat).reverse
theorem KI_cons (k : Nat) (K : List Nat) : KI (k :: K) = KI K ++ [(k : Int)] := by rw [KI, KI, List.map_cons, List.reverse_cons]; rfl
theorem KI_len (K : List Nat) : (KI K).length = K.length := by simp [KI]
end Tre
namespace Ap
open Tre Lin CutB Cel
theorem RowI.pop {B : Nat} {w : World} {g c : Nat} {x : Int} {L : List Int} (h : RowI B w (.slice (some ⟨g, 0, none⟩) (L.length + 1) c) (L ++ [x])) : RowI B w (.slice (some ⟨g, 0, none⟩) L.length c) L := by
  unfold RowI at h ⊢
  rw [List.length_append, List.map_append] at h
  exact ownsRow_pop (by simp) h
end Ap
namespace Tre
open Lin CutB Cel Ap
open Opn (TxtV)
end Tre
namespace Ap
open Tre Lin CutB Cel
theorem RowI.topK {B : Nat} {w : World} {v : Value} {k : Nat} {K : List Nat} (h : RowI B w v (KI (k :: K))) : ∃ g c, v = .slice (some ⟨g, 0, none⟩) (K.length + 1) c ∧ g < w.heap.size ∧ w.cell? ⟨g, K.length, none⟩ = some (.int .i64 (k : Int)) := by
  obtain ⟨g, c, hv, _, hl, hc, _⟩ := h.form (by rw [KI_len]; simp)
  rw [KI_len] at hv
  refine ⟨g, c, hv, hl, ?_⟩
  have h1 := hc K.length (by rw [KI_len]; simp)
  rw [h1]
  congr 2
  simp [KI_cons, KI_len]
end Ap
namespace Tre
open Lin CutB Cel Ap
open Opn (TxtV)
theorem CmpR.row {B : Nat} {w0 w : World} {v : Value} {C : List CV} (h : CmpR B w0 w v C) : ∃ xs, w.ownsRow B 63 3 v C.length xs := by
  obtain ⟨us, _, h2, _⟩ := h
  exact ⟨_, h2⟩
theorem CmpR.grewI {B : Nat} {w0 w w' : World} {v u : Value} {n : Nat} {xs : List Value} {C : List CV} (h : CmpR B w0 w v C) (hg : Grew B u w w') (hown : w.ownsRow B 3 1 u n xs) : CmpR B w0 w' v C := by
  obtain ⟨us, h1, h2, h3, h4⟩ := h
  refine ⟨us, h1, hg.other _ _ _ _ _ _ (Rws.apart h2 hown (by decide)) h2, fun j hj q hq => ?_, h4⟩
  obtain ⟨us', q1, q2, q3⟩ := h3 j hj q hq
  exact ⟨us', q1, hg.other _ _ _ _ _ _ (Rws.apart q2 hown (by decide)) q2, q3⟩
end Tre
namespace Ap
open Tre Lin CutB Cel
theorem RowI.grewC {B : Nat} {w0 w w' : World} {v u : Value} {L : List Int} {C : List CV} (h : RowI B w v L) (hg : Grew B u w w') (hC : CmpR B w0 w u C) : RowI B w' v L := by
  obtain ⟨xs, hx⟩ := hC.row
  exact hg.other _ _ _ _ _ _ (Rws.apart h hx (by decide)) h
end Ap
namespace Tre
open Lin CutB Cel Ap
open Opn (TxtV)
end Tre
namespace Ap
open Tre Lin CutB Cel
theorem RowI.setC {B g i n c : Nat} {w0 w : World} {v x : Value} {L : List Int} {C : List CV} (h : RowI B w v L) (hC : CmpR B w0 w (.slice (some ⟨g, 0, none⟩) n c) C) : RowI B (w.setCell ⟨g, i, none⟩ x) v L := by
  obtain ⟨xs, hx⟩ := hC.row
  refine ownsRow_setCell_other h (fun e => ?_) x
  rcases Rws.apart h hx (by decide) with z | z
  · rw [z] at e; cases e
  · exact z e
end Ap
namespace Tre
open Lin CutB Cel Ap
open Opn (TxtV)
end Tre
namespace Ap
open Tre Lin CutB Cel
theorem RowI.grownL {B : Nat} {w0 w w' : World} {v u : Value} {L : List Int} {M : List LV} {ob : Obj} (h : RowI B w v L) (hg : (w.alloc ob).grownBy w' u.ownBlock) (hL : LinR B w0 w u M) : RowI B w' v L := by
  obtain ⟨us, _, hx, _⟩ := hL
  exact (World.ownsRow.alloc h ob).kept hg (Rws.apart h hx (by decide))
end Ap
namespace Tre
open Lin CutB Cel Ap
open Opn (TxtV)
theorem bd_cons (x : LV) (xs : List LV) (C : List CV) (K : List Nat) : bdG (x :: xs) C K = if (smN x.nm bgL || smN x.nm enL) = true ∧ x.ps ≠ [] then none else
    if smN x.nm bgL = true then (if K = [] ∧ C ≠ [] then none else bdG xs (C ++ [⟨x.vl, [], 0⟩]) (C.length :: K)) else
    match K with
    | [] => none
    | k :: K' =>
      if smN x.nm enL = true then (if smN x.vl (nmAt C k) = true then bdG xs (C.modify k (setO ((C.length : Int) - 1 - k))) K' else none)
      else bdG xs (C.modify k (addL x)) K := by
  rw [bdG.eq_def]
  cases K <;> rfl
theorem be_no (nm : List UInt8) (h : smN nm bgL = true) : smN nm enL = false := by
  rw [smN] at h ⊢
  have h1 := (of_decide_eq_true h).1
  refine decide_eq_false (fun h2 => ?_)
  have := h2.1
  simp [bgL, enL] at h1 this
  omega
theorem nmAt_k (C : List CV) (k : Nat) (h : k < C.length) : nmAt C (k : Int) = (C[k]).nm := by
  rw [nmAt, Int.toNat_natCast, List.getElem?_eq_getElem h]; rfl
/-- What build hands back. -/
def BdQ (o : Option (List CV)) (w : World) (e : Ending) (w' : World) : Prop := ∃ A n c ok, e = .returned (.tuple #[.slice A n c, .bool ok]) ∧ Hid (match o with | none => ok = false | some C => ok = true ∧ CmpsV w' (.slice A n c) C) ∧ Below w.heap.size w w'
theorem bq_no (w w' : World) (A : Option Addr) (n c : Nat) (o : Option (List CV)) (h : none = o) (hb : Below w.heap.size w w') : BdQ o w (.returned (.tuple #[.slice A n c, .bool false])) w' := by
  subst h
  exact ⟨A, n, c, false, rfl, Lib.hid rfl, hb⟩
/-- What holds ahead of each line. -/
def BdS (w : World) (C : List CV) (K : List Nat) (A : Option Addr) (cn cp : Nat) (A2 : Option Addr) (kn cp2 : Nat) (wr : World) : Prop := C.length = cn ∧ K.length = kn ∧ (∀ x ∈ K, x < cn) ∧ CmpR w.heap.size w wr (.slice A cn cp) C ∧ RowI w.heap.size wr (.slice A2 kn cp2) (KI K) ∧ Below w.heap.size w wr
theorem BdS.below {w : World} {C : List CV} {K : List Nat} {A : Option Addr} {cn cp : Nat} {A2 : Option Addr} {kn cp2 : Nat} {wr w' : World} (h : BdS w C K A cn cp A2 kn cp2 wr) (hb : Below wr.heap.size wr w') : BdS w C K A cn cp A2 kn cp2 w' := by
  obtain ⟨h1, h2, h3, h4, h5, h6⟩ := h
  exact ⟨h1, h2, h3, h4.below hb, h5.below hb, bstep h6 hb⟩
theorem own_far' {w : World} {B : Nat} {e T : TypeId} {size : Nat} {v : Value} {n : Nat} {xs : List Value} {b : Nat} {cs : Array Value} {fr : Nat × Nat} (hown : w.ownsRow B e size v n xs) (hb : w.heap[b]? = some (.cells cs T fr)) (hTe : T ≠ e) : v.ownBlock ≠ some b := by
  rcases hown.2 with ⟨rfl, _⟩ | ⟨g, cap, cur, rfl, _, hg, _⟩
  · simp [Value.ownBlock]
  · intro h
    simp only [Value.ownBlock, Option.some.injEq] at h
    subst h
    rw [hg] at hb
    simp only [Option.some.injEq, Obj.cells.injEq] at hb
    exact hTe hb.2.1.symm
/-- The components' row keeps its block while a line is put into one of them. -/
theorem CmpR.addL0 {B g n c : Nat} {w0 w w' : World} {C : List CV} {u : Value} {M : List LV} {ob : Obj} (h : CmpR B w0 w (.slice (some ⟨g, 0, none⟩) n c) C) (hg : (w.alloc ob).grownBy w' u.ownBlock) (hL : LinR B w0 w u M) : ∃ xs, w'.ownsRow B 63 3 (.slice (some ⟨g, 0, none⟩) n c) C.length xs := by
  obtain ⟨us, _, h2, _⟩ := h
  obtain ⟨_, _, hx, _⟩ := hL
  exact ⟨_, (h2.alloc ob).kept hg (Rws.apart h2 hx (by decide))⟩
end Tre
namespace Ap
open Tre Lin CutB Cel
theorem RowI.setR {B g i n c m : Nat} {w : World} {v x : Value} {L : List Int} (h : RowI B w v L) (hC : ∃ xs, w.ownsRow B 63 3 (.slice (some ⟨g, 0, none⟩) n c) m xs) : RowI B (w.setCell ⟨g, i, none⟩ x) v L := by
  obtain ⟨xs, hx⟩ := hC
  refine ownsRow_setCell_other h (fun e => ?_) x
  rcases Rws.apart h hx (by decide) with z | z
  · rw [z] at e; cases e
  · exact z e
end Ap
namespace Tre
open Lin CutB Cel Ap
open Opn (TxtV)
theorem mod_all2 (C : List CV) (k : Nat) (f : CV → CV) (P Q : CV → Prop) (h : ∀ c ∈ C, P c) (hp : ∀ c, P c → Q c) (hf : ∀ c, P c → Q (f c)) : ∀ c ∈ C.modify k f, Q c := by
  intro c hc
  obtain ⟨j, hj, rfl⟩ := List.mem_iff_getElem.1 hc
  rw [List.length_modify] at hj
  rw [List.getElem_modify]
  split
  · exact hf _ (h _ (List.getElem_mem hj))
  · exact hp _ (h _ (List.getElem_mem hj))
theorem mod_all (C : List CV) (k : Nat) (f : CV → CV) (P : CV → Prop) (h : ∀ c ∈ C, P c) (hf : ∀ c, P c → P (f c)) : ∀ c ∈ C.modify k f, P c := mod_all2 C k f P P h (fun _ h => h) hf
set_option maxHeartbeats 51200000 in
set_option maxRecDepth 100000 in
theorem bd_ok (A0 : Option Addr) (n c0 : Nat) (L : List LV) (o : Option (List CV)) (w : World) (hv : Hid (LinsV w (.slice A0 n c0) L)) (hn : n ≤ 1000000) (hnl : Hid (L.length = n)) (hsm : Hid (∀ l ∈ L, smlL l)) (hR : Hid (bdG L [] [] = o)) :
    Calls Try.prog 57 #[.slice A0 n c0] w (BdQ o w) := by
  go_enter Try.func57, Try.ntmps57
  go_wp2_with fail
  go_loopw [4, 5, 13] (fun lv sv iv wr => ∃ (k : Nat) (C : List CV) (K : List Nat) (A : Option Addr) (cn cp : Nat) (A2 : Option Addr) (kn cp2 : Nat), lv = .slice A cn cp ∧ sv = .slice A2 kn cp2 ∧ iv = .int .i64 k ∧ k ≤ n ∧ cn ≤ k ∧ kn ≤ k ∧ Hid (bdG (L.drop k) C K = o) ∧ Hid (BdS w C K A cn cp A2 kn cp2 wr) ∧ Hid (∀ c ∈ C, c.nm.length ≤ 1000000) ∧ Hid (∀ c ∈ C, c.ls.length ≤ k)) (fun _ _ iv _ => n - (intOf iv).toNat)
  case atStart => exact ⟨0, [], [], none, 0, 0, none, 0, 0, rfl, rfl, rfl, by omega, by omega, by omega, hR, Lib.hid ⟨rfl, rfl, by simp, CmpR.nil _ _ _, RowI.nil _ _, Below.refl _ _⟩, Lib.hid (by simp), Lib.hid (by simp)⟩
  case round =>
    obtain ⟨k, C, K, A, cn, cp, A2, kn, cp2, rfl, rfl, rfl, hk, hcnk, hknk, hG, hS, HNS, HLS⟩ := hrel
    obtain ⟨wo, rfl⟩ : ∃ wo : World, wo = wr := ⟨_, rfl⟩
    by_cases hlt : k < n
    · have hkl : k < L.length := by rw [hnl.out]; exact hlt
      obtain ⟨bl, off, cl0, hAv, hbl, hlc⟩ := hv.out.form (by omega)
      have hA : A0 = some ⟨bl, off, none⟩ := by injection hAv
      subst hA
      obtain ⟨sv, e0, e1, e2, hpv⟩ := hlc k hkl
      obtain ⟨pa, pn, pc, hsv, hpn, _⟩ := id hpv
      subst hsv
      have hG' := hG.out
      rw [List.drop_eq_getElem_cons hkl, bd_cons] at hG'
      have HSM := Lib.hid (hsm.out _ (List.getElem_mem hkl))
      obtain ⟨l, hl⟩ : ∃ l, L[k]'hkl = l := ⟨_, rfl⟩
      rw [hl] at e0 e2 hpv hpn hG' HSM
      obtain ⟨X0, hX0⟩ : ∃ X : ByteArray, ⟨l.nm.toArray⟩ = X := ⟨_, rfl⟩
      obtain ⟨X2, hX2⟩ : ∃ X : ByteArray, ⟨l.vl.toArray⟩ = X := ⟨_, rfl⟩
      rw [hX0] at e0
      rw [hX2] at e2
      have H0 := Lib.hid hX0.symm
      have H2 := Lib.hid hX2.symm
      have HPV := Lib.hid hpv
      have HPN := Lib.hid hpn
      have hBo := hS.out.2.2.2.2.2
      have f0 := (hBo.cell (p := ⟨bl, off + k * 3, none⟩) hbl).trans e0
      have f1 := (hBo.cell (p := ⟨bl, off + k * 3 + 1, none⟩) hbl).trans e1
      have f2 := (hBo.cell (p := ⟨bl, off + k * 3 + 2, none⟩) hbl).trans e2
      have HNSV : Hid (∀ c ∈ C ++ [(⟨l.vl, [], 0⟩ : CV)], c.nm.length ≤ 1000000) := Lib.hid (fun c hc => by
        rcases List.mem_append.1 hc with h | h
        · exact HNS.out c h
        · rw [List.mem_singleton.1 h]; exact HSM.out.2.1)
      have HLSV : Hid (∀ c ∈ C ++ [(⟨l.vl, [], 0⟩ : CV)], c.ls.length ≤ k + 1) := Lib.hid (fun c hc => by
        rcases List.mem_append.1 hc with h | h
        · have := HLS.out c h; omega
        · rw [List.mem_singleton.1 h]; simp)
      have HNSO : ∀ (k0 : Nat) (m : Int), Hid (∀ c ∈ C.modify k0 (setO m), c.nm.length ≤ 1000000) := fun k0 m => Lib.hid (mod_all C k0 (setO m) (fun c => c.nm.length ≤ 1000000) HNS.out (fun c h => h))
      have HLSO : ∀ (k0 : Nat) (m : Int), Hid (∀ c ∈ C.modify k0 (setO m), c.ls.length ≤ k + 1) := fun k0 m => Lib.hid (mod_all C k0 (setO m) (fun c => c.ls.length ≤ k + 1) (fun c hc => by have := HLS.out c hc; omega) (fun c h => h))
      have HNSL : ∀ (k0 : Nat), Hid (∀ c ∈ C.modify k0 (addL l), c.nm.length ≤ 1000000) := fun k0 => Lib.hid (mod_all C k0 (addL l) (fun c => c.nm.length ≤ 1000000) HNS.out (fun c h => h))
      have HLSL : ∀ (k0 : Nat), Hid (∀ c ∈ C.modify k0 (addL l), c.ls.length ≤ k + 1) := fun k0 => Lib.hid (mod_all2 C k0 (addL l) (fun c => c.ls.length ≤ k) (fun c => c.ls.length ≤ k + 1) HLS.out (fun c h => by omega) (fun c h => by show (c.ls ++ [l]).length ≤ _; rw [List.length_append]; simp only [List.length_cons, List.length_nil]; omega))
      clear e0 e1 e2 hpv hX0 hX2 hl hlc hAv hBo hpn
      cases h1 : smN l.nm bgL with
      | true =>
        have h2 := be_no l.nm h1
        have N1 := Lib.hid h1
        have N2 := Lib.hid h2
        rw [h1, h2, if_pos rfl] at hG'
        clear h1 h2
        go_upto_region 6 with fail
        have hbW : Below wo.heap.size wo (wo.alloc (Obj.cells #[.string X0, .slice pa pn pc, .string X2] 24)) := (Below.refl _ _).alloc (Nat.le_refl _) _
        have D0 := Lib.hid (Cs.new wo [.string X0, .slice pa pn pc, .string X2] 24)
        obtain ⟨W, hW⟩ : ∃ x, wo.alloc (Obj.cells #[.string X0, .slice pa pn pc, .string X2] 24) = x := ⟨_, rfl⟩
        have HLW : Hid ((wo.alloc (Obj.cells #[.string X0, .slice pa pn pc, .string X2] 24)).heap[wo.heap.size]? = some (.cells #[.string X0, .slice pa pn pc, .string X2] 24 (0, 0))) := Lib.hid (heap_alloc_new wo _)
        rw [hW] at hbW D0 HLW ⊢
        have z0 := (D0.out.2 0 _ rfl).1
        have cz0 := cell_regrown z0
        have d1 := Lib.hid (fun dd os => Calls.regrown_of (sn_to X0 l.nm bgL ⟨#[66, 69, 71, 73, 78]⟩ true (Sort.grow (redrawn W dd) os) H0.out rfl (by have := HSM.out.1; omega) (by decide) N1))
        have d2 := Lib.hid (fun dd os => Calls.regrown_of (sn_to X0 l.nm enL ⟨#[69, 78, 68]⟩ false (Sort.grow (redrawn W dd) os) H0.out rfl (by have := HSM.out.1; omega) (by decide) N2))
        clear hW
        refine wp_region_quiet_below (by kernel_rfl) (by kernel_rfl) ?_
        repeat (quiet_step (first | with_reducible exact d1.out _ _ | with_reducible exact d2.out _ _))
        refine wpQuiet_nil ?_
        intro w' hw'
        obtain ⟨⟨dq, osq⟩, rfl⟩ := hw'
        have hz := bstep hbW (below_regrown W dq osq)
        have D1 := Lib.hid (D0.out.below (below_regrown W dq osq))
        obtain ⟨wq, hwq⟩ : ∃ x, Sort.grow (redrawn W dq) osq = x := ⟨_, rfl⟩
        rw [hwq] at hz D1 ⊢
        have ST := Lib.hid (hS.out.below hz)
        have HLB : Hid (∃ cur, wq.heap[wo.heap.size]? = some (.cells cur 24 (0, 0))) := Lib.hid ⟨_, by rw [← hwq, (below_regrown W dq osq).block wo.heap.size (D0.out.1)]; exact HLW.out⟩
        have gq := D1.out.1
        have y0 := (D1.out.2 0 _ rfl).1
        have y1 := (D1.out.2 1 _ rfl).1
        have y2 := (D1.out.2 2 _ rfl).1
        have HZ := Lib.hid hz
        clear hwq hbW D0 z0 cz0 d1 d2 hz
        by_cases hp : pn = 0
        · subst hp
          have hps : l.ps = [] := List.eq_nil_of_length_eq_zero HPN.out.symm
          rw [if_neg (by rw [hps]; simp)] at hG'
          by_cases hkz : kn = 0
          · subst hkz
            have hKe : K = [] := List.eq_nil_of_length_eq_zero ST.out.2.1
            by_cases hcz : cn = 0
            · subst hcz
              have hCe : C = [] := List.eq_nil_of_length_eq_zero ST.out.1
              rw [if_neg (by rw [hCe]; simp)] at hG'
              have HG2 := Lib.hid hG'
              clear hG' hps hKe hCe
              have hcl := ST.out.1
              have hkl2 := ST.out.2.1
              have HCL := Lib.hid hcl
              have HKL := Lib.hid hkl2
              have sB := ST.out.2.2.2.2.2.size
              clear hcl hkl2
              go_wp2_with (at_builtin; refine appI rfl _ _ rfl w.heap.size _ (KI K) rfl ST.out.2.2.2.2.1 0 rfl (by rw [KI_len, HKL.out]; omega) sB ?_)
              intro w5 g5 c5 r5 gr5
              have CR5 := Lib.hid (ST.out.2.2.2.1.grewI gr5 ST.out.2.2.2.2.1)
              have B5 := Lib.hid (gr5.below _ _ (Nat.le_refl _) ST.out.2.2.2.2.2 sB)
              have RI5 : Hid (RowI w.heap.size w5 (.slice (some ⟨g5, 0, none⟩) (0 + 1) c5) (KI (C.length :: K))) := Lib.hid (by
                have h := r5
                rw [KI_len, HKL.out] at h
                rw [KI_cons, HCL.out]
                exact h)
              rw [KI_len, HKL.out]
              have D5 : Hid (Cs wo.heap.size w5 [.string X0, .slice pa 0 pc, .string X2]) := Lib.hid ⟨Nat.lt_of_lt_of_le gq gr5.size, fun i v hv => by
                have hne : some wo.heap.size ≠ (Value.slice A2 0 cp2).ownBlock := by
                  intro e
                  have hob := (show (Value.slice A2 0 cp2).ownBlock ≠ some wo.heap.size from fun e2 => by
                    obtain ⟨cur, hcur⟩ : ∃ cur, wq.heap[wo.heap.size]? = some (.cells cur 24 (0, 0)) := HLB.out
                    exact own_far' ST.out.2.2.2.2.1 hcur (by decide) e2)
                  exact hob e.symm
                exact ⟨(gr5.cell (p := ⟨wo.heap.size, i, none⟩) gq hne).trans (D1.out.2 i v hv).1, (gr5.frozen (p := ⟨wo.heap.size, i, none⟩) gq hne).trans (D1.out.2 i v hv).2⟩⟩
              have g5q := D5.out.1
              have x2 := (D5.out.2 2 _ rfl).1
              have sB5 := B5.out.size
              clear r5 gr5 y0 y1 y2
              go_wp2_with (at_builtin; refine appC rfl _ _ rfl w.heap.size w _ C rfl CR5.out l.vl X2 H2.out rfl (by rw [HCL.out]; omega) sB5 ?_)
              intro w6 g6 c6 r6 gr6
              have RI6 := Lib.hid (RI5.out.grewC gr6 CR5.out)
              have B6 := Lib.hid (gr6.below _ _ (Nat.le_refl _) B5.out sB5)
              have CR6 := Lib.hid r6
              rw [HCL.out] at CR6 ⊢
              clear r6 gr6
              have HS6 : Hid (BdS w (C ++ [⟨l.vl, [], 0⟩]) (C.length :: K) (some ⟨g6, 0, none⟩) (0 + 1) c6 (some ⟨g5, 0, none⟩) (0 + 1) c5 w6) := Lib.hid ⟨by rw [List.length_append, HCL.out]; rfl, by rw [List.length_cons, HKL.out], fun x hx => by
                rcases List.mem_cons.1 hx with rfl | hx
                · rw [HCL.out]; omega
                · have := ST.out.2.2.1 x hx; omega, CR6.out, RI6.out, B6.out⟩
              go_wp2
              go_roundw
              case rel => exact ⟨k + 1, C ++ [⟨l.vl, [], 0⟩], C.length :: K, some ⟨g6, 0, none⟩, 0 + 1, c6, some ⟨g5, 0, none⟩, 0 + 1, c5, by first | rfl | go_num, by first | rfl | go_num, by go_num, by omega, by omega, by omega, HG2, HS6, HNSV, HLSV⟩
              case measure => simp [intOf]; omega
            · have HR : Hid (none = o) := Lib.hid (by
                rw [if_pos ⟨hKe, fun e => hcz (by rw [← ST.out.1, e]; rfl)⟩] at hG'
                exact hG')
              have hcp : 0 < cn := by omega
              clear hG' hps hKe
              go_wp2
              go_ret2
              exact bq_no _ _ _ _ _ _ HR.out ST.out.2.2.2.2.2
          · rw [if_neg (fun e => hkz (by rw [← ST.out.2.1, e.1]; rfl))] at hG'
            have HG2 := Lib.hid hG'
            have hkp0 : ((kn : Int) == 0) = false := beq_eq_false_iff_ne.2 (by omega)
            clear hG' hps
            have hcl := ST.out.1
            have hkl2 := ST.out.2.1
            have HCL := Lib.hid hcl
            have HKL := Lib.hid hkl2
            have sB := ST.out.2.2.2.2.2.size
            clear hcl hkl2
            go_wp2_with (at_builtin; refine appI rfl _ _ rfl w.heap.size _ (KI K) rfl ST.out.2.2.2.2.1 (cn : Int) rfl (by rw [KI_len, HKL.out]; omega) sB ?_)
            intro w5 g5 c5 r5 gr5
            have CR5 := Lib.hid (ST.out.2.2.2.1.grewI gr5 ST.out.2.2.2.2.1)
            have B5 := Lib.hid (gr5.below _ _ (Nat.le_refl _) ST.out.2.2.2.2.2 sB)
            have RI5 : Hid (RowI w.heap.size w5 (.slice (some ⟨g5, 0, none⟩) (kn + 1) c5) (KI (C.length :: K))) := Lib.hid (by
              have h := r5
              rw [KI_len, HKL.out] at h
              rw [KI_cons, HCL.out]
              exact h)
            rw [KI_len, HKL.out]
            have D5 : Hid (Cs wo.heap.size w5 [.string X0, .slice pa 0 pc, .string X2]) := Lib.hid ⟨Nat.lt_of_lt_of_le gq gr5.size, fun i v hv => by
              have hne : some wo.heap.size ≠ (Value.slice A2 kn cp2).ownBlock := by
                intro e
                have hob := (show (Value.slice A2 kn cp2).ownBlock ≠ some wo.heap.size from fun e2 => by
                  obtain ⟨cur, hcur⟩ : ∃ cur, wq.heap[wo.heap.size]? = some (.cells cur 24 (0, 0)) := HLB.out
                  exact own_far' ST.out.2.2.2.2.1 hcur (by decide) e2)
                exact hob e.symm
              exact ⟨(gr5.cell (p := ⟨wo.heap.size, i, none⟩) gq hne).trans (D1.out.2 i v hv).1, (gr5.frozen (p := ⟨wo.heap.size, i, none⟩) gq hne).trans (D1.out.2 i v hv).2⟩⟩
            have g5q := D5.out.1
            have x2 := (D5.out.2 2 _ rfl).1
            have sB5 := B5.out.size
            clear r5 gr5 y0 y1 y2
            go_wp2_with (at_builtin; refine appC rfl _ _ rfl w.heap.size w _ C rfl CR5.out l.vl X2 H2.out rfl (by rw [HCL.out]; omega) sB5 ?_)
            intro w6 g6 c6 r6 gr6
            have RI6 := Lib.hid (RI5.out.grewC gr6 CR5.out)
            have B6 := Lib.hid (gr6.below _ _ (Nat.le_refl _) B5.out sB5)
            have CR6 := Lib.hid r6
            rw [HCL.out] at CR6 ⊢
            clear r6 gr6
            have HS6 : Hid (BdS w (C ++ [⟨l.vl, [], 0⟩]) (C.length :: K) (some ⟨g6, 0, none⟩) (cn + 1) c6 (some ⟨g5, 0, none⟩) (kn + 1) c5 w6) := Lib.hid ⟨by rw [List.length_append, HCL.out]; rfl, by rw [List.length_cons, HKL.out], fun x hx => by
              rcases List.mem_cons.1 hx with rfl | hx
              · rw [HCL.out]; omega
              · have := ST.out.2.2.1 x hx; omega, CR6.out, RI6.out, B6.out⟩
            go_wp2
            go_roundw
            case rel => exact ⟨k + 1, C ++ [⟨l.vl, [], 0⟩], C.length :: K, some ⟨g6, 0, none⟩, cn + 1, c6, some ⟨g5, 0, none⟩, kn + 1, c5, by first | rfl | go_num, by first | rfl | go_num, by go_num, by omega, by omega, by omega, HG2, HS6, HNSV, HLSV⟩
            case measure => simp [intOf]; omega
        · have HR : Hid (none = o) := Lib.hid (by
            rw [if_pos ⟨rfl, fun e => hp (by rw [HPN.out, e]; rfl)⟩] at hG'
            exact hG')
          have hpp : 0 < pn := by omega
          clear hG'
          go_wp2
          go_ret2
          exact bq_no _ _ _ _ _ _ HR.out ST.out.2.2.2.2.2
      | false =>
        cases h2 : smN l.nm enL with
        | true =>
          have N1 := Lib.hid h1
          have N2 := Lib.hid h2
          rw [h1, h2, if_neg (show ¬ (false = true) by decide)] at hG'
          clear h1 h2
          go_upto_region 6 with fail
          have hbW : Below wo.heap.size wo (wo.alloc (Obj.cells #[.string X0, .slice pa pn pc, .string X2] 24)) := (Below.refl _ _).alloc (Nat.le_refl _) _
          have D0 := Lib.hid (Cs.new wo [.string X0, .slice pa pn pc, .string X2] 24)
          obtain ⟨W, hW⟩ : ∃ x, wo.alloc (Obj.cells #[.string X0, .slice pa pn pc, .string X2] 24) = x := ⟨_, rfl⟩
          have HLW : Hid ((wo.alloc (Obj.cells #[.string X0, .slice pa pn pc, .string X2] 24)).heap[wo.heap.size]? = some (.cells #[.string X0, .slice pa pn pc, .string X2] 24 (0, 0))) := Lib.hid (heap_alloc_new wo _)
          rw [hW] at hbW D0 HLW ⊢
          have z0 := (D0.out.2 0 _ rfl).1
          have cz0 := cell_regrown z0
          have d1 := Lib.hid (fun dd os => Calls.regrown_of (sn_to X0 l.nm bgL ⟨#[66, 69, 71, 73, 78]⟩ false (Sort.grow (redrawn W dd) os) H0.out rfl (by have := HSM.out.1; omega) (by decide) N1))
          have d2 := Lib.hid (fun dd os => Calls.regrown_of (sn_to X0 l.nm enL ⟨#[69, 78, 68]⟩ true (Sort.grow (redrawn W dd) os) H0.out rfl (by have := HSM.out.1; omega) (by decide) N2))
          clear hW
          refine wp_region_quiet_below (by kernel_rfl) (by kernel_rfl) ?_
          repeat (quiet_step (first | with_reducible exact d1.out _ _ | with_reducible exact d2.out _ _))
          refine wpQuiet_nil ?_
          intro w' hw'
          obtain ⟨⟨dq, osq⟩, rfl⟩ := hw'
          have hz := bstep hbW (below_regrown W dq osq)
          have D1 := Lib.hid (D0.out.below (below_regrown W dq osq))
          obtain ⟨wq, hwq⟩ : ∃ x, Sort.grow (redrawn W dq) osq = x := ⟨_, rfl⟩
          rw [hwq] at hz D1 ⊢
          have ST := Lib.hid (hS.out.below hz)
          have HLB : Hid (∃ cur, wq.heap[wo.heap.size]? = some (.cells cur 24 (0, 0))) := Lib.hid ⟨_, by rw [← hwq, (below_regrown W dq osq).block wo.heap.size (D0.out.1)]; exact HLW.out⟩
          have gq := D1.out.1
          have y0 := (D1.out.2 0 _ rfl).1
          have y1 := (D1.out.2 1 _ rfl).1
          have y2 := (D1.out.2 2 _ rfl).1
          have HZ := Lib.hid hz
          clear hwq hbW D0 z0 cz0 d1 d2 hz
          by_cases hp : pn = 0
          · subst hp
            have hps : l.ps = [] := List.eq_nil_of_length_eq_zero HPN.out.symm
            rw [if_neg (by rw [hps]; simp)] at hG'
            by_cases hkz : kn = 0
            · subst hkz
              have hKe : K = [] := List.eq_nil_of_length_eq_zero ST.out.2.1
              have HR : Hid (none = o) := Lib.hid (by rw [hKe] at hG'; exact hG')
              clear hG' hps hKe
              go_wp2
              go_ret2
              exact bq_no _ _ _ _ _ _ HR.out ST.out.2.2.2.2.2
            · have hkp0 : ((kn : Int) == 0) = false := beq_eq_false_iff_ne.2 (by omega)
              have HG := Lib.hid hG'
              clear hG' hps
              obtain ⟨k0, K', rfl⟩ : ∃ k0 K', K = k0 :: K' := by
                cases K with
                | nil => exact absurd ST.out.2.1.symm (by simp; omega)
                | cons a b => exact ⟨a, b, rfl⟩
              obtain ⟨kp, hkp⟩ : ∃ x, K'.length = x := ⟨_, rfl⟩
              have HKP := Lib.hid hkp
              have hkn1 : kn = kp + 1 := by rw [← ST.out.2.1, ← hkp]; rfl
              subst hkn1
              have hk0 : k0 < cn := ST.out.2.2.1 k0 (by simp)
              have hk0C : k0 < C.length := by rw [ST.out.1]; exact hk0
              obtain ⟨gI, cI, hvI, hgI, tI⟩ := ST.out.2.2.2.2.1.topK
              rw [hkp] at hvI tI
              injection hvI with eI _ _
              subst eI
              obtain ⟨gC, cC, la, ln, lcp, hvC, hBC, hgC, n0, n1, n2, nf, hlin⟩ := ST.out.2.2.2.1.at hk0C
              rw [ST.out.1] at hvC
              injection hvC with eC _ _
              subst eC
              have nf0 := nf (k0 * 3 + 1)
              have nf2 := nf (k0 * 3 + 2)
              have HLIN := Lib.hid hlin
              obtain ⟨cm, hcm⟩ : ∃ c, C[k0]'hk0C = c := ⟨_, rfl⟩
              have HCM := Lib.hid hcm
              have HNM : Hid (nmAt C (k0 : Int) = cm.nm) := Lib.hid (by rw [nmAt_k C k0 hk0C, hcm])
              rw [hcm] at n0 n2 HLIN
              clear hkp nf hlin hcm
              obtain ⟨Z0, hZ0⟩ : ∃ X : ByteArray, ⟨cm.nm.toArray⟩ = X := ⟨_, rfl⟩
              rw [hZ0] at n0
              have HZ := Lib.hid hZ0.symm
              obtain ⟨b3, hb3⟩ : ∃ x, smN l.vl cm.nm = x := ⟨_, rfl⟩
              have N3 := Lib.hid hb3
              have HCNM : Hid (cm.nm.length ≤ 1000000) := Lib.hid (by rw [← HCM.out]; exact HNS.out _ (List.getElem_mem hk0C))
              clear hZ0 hb3
              go_wp2_with fail
              go_upto_region 17 with fail
              have cy2 := cell_regrown y2
              have cn0 := cell_regrown n0
              have d3 := Lib.hid (fun dd os => Calls.regrown_of (sn_to X2 l.vl cm.nm Z0 b3 (Sort.grow (redrawn wq dd) os) H2.out HZ.out HSM.out.2.1 HCNM.out N3))
              refine wp_region_quiet_below (by kernel_rfl) (by kernel_rfl) ?_
              repeat (quiet_step (first | with_reducible exact d3.out _ _))
              refine wpQuiet_nil ?_
              intro w' hw'
              obtain ⟨⟨dr, osr⟩, rfl⟩ := hw'
              have hz2 := below_regrown wq dr osr
              obtain ⟨ws, hws⟩ : ∃ x, Sort.grow (redrawn wq dr) osr = x := ⟨_, rfl⟩
              rw [hws] at hz2 ⊢
              have ST2 := Lib.hid (ST.out.below hz2)
              have tI2 := (hz2.cell (p := ⟨gI, _, none⟩) hgI).trans tI
              have n22 := (hz2.cell (p := ⟨gC, _, none⟩) hgC).trans n2
              have nf22 := (hz2.frozen (p := ⟨gC, _, none⟩) hgC).trans nf2
              clear hws cy2 cn0 d3 y0 y1 y2 n0 n1 n2 nf0 nf2 tI hz2
              cases b3 with
              | false =>
                have HR : Hid (none = o) := Lib.hid (by rw [← HG.out, HNM.out, N3.out]; rfl)
                go_wp2
                go_ret2
                exact bq_no _ _ _ _ _ _ HR.out ST2.out.2.2.2.2.2
              | true =>
                have HG2 : Hid (bdG (L.drop (k + 1)) (C.modify k0 (setO ((cn : Int) - 1 - k0))) K' = o) := Lib.hid (by rw [← HG.out, HNM.out, N3.out, ST.out.1]; rfl)
                have hcap : kp + 1 ≤ cp2 := (own_cap ST2.out.2.2.2.2.1).2.1
                have HSO : Hid (BdS w (C.modify k0 (setO ((cn : Int) - 1 - k0))) K' (some ⟨gC, 0, none⟩) cn cp (some ⟨gI, 0, none⟩) kp cp2 (ws.setCell ⟨gC, k0 * 3 + 2, none⟩ (.int .i64 ((cn : Int) - 1 - k0)))) := Lib.hid (by
                  obtain ⟨s1, s2, s3, s4, s5, s6⟩ := ST2.out
                  refine ⟨by rw [List.length_modify]; exact s1, HKP.out, fun x hx => s3 x (by simp [hx]), ?_, ?_, s6.setCell (p := ⟨gC, k0 * 3 + 2, none⟩) hBC _⟩
                  · have h := CmpR.setOwn (c := cp) k0 ((cn : Int) - 1 - k0) (by rw [s1]; exact s4)
                    rw [List.length_modify, s1] at h
                    exact h
                  · have h := s5
                    rw [KI_cons, ← HKP.out] at h
                    rw [← KI_len] at h
                    have h2 := h.pop
                    rw [KI_len, HKP.out] at h2
                    exact h2.setC s4)
                have w1 : IntKind.i64.wrap ((cn : Int) - 1 - (k0 : Int)) = (cn : Int) - 1 - (k0 : Int) := by rw [IntKind.wrap_i64]; omega
                have hcap2 : kp ≤ cp2 := by omega
                clear HG
                go_wp2
                go_roundw
                case rel => exact ⟨k + 1, _, K', some ⟨gC, 0, none⟩, cn, cp, some ⟨gI, 0, none⟩, kp, cp2, by first | rfl | go_num, by first | rfl | go_num, by go_num, by omega, by omega, by omega, HG2, HSO, HNSO _ _, HLSO _ _⟩
                case measure => simp [intOf]; omega
          · have HR : Hid (none = o) := Lib.hid (by
              rw [if_pos ⟨rfl, fun e => hp (by rw [HPN.out, e]; rfl)⟩] at hG'
              exact hG')
            have hpp : 0 < pn := by omega
            clear hG'
            go_wp2
            go_ret2
            exact bq_no _ _ _ _ _ _ HR.out ST.out.2.2.2.2.2
        | false =>
          have N1 := Lib.hid h1
          have N2 := Lib.hid h2
          rw [h1, h2, if_neg (by simp), if_neg (show ¬ (false = true) by decide)] at hG'
          clear h1 h2
          go_upto_region 6 with fail
          have hbW : Below wo.heap.size wo (wo.alloc (Obj.cells #[.string X0, .slice pa pn pc, .string X2] 24)) := (Below.refl _ _).alloc (Nat.le_refl _) _
          have D0 := Lib.hid (Cs.new wo [.string X0, .slice pa pn pc, .string X2] 24)
          obtain ⟨W, hW⟩ : ∃ x, wo.alloc (Obj.cells #[.string X0, .slice pa pn pc, .string X2] 24) = x := ⟨_, rfl⟩
          have HLW : Hid ((wo.alloc (Obj.cells #[.string X0, .slice pa pn pc, .string X2] 24)).heap[wo.heap.size]? = some (.cells #[.string X0, .slice pa pn pc, .string X2] 24 (0, 0))) := Lib.hid (heap_alloc_new wo _)
          rw [hW] at hbW D0 HLW ⊢
          have z0 := (D0.out.2 0 _ rfl).1
          have cz0 := cell_regrown z0
          have d1 := Lib.hid (fun dd os => Calls.regrown_of (sn_to X0 l.nm bgL ⟨#[66, 69, 71, 73, 78]⟩ false (Sort.grow (redrawn W dd) os) H0.out rfl (by have := HSM.out.1; omega) (by decide) N1))
          have d2 := Lib.hid (fun dd os => Calls.regrown_of (sn_to X0 l.nm enL ⟨#[69, 78, 68]⟩ false (Sort.grow (redrawn W dd) os) H0.out rfl (by have := HSM.out.1; omega) (by decide) N2))
          clear hW
          refine wp_region_quiet_below (by kernel_rfl) (by kernel_rfl) ?_
          repeat (quiet_step (first | with_reducible exact d1.out _ _ | with_reducible exact d2.out _ _))
          refine wpQuiet_nil ?_
          intro w' hw'
          obtain ⟨⟨dq, osq⟩, rfl⟩ := hw'
          have hz := bstep hbW (below_regrown W dq osq)
          have D1 := Lib.hid (D0.out.below (below_regrown W dq osq))
          obtain ⟨wq, hwq⟩ : ∃ x, Sort.grow (redrawn W dq) osq = x := ⟨_, rfl⟩
          rw [hwq] at hz D1 ⊢
          have ST := Lib.hid (hS.out.below hz)
          have HLB : Hid (∃ cur, wq.heap[wo.heap.size]? = some (.cells cur 24 (0, 0))) := Lib.hid ⟨_, by rw [← hwq, (below_regrown W dq osq).block wo.heap.size (D0.out.1)]; exact HLW.out⟩
          have gq := D1.out.1
          have y0 := (D1.out.2 0 _ rfl).1
          have y1 := (D1.out.2 1 _ rfl).1
          have y2 := (D1.out.2 2 _ rfl).1
          have HZ := Lib.hid hz
          clear hwq hbW D0 z0 cz0 d1 d2 hz
          by_cases hkz : kn = 0
          · subst hkz
            have hKe : K = [] := List.eq_nil_of_length_eq_zero ST.out.2.1
            have HR : Hid (none = o) := Lib.hid (by rw [hKe] at hG'; exact hG')
            clear hG' hKe
            go_wp2
            go_ret2
            exact bq_no _ _ _ _ _ _ HR.out ST.out.2.2.2.2.2
          · have hkp0 : ((kn : Int) == 0) = false := beq_eq_false_iff_ne.2 (by omega)
            have HG := Lib.hid hG'
            clear hG'
            obtain ⟨k0, K', rfl⟩ : ∃ k0 K', K = k0 :: K' := by
              cases K with
              | nil => exact absurd ST.out.2.1.symm (by simp; omega)
              | cons a b => exact ⟨a, b, rfl⟩
            obtain ⟨kp, hkp⟩ : ∃ x, K'.length = x := ⟨_, rfl⟩
            have HKP := Lib.hid hkp
            have hkn1 : kn = kp + 1 := by rw [← ST.out.2.1, ← hkp]; rfl
            subst hkn1
            have hk0 : k0 < cn := ST.out.2.2.1 k0 (by simp)
            have hk0C : k0 < C.length := by rw [ST.out.1]; exact hk0
            obtain ⟨gI, cI, hvI, hgI, tI⟩ := ST.out.2.2.2.2.1.topK
            rw [hkp] at hvI tI
            injection hvI with eI _ _
            subst eI
            obtain ⟨gC, cC, la, ln, lcp, hvC, hBC, hgC, n0, n1, n2, nf, hlin⟩ := ST.out.2.2.2.1.at hk0C
            rw [ST.out.1] at hvC
            injection hvC with eC _ _
            subst eC
            have nf0 := nf (k0 * 3 + 1)
            have nf2 := nf (k0 * 3 + 2)
            have HLIN := Lib.hid hlin
            obtain ⟨cm, hcm⟩ : ∃ c, C[k0]'hk0C = c := ⟨_, rfl⟩
            have HCM := Lib.hid hcm
            have HNM : Hid (nmAt C (k0 : Int) = cm.nm) := Lib.hid (by rw [nmAt_k C k0 hk0C, hcm])
            rw [hcm] at n0 n2 HLIN
            clear hkp nf hlin hcm
            have HG2 : Hid (bdG (L.drop (k + 1)) (C.modify k0 (addL l)) (k0 :: K') = o) := Lib.hid (by rw [← HG.out]; rfl)
            obtain ⟨cl, hcl⟩ : ∃ x, cm.ls.length = x := ⟨_, rfl⟩
            have HCLS := Lib.hid hcl
            have hlnc : ln = cl := by
              obtain ⟨_, _, e⟩ := HLIN.out.forms
              injection e with _ e _
              rw [e, hcl]
            subst hlnc
            have HLN0 : Hid (LinR w.heap.size w wq.drew (.slice la ln lcp) cm.ls) := Lib.hid (HLIN.out.below (Below.refl _ _).drew)
            have HLN1 : Hid (cm.ls.length ≤ 100000000) := Lib.hid (by
              have := HLS.out _ (List.getElem_mem hk0C)
              rw [HCM.out] at this
              omega)
            have sBq : w.heap.size ≤ wq.drew.heap.size := ST.out.2.2.2.2.2.size
            have HX0 : Hid (Value.string X0 = .string ⟨l.nm.toArray⟩) := Lib.hid (by rw [H0.out])
            have HX2 : Hid (Value.string X2 = .string ⟨l.vl.toArray⟩) := Lib.hid (by rw [H2.out])
            clear hcl
            go_wp2_with fail
            go_upto_region 16 with fail
            have SZ : Hid (Cs wo.heap.size wq.drew [.string X0, .slice pa pn pc, .string X2] ∧ wq.drew.cell? ⟨gC, k0 * 3 + 1, none⟩ = some (.slice la ln lcp)) := Lib.hid ⟨D1.out.below (Below.refl _ _).drew, n1⟩
            refine Hr.Walk.region (R := fun up x => up.getD 10 false = false → Cs wo.heap.size x [.string X0, .slice pa pn pc, .string X2] ∧ x.cell? ⟨gC, k0 * 3 + 1, none⟩ = some (.slice la ln lcp)) (by kernel_rfl) ?_
            refine Hr.Walk.take (i := 0) (v := ?v0) (fun x => Cs wo.heap.size x [.string X0, .slice pa pn pc, .string X2] ∧ x.cell? ⟨gC, k0 * 3 + 1, none⟩ = some (.slice la ln lcp)) (fun up => up.getD 10 false = false) rfl (by kernel_rfl) (by kernel_rfl) (by kernel_rfl) (fun _ _ _ h => h) (Hr.keepI (s := 10) rfl (by kernel_rfl)) (fun _ _ hu hr => hr hu) (fun up y => Hr.keepR (s := 10) (i := 0) (S := fun x => Cs wo.heap.size x [.string X0, .slice pa pn pc, .string X2] ∧ x.cell? ⟨gC, k0 * 3 + 1, none⟩ = some (.slice la ln lcp)) (by decide) up y) rfl (Or.inl ⟨by rfl, ?hy0⟩) SZ.out (fun _ => SZ.out) ?rest0
            case hy0 => intro x hx; have f0 := (hx.1.2 0 _ rfl).1; have f1 := (hx.1.2 1 _ rfl).1; have f2 := (hx.1.2 2 _ rfl).1; have f3 := hx.2; clear hx; go_simp; try with_reducible rfl
            refine Hr.Walk.take (i := 1) (v := ?v1) (fun x => Cs wo.heap.size x [.string X0, .slice pa pn pc, .string X2] ∧ x.cell? ⟨gC, k0 * 3 + 1, none⟩ = some (.slice la ln lcp)) (fun up => up.getD 10 false = false) rfl (by kernel_rfl) (by kernel_rfl) (by kernel_rfl) (fun _ _ _ h => h) (Hr.keepI (s := 10) rfl (by kernel_rfl)) (fun _ _ hu hr => hr hu) (fun up y => Hr.keepR (s := 10) (i := 1) (S := fun x => Cs wo.heap.size x [.string X0, .slice pa pn pc, .string X2] ∧ x.cell? ⟨gC, k0 * 3 + 1, none⟩ = some (.slice la ln lcp)) (by decide) up y) rfl (Or.inl ⟨by rfl, ?hy1⟩) SZ.out (fun _ => SZ.out) ?rest1
            case hy1 => intro x hx; have f0 := (hx.1.2 0 _ rfl).1; have f1 := (hx.1.2 1 _ rfl).1; have f2 := (hx.1.2 2 _ rfl).1; have f3 := hx.2; clear hx; go_simp; try with_reducible rfl
            refine Hr.Walk.take (i := 2) (v := ?v2) (fun x => Cs wo.heap.size x [.string X0, .slice pa pn pc, .string X2] ∧ x.cell? ⟨gC, k0 * 3 + 1, none⟩ = some (.slice la ln lcp)) (fun up => up.getD 10 false = false) rfl (by kernel_rfl) (by kernel_rfl) (by kernel_rfl) (fun _ _ _ h => h) (Hr.keepI (s := 10) rfl (by kernel_rfl)) (fun _ _ hu hr => hr hu) (fun up y => Hr.keepR (s := 10) (i := 2) (S := fun x => Cs wo.heap.size x [.string X0, .slice pa pn pc, .string X2] ∧ x.cell? ⟨gC, k0 * 3 + 1, none⟩ = some (.slice la ln lcp)) (by decide) up y) rfl (Or.inl ⟨by rfl, ?hy2⟩) SZ.out (fun _ => SZ.out) ?rest2
            case hy2 => intro x hx; have f0 := (hx.1.2 0 _ rfl).1; have f1 := (hx.1.2 1 _ rfl).1; have f2 := (hx.1.2 2 _ rfl).1; have f3 := hx.2; clear hx; go_simp; try with_reducible rfl
            refine Hr.Walk.take (i := 3) (v := ?v3) (fun x => Cs wo.heap.size x [.string X0, .slice pa pn pc, .string X2] ∧ x.cell? ⟨gC, k0 * 3 + 1, none⟩ = some (.slice la ln lcp)) (fun up => up.getD 10 false = false) rfl (by kernel_rfl) (by kernel_rfl) (by kernel_rfl) (fun _ _ _ h => h) (Hr.keepI (s := 10) rfl (by kernel_rfl)) (fun _ _ hu hr => hr hu) (fun up y => Hr.keepR (s := 10) (i := 3) (S := fun x => Cs wo.heap.size x [.string X0, .slice pa pn pc, .string X2] ∧ x.cell? ⟨gC, k0 * 3 + 1, none⟩ = some (.slice la ln lcp)) (by decide) up y) rfl (Or.inl ⟨by rfl, ?hy3⟩) SZ.out (fun _ => SZ.out) ?rest3
            case hy3 => intro x hx; have f0 := (hx.1.2 0 _ rfl).1; have f1 := (hx.1.2 1 _ rfl).1; have f2 := (hx.1.2 2 _ rfl).1; have f3 := hx.2; clear hx; go_simp; try with_reducible rfl
            refine Hr.Walk.take (i := 4) (v := ?v4) (fun x => Cs wo.heap.size x [.string X0, .slice pa pn pc, .string X2] ∧ x.cell? ⟨gC, k0 * 3 + 1, none⟩ = some (.slice la ln lcp)) (fun up => up.getD 10 false = false) rfl (by kernel_rfl) (by kernel_rfl) (by kernel_rfl) (fun _ _ _ h => h) (Hr.keepI (s := 10) rfl (by kernel_rfl)) (fun _ _ hu hr => hr hu) (fun up y => Hr.keepR (s := 10) (i := 4) (S := fun x => Cs wo.heap.size x [.string X0, .slice pa pn pc, .string X2] ∧ x.cell? ⟨gC, k0 * 3 + 1, none⟩ = some (.slice la ln lcp)) (by decide) up y) rfl (Or.inl ⟨by rfl, ?hy4⟩) SZ.out (fun _ => SZ.out) ?rest4
            case hy4 => intro x hx; have f0 := (hx.1.2 0 _ rfl).1; have f1 := (hx.1.2 1 _ rfl).1; have f2 := (hx.1.2 2 _ rfl).1; have f3 := hx.2; clear hx; go_simp; try with_reducible rfl
            refine Hr.Walk.take (i := 5) (v := ?v5) (fun x => Cs wo.heap.size x [.string X0, .slice pa pn pc, .string X2] ∧ x.cell? ⟨gC, k0 * 3 + 1, none⟩ = some (.slice la ln lcp)) (fun up => up.getD 10 false = false) rfl (by kernel_rfl) (by kernel_rfl) (by kernel_rfl) (fun _ _ _ h => h) (Hr.keepI (s := 10) rfl (by kernel_rfl)) (fun _ _ hu hr => hr hu) (fun up y => Hr.keepR (s := 10) (i := 5) (S := fun x => Cs wo.heap.size x [.string X0, .slice pa pn pc, .string X2] ∧ x.cell? ⟨gC, k0 * 3 + 1, none⟩ = some (.slice la ln lcp)) (by decide) up y) rfl (Or.inl ⟨by rfl, ?hy5⟩) SZ.out (fun _ => SZ.out) ?rest5
            case hy5 => intro x hx; have f0 := (hx.1.2 0 _ rfl).1; have f1 := (hx.1.2 1 _ rfl).1; have f2 := (hx.1.2 2 _ rfl).1; have f3 := hx.2; clear hx; go_simp; try with_reducible rfl
            refine Hr.Walk.one (i := 6) (by kernel_rfl) rfl (fun K hK => ?_)
            go_simp
            have SA : Hid (Cs wo.heap.size (wq.drew.alloc (Obj.cells #[.string X0, .slice pa pn pc, .string X2] 24)) [.string X0, .slice pa pn pc, .string X2] ∧ (wq.drew.alloc (Obj.cells #[.string X0, .slice pa pn pc, .string X2] 24)).cell? ⟨gC, k0 * 3 + 1, none⟩ = some (.slice la ln lcp)) := Lib.hid ⟨SZ.out.1.alloc _, ((Below.refl wq.drew.heap.size wq.drew).alloc (Nat.le_refl _) _).cell (p := ⟨gC, k0 * 3 + 1, none⟩) hgC |>.trans SZ.out.2⟩
            refine hK.out _ _ (fun _ => SA.out) ?_
            clear hK K
            refine Hr.Walk.one (i := 7) (by kernel_rfl) rfl (fun K hK => ?_)
            refine stepL rfl _ _ rfl w.heap.size w (.slice la ln lcp) cm.ls rfl HLN0.out l _ _ _ HX0.out HX2.out HPV.out rfl HLN1.out sBq ?_
            intro w6 g6 c6 r6 gr6 hat6
            have hltw : ∀ q, (Value.slice la ln lcp).ownBlock = some q → q < wo.heap.size := by
              intro q hq
              obtain ⟨g', c', la', ln', lc'', hv', _, hg', _, n1', _, _, hl'⟩ := hS.out.2.2.2.1.at hk0C
              rw [hS.out.1] at hv'
              injection hv' with e _ _
              injection e with e
              injection e with e _ _
              subst e
              have e := n1.symm.trans ((HZ.out.cell (p := ⟨gC, k0 * 3 + 1, none⟩) hg').trans n1')
              injection e with e
              rw [e] at hq
              obtain ⟨us, _, q2, _⟩ := hl'
              exact (q2.lt q hq).2
            have hneD : some wo.heap.size ≠ (Value.slice la ln lcp).ownBlock := fun e => Nat.lt_irrefl _ (hltw _ e.symm)
            have gW6 : wo.heap.size < (wq.drew.alloc (Obj.cells #[.string X0, .slice pa pn pc, .string X2] 24)).heap.size := SA.out.1.1
            have gC6 : gC < w6.heap.size := Nat.lt_of_lt_of_le hgC (Nat.le_trans (by simp) gr6.size)
            have hneC : some gC ≠ (Value.slice la ln lcp).ownBlock := by
              obtain ⟨xs, hx⟩ := ST.out.2.2.2.1.row
              obtain ⟨us, _, q2, _⟩ := HLIN.out
              intro e
              rcases Rws.apart hx q2 (by decide) with z | z
              · cases z
              · exact z (by show some gC = _; exact e)
            have cC6 := (gr6.cell_far ⟨gC, k0 * 3 + 1, none⟩ (by simp; omega) hneC).trans (show ((wq.drew.alloc (Obj.cells #[.string X0, .slice pa pn pc, .string X2] 24)).cell? ⟨gC, k0 * 3 + 1, none⟩ = some (.slice la ln lcp)) from ((((Below.refl wq.heap.size wq).drew.alloc (Nat.le_refl _) _).cell (p := ⟨gC, k0 * 3 + 1, none⟩) hgC).trans n1))
            have fC6 := (gr6.frozen_far ⟨gC, k0 * 3 + 1, none⟩ (by simp; omega) hneC).trans (show ((wq.drew.alloc (Obj.cells #[.string X0, .slice pa pn pc, .string X2] 24)).frozen? ⟨gC, k0 * 3 + 1, none⟩ = false) from ((((Below.refl wq.heap.size wq).drew.alloc (Nat.le_refl _) _).frozen (p := ⟨gC, k0 * 3 + 1, none⟩) hgC).trans nf0))
            have HS6 : Hid (BdS w (C.modify k0 (addL l)) (k0 :: K') (some ⟨gC, 0, none⟩) cn cp (some ⟨gI, 0, none⟩) (kp + 1) cp2 (w6.setCell ⟨gC, k0 * 3 + 1, none⟩ (.slice (some ⟨g6, 0, none⟩) (ln + 1) c6))) := Lib.hid (by
              obtain ⟨s1, s2, s3, s4, s5, s6⟩ := (ST.out.below (Below.refl _ _).drew)
              have rr : LinR w.heap.size w w6 (.slice (some ⟨g6, 0, none⟩) (ln + 1) c6) ((C[k0]'hk0C).ls ++ [l]) := by
                have h := r6
                rw [HCLS.out] at h
                rw [HCM.out]
                exact h
              have h1 := CmpR.addLn (w := wq.drew) (g := gC) (c := cp) (x := l) (by rw [s1]; exact s4) hk0C n1 gr6 rr (by
                rcases hat6 with e | e
                · exact Or.inl e
                · exact Or.inr (by rw [e]; rfl))
              rw [List.length_modify, s1] at h1
              refine ⟨by rw [List.length_modify]; exact s1, s2, s3, h1, ?_, ((s6.alloc s6.size (Obj.cells #[.string X0, .slice pa pn pc, .string X2] 24)).grown gr6 (by have := s6.size; simp; omega) (fun q hq => ?_)).setCell (p := ⟨gC, k0 * 3 + 1, none⟩) hBC _⟩
              · exact RowI.setR (s5.grownL gr6 HLN0.out) (CmpR.addL0 s4 gr6 HLN0.out)
              · obtain ⟨us, _, q2, _⟩ := HLN0.out
                exact (q2.lt q hq).1)
            have S6 : Hid (Cs wo.heap.size w6 [.string X0, .slice pa pn pc, .string X2] ∧ w6.cell? ⟨gC, k0 * 3 + 1, none⟩ = some (.slice la ln lcp)) := Lib.hid ⟨⟨Nat.lt_of_lt_of_le gW6 gr6.size, fun i v hv => ⟨(gr6.cell_far ⟨wo.heap.size, i, none⟩ gW6 hneD).trans (SA.out.1.2 i v hv).1, (gr6.frozen_far ⟨wo.heap.size, i, none⟩ gW6 hneD).trans (SA.out.1.2 i v hv).2⟩⟩, cC6⟩
            have HLL := HCLS.out
            rw [HLL]
            clear r6 hat6 HG
            refine hK.out _ _ (fun _ => S6.out) ?_
            clear hK K
            refine Hr.Walk.one (i := 8) (by kernel_rfl) rfl (fun K hK => ?_)
            go_simp
            refine hK.out _ _ (fun _ => S6.out) ?_
            clear hK K
            refine Hr.Walk.one (i := 9) (by kernel_rfl) rfl (fun K hK => ?_)
            go_simp
            refine hK.out _ _ (fun _ => S6.out) ?_
            clear hK K
            refine Hr.Walk.one (i := 10) (by kernel_rfl) rfl (fun K hK => ?_)
            go_simp
            refine hK.out _ _ (fun h => by cases h) ?_
            clear hK K
            refine Hr.Walk.done (by kernel_rfl) ?_ _
            go_wp2
            go_roundw
            case rel => exact ⟨k + 1, _, _, some ⟨gC, 0, none⟩, cn, cp, some ⟨gI, 0, none⟩, kp + 1, cp2, by first | rfl | go_num, by first | rfl | go_num, by go_num, by omega, by omega, by omega, HG2, HS6, HNSL _, HLSL _⟩
            case measure => simp [intOf]; omega
    · have hkn : L.drop k = [] := List.drop_of_length_le (by rw [hnl.out]; omega)
      have hG' := hG.out
      rw [hkn, bdG] at hG'
      have ST := hS
      by_cases hkz : kn = 0
      · subst hkz
        have hKe : K = [] := List.eq_nil_of_length_eq_zero ST.out.2.1
        rw [if_pos hKe] at hG'
        have HO := Lib.hid hG'
        clear hG' hKe
        go_wp2
        go_ret2
        refine ⟨_, _, _, true, rfl, Lib.hid ?_, ST.out.2.2.2.2.2⟩
        rw [← HO.out]
        exact ⟨rfl, ST.out.2.2.2.1.cmps ST.out.2.2.2.2.2⟩
      · rw [if_neg (fun e => hkz (by rw [← ST.out.2.1, e]; rfl))] at hG'
        have HR := Lib.hid hG'
        have hkp0 : ((kn : Int) == 0) = false := beq_eq_false_iff_ne.2 (by omega)
        clear hG'
        go_wp2
        go_ret2
        exact bq_no _ _ _ _ _ _ HR.out ST.out.2.2.2.2.2
theorem bd_to (v : Value) (L : List LV) (o : Option (List CV)) (w : World) (hv : LinsV w v L) (hn : L.length ≤ 1000000) (hsm : ∀ l ∈ L, smlL l) (hR : Hid (bdG L [] [] = o)) :
    Calls Try.prog 57 #[v] w (BdQ o w) := by
  obtain ⟨a, c, rfl⟩ := hv.slice
  exact bd_ok a _ c L o w (Lib.hid hv) hn (Lib.hid rfl) (Lib.hid hsm) hR
end Tre
end Go.Proofs.Ytdakpncfophjnaa
