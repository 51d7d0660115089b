/-
  Package tree: put.
-/
import Derived.Test.YtdakpncfophjnaaTrW
namespace Go.Proofs.Ytdakpncfophjnaa
open Go.RowKit
namespace Tre
open Lin CutB Cel Ap
open Opn (TxtV)
theorem hit_app (A B : List UInt8) : Fld.hit (A ++ B) = (Fld.hit A || Fld.hit B) := by unfold Fld.hit; exact List.any_append
theorem hit_all {S : List UInt8} (h : ∀ c ∈ S, c ≠ 10 ∧ c ≠ 13) : Fld.hit S = false := by
  unfold Fld.hit
  rw [List.any_eq_false]
  intro c hc
  obtain ⟨h1, h2⟩ := h c hc
  simp [Fld.le, h1, h2]
theorem hit_pln {S : List UInt8} (h : plnB S = true) : Fld.hit S = false := hit_all (fun c hc => by
  have h1 := List.all_eq_true.1 h c hc
  constructor
  · rintro rfl; revert h1; decide
  · rintro rfl; revert h1; decide)
theorem hit_nm {S : List UInt8} (h : nmB S = true) : Fld.hit S = false := hit_all (fun c hc => by
  rw [nmB, Bool.and_eq_true] at h
  have h1 := List.all_eq_true.1 h.2 c hc
  constructor
  · rintro rfl; revert h1; decide
  · rintro rfl; revert h1; decide)
theorem hit_cons (c : UInt8) (S : List UInt8) (h1 : c ≠ 10) (h2 : c ≠ 13) : Fld.hit (c :: S) = Fld.hit S := by
  show Fld.hit ([c] ++ S) = _
  rw [hit_app, hit_all (S := [c]) (fun d hd => by rw [List.mem_singleton.1 hd]; exact ⟨h1, h2⟩), Bool.false_or]
theorem hit_val {v : List UInt8} (h : valB v = true) : Fld.hit (valT v) = false := by
  rw [valB, Bool.and_eq_true] at h
  rw [valT]
  split
  · rw [hit_cons _ _ (by decide) (by decide), hit_app, hit_pln h.1]; decide
  · exact hit_pln h.1
theorem hit_vs : ∀ (m : UInt8) (vs : List (List UInt8)), m ≠ 10 → m ≠ 13 → vs.all valB = true → Fld.hit (vsT m vs) = false
  | _, [], _, _, _ => rfl
  | m, v :: vs, h1, h2, h => by
    rw [List.all_cons, Bool.and_eq_true] at h
    rw [vsT, hit_cons _ _ h1 h2, hit_app, hit_val h.1, hit_vs 44 vs (by decide) (by decide) h.2]
    rfl
theorem hit_ps : ∀ (ps : List PV), ps.all parB = true → Fld.hit (psT ps) = false
  | [], _ => rfl
  | p :: ps, h => by
    rw [List.all_cons, Bool.and_eq_true] at h
    obtain ⟨hp, h2⟩ := h
    rw [parB, Bool.and_eq_true, Bool.and_eq_true] at hp
    rw [psT, parT, hit_app, hit_cons _ _ (by decide) (by decide), hit_app, hit_nm hp.1, hit_vs 61 p.vs (by decide) (by decide) hp.2.2, hit_ps ps h2]
    rfl
theorem hit_ln {l : LV} (h : lnB l = true) : Fld.hit (lineF l) = false := by
  rw [lnB, Bool.and_eq_true, Bool.and_eq_true] at h
  rw [lineF, hit_app, hit_app, hit_cons _ _ (by decide) (by decide), hit_nm h.1, hit_ps _ h.2.2, hit_pln h.2.1]
  rfl
set_option maxRecDepth 100000 in
theorem line_big (s : ByteArray) (w : World) (hs : 60000 < s.size) (hm : s.size ≤ 1000000000) :
    Calls Try.prog 74 #[.string s] w fun e w' => e = .returned (.tuple #[.string ⟨#[]⟩, .int .i64 2]) ∧ Below w.heap.size w w' := by
  go_enter Try.func74, Try.ntmps74
  go_wp2
  go_ret2
  exact ⟨rfl, Below.refl _ _⟩
theorem line_v (S : List UInt8) (w : World) (hs : S.length ≤ 60000) (h : Hid (Fld.hit S = false)) :
    Calls Try.prog 74 #[.string ⟨S.toArray⟩] w fun e w' => e = .returned (.tuple #[.string ⟨(Fld.foldL S).toArray⟩, .int .i64 0]) ∧ Below w.heap.size w w' :=
  Fld.line_to ⟨S.toArray⟩ S w hs (Lib.hid rfl) h
theorem ltx_v (a b : ByteArray) (nm vl : List UInt8) (pv : Value) (ps : List PV) (T : List UInt8) (e : Int) (w : World) (ha : a = ⟨nm.toArray⟩) (hb : b = ⟨vl.toArray⟩) (h1 : nm.length ≤ 1000000) (h2 : vl.length ≤ 1000000) (hp : ParsV w pv ps) (hlen : ps.length ≤ 1000000) (hsm : ∀ p ∈ ps, smlP p) (hbig : (psT ps).length ≤ 500000000) (h : Hid (lnT ⟨nm, ps, vl⟩ = T ∧ lnE ⟨nm, ps, vl⟩ = e)) :
    Calls Try.prog 14 #[.agg #[.string a, pv, .string b]] w fun x w' => x = .returned (.tuple #[.string ⟨T.toArray⟩, .int .i64 e]) ∧ Below w.heap.size w w' := by
  subst ha hb
  exact ltx_to nm vl pv ps T e w h1 h2 hp hlen hsm hbig h
/-- A line that may be written. -/
def smlW (l : LV) : Prop := smlL l ∧ (psT l.ps).length ≤ 400000000
theorem smlW.len {l : LV} (h : smlW l) : (lineF l).length ≤ 500000000 := by
  obtain ⟨⟨h1, h2, _, _⟩, h3⟩ := h
  rw [lineF]
  simp only [List.length_append, List.length_cons]
  omega
theorem fold_len : ∀ (f : Nat) (S : List UInt8) (room : Nat), 4 ≤ room → (Fld.foldG f S room).length ≤ 4 * S.length + 2
  | 0, S, room, _ => by simp [Fld.foldG]; omega
  | f + 1, S, room, hr => by
    rw [Fld.foldG]
    split
    · simp; omega
    · have hc := Fld.cutN_bd S room (by omega)
      have ih := fold_len f (S.drop (Fld.cutN S room)) 74 (by decide)
      simp only [List.length_append, List.length_take, List.length_drop, List.length_cons, List.length_nil] at ih ⊢
      omega
theorem wrt_q {B b : Nat} {l : List UInt8} {e : Int} {w w' w2 : World} (h : WrtQ B b (l, e) w' w2) (hb : Below w.heap.size w w') (hB : B ≤ w.heap.size) : WrtQ B b (l, e) w w2 :=
  ⟨h.1, (hb.mono hB).trans h.2.1, (others_below hb).trans h.2.2⟩
theorem wrt_f {B b : Nat} {l : List UInt8} {e : Int} {w w' : World} (h : Wrt B b l e w) (hb : Below w.heap.size w w') (hB : B ≤ w.heap.size) (e' : Int) : WrtQ B b (l, e') w (w'.setCell ⟨b, 2, none⟩ (.int .i64 e')) :=
  ⟨(h.below hb).fail e', (hb.mono hB).setCell (p := ⟨b, 2, none⟩) h.lt.1 _, (others_below hb).setCell ⟨b, 2, none⟩ rfl _⟩
set_option maxHeartbeats 3200000 in
set_option maxRecDepth 100000 in
theorem pt_0 (B b : Nat) (l : List UInt8) (e : Int) (x : Value) (w : World) (h : Wrt B b l e w) (he : ¬ e = 0) (hB : B ≤ w.heap.size) (nm vl : ByteArray) (a : Option Addr) (n c : Nat) (hx : x = .agg #[.string nm, .slice a n c, .string vl]) :
    Calls Try.prog 54 #[.pointer (some ⟨b, 0, none⟩), x] w fun x w' => x = .returned (.tuple #[]) ∧ WrtQ B b (l, e) w w' := by
  subst hx
  have y2 := h.err.1
  have gb := h.lt.2
  have H := Lib.hid h
  have x1 : (e != 0) = true := bne_iff_ne.2 he
  clear h
  go_enter Try.func54, Try.ntmps54
  go_wp2
  first | (refine bodyPost_ret (results_none rfl _ _ _) rfl ?_) | go_end0
  have hb := (Below.refl w.heap.size w).alloc (Nat.le_refl _) (Obj.cells #[.string nm, .slice a n c, .string vl] 24)
  exact ⟨rfl, H.out.below hb, hb.mono hB, others_below hb⟩
set_option maxHeartbeats 6400000 in
set_option maxRecDepth 100000 in
theorem pt_1 (B b : Nat) (l : List UInt8) (X0 X2 : ByteArray) (L : LV) (a : Option Addr) (n c : Nat) (r : WS) (w : World) (h : Wrt B b l 0 w) (hB : B ≤ w.heap.size) (hl : l.length ≤ 600000) (h0 : Hid (X0 = ⟨L.nm.toArray⟩)) (h2 : Hid (X2 = ⟨L.vl.toArray⟩)) (hp : Hid (ParsV w (.slice a n c) L.ps)) (hs : Hid (smlW L)) (hr : Hid (putW (l, 0) L = r)) :
    Calls Try.prog 54 #[.pointer (some ⟨b, 0, none⟩), .agg #[.string X0, .slice a n c, .string X2]] w fun x w' => x = .returned (.tuple #[]) ∧ WrtQ B b r w w' := by
  have y2 := h.err.1
  have gb := h.lt.2
  have H := Lib.hid h
  have C0 := Lib.hid (Cs.new w [.string X0, .slice a n c, .string X2] 24)
  have BB := Lib.hid ((Below.refl w.heap.size w).alloc (Nat.le_refl _) (Obj.cells #[.string X0, .slice a n c, .string X2] 24))
  clear h
  cases hb : lnB L with
  | false =>
    have hR : r = (l, 18) := by rw [← hr.out, putW, if_neg (by simp), if_pos hb]
    have HT : Hid (lnT ⟨L.nm, L.ps, L.vl⟩ = [] ∧ lnE ⟨L.nm, L.ps, L.vl⟩ = 18) := Lib.hid ⟨by show lnT L = []; rw [lnT, if_neg (by rw [hb]; decide)], by show lnE L = 18; rw [lnE, if_neg (by rw [hb]; decide)]⟩
    subst hR
    clear hb
    go_enter Try.func54, Try.ntmps54
    go_wp2_with fail
    refine (ltx_v X0 X2 L.nm L.vl _ L.ps [] 18 _ h0.out h2.out (by have := hs.out.1.1; omega) hs.out.1.2.1 (hp.out.below BB.out) hs.out.1.2.2.1 hs.out.1.2.2.2 (by have := hs.out.2; omega) HT).mono ?_
    rintro e w1 ⟨rfl, k1⟩
    have B1 := Lib.hid (bstep BB.out k1)
    have y3 := (H.out.below B1.out).err.1
    have f3 := (H.out.below B1.out).err.2
    clear k1 C0 BB
    go_wp2
    first | (refine bodyPost_ret (results_none rfl _ _ _) rfl ?_) | go_end0
    exact ⟨rfl, wrt_f H.out B1.out hB 18⟩
  | true =>
    have HT : Hid (lnT ⟨L.nm, L.ps, L.vl⟩ = lineF L ∧ lnE ⟨L.nm, L.ps, L.vl⟩ = 0) := Lib.hid ⟨by show lnT L = _; rw [lnT, if_pos hb], by show lnE L = 0; rw [lnE, if_pos hb]⟩
    have HH := Lib.hid (hit_ln hb)
    have hlf := hs.out.len
    obtain ⟨T, hT⟩ : ∃ T, lineF L = T := ⟨_, rfl⟩
    have hR' := hr.out
    rw [putW, if_neg (by simp), if_neg (by rw [hb]; decide), hT] at hR'
    rw [hT] at HT HH hlf
    have HR := Lib.hid hR'
    clear hb hT hr hR'
    by_cases h6 : 60000 < T.length
    · have hR : r = (l, 2) := by rw [← HR.out, if_pos h6]
      subst hR
      have Z6 : Hid (60000 < (⟨T.toArray⟩ : ByteArray).size) := Lib.hid h6
      go_enter Try.func54, Try.ntmps54
      go_wp2_with fail
      refine (ltx_v X0 X2 L.nm L.vl _ L.ps T 0 _ h0.out h2.out (by have := hs.out.1.1; omega) hs.out.1.2.1 (hp.out.below BB.out) hs.out.1.2.2.1 hs.out.1.2.2.2 (by have := hs.out.2; omega) HT).mono ?_
      rintro e w1 ⟨rfl, k1⟩
      have B1 := Lib.hid (bstep BB.out k1)
      clear k1 C0 BB
      go_wp2_with fail
      refine (line_big _ _ Z6.out (by show T.length ≤ _; omega)).mono ?_
      rintro e w2 ⟨rfl, k1⟩
      have B2 := Lib.hid (bstep B1.out k1)
      have y3 := (H.out.below B2.out).err.1
      have f3 := (H.out.below B2.out).err.2
      clear k1 B1
      go_wp2
      first | (refine bodyPost_ret (results_none rfl _ _ _) rfl ?_) | go_end0
      exact ⟨rfl, wrt_f H.out B2.out hB 2⟩
    · have hfl : (Fld.foldL T).length ≤ 250000 := by
        have := fold_len T.length T 75 (by decide)
        rw [Fld.foldL, Fld.foldR]
        omega
      have h6' : T.length ≤ 60000 := by omega
      have HR2 := HR.out
      rw [if_neg h6] at HR2
      obtain ⟨G, hG⟩ : ∃ G, Fld.foldL T = G := ⟨_, rfl⟩
      have HG := Lib.hid hG
      rw [hG] at HR2 hfl
      have HR3 := Lib.hid HR2
      have gz : (⟨G.toArray⟩ : ByteArray).size = G.length := rfl
      clear hG HR2 HR h6
      go_enter Try.func54, Try.ntmps54
      go_wp2_with fail
      refine (ltx_v X0 X2 L.nm L.vl _ L.ps T 0 _ h0.out h2.out (by have := hs.out.1.1; omega) hs.out.1.2.1 (hp.out.below BB.out) hs.out.1.2.2.1 hs.out.1.2.2.2 (by have := hs.out.2; omega) HT).mono ?_
      rintro e w1 ⟨rfl, k1⟩
      have B1 := Lib.hid (bstep BB.out k1)
      clear k1 C0 BB
      go_wp2_with fail
      refine (line_v T _ h6' HH).mono ?_
      rw [HG.out]
      rintro e w2 ⟨rfl, k1⟩
      have B2 := Lib.hid (bstep B1.out k1)
      have H2 := Lib.hid (H.out.below B2.out)
      have y3 := H2.out.err.1
      have f3 := H2.out.err.2
      have s2 := B2.out.size
      clear k1 B1
      go_wp2_with fail
      refine (wln_to B b l 0 _ H2.out).mono ?_
      rintro e w3 ⟨rfl, rfl⟩
      by_cases hbig : 600000 < l.length + G.length
      · have hR : r = (l, 2) := by rw [← HR3.out, if_pos hbig]
        subst hR
        go_wp2
        first | (refine bodyPost_ret (results_none rfl _ _ _) rfl ?_) | go_end0
        exact ⟨rfl, wrt_f H.out B2.out hB 2⟩
      · have hR : r = (l ++ G, 0) := by rw [← HR3.out, if_neg hbig]
        subst hR
        go_wp2_with fail
        refine (wws_to B b l 0 _ _ H2.out (by rw [gz]; omega) (by omega)).mono ?_
        rintro e w4 ⟨rfl, hq⟩
        have HQ := Lib.hid (wrt_q hq B2.out hB)
        go_wp2
        first | (refine bodyPost_ret (results_none rfl _ _ _) rfl ?_) | go_end0
        exact ⟨rfl, HQ.out⟩
theorem pt_to (B b : Nat) (l : List UInt8) (e : Int) (X0 X2 : ByteArray) (L : LV) (pv : Value) (r : WS) (w : World) (h : Wrt B b l e w) (hB : B ≤ w.heap.size) (hl : l.length ≤ 600000) (h0 : X0 = ⟨L.nm.toArray⟩) (h2 : X2 = ⟨L.vl.toArray⟩) (hp : ParsV w pv L.ps) (hs : smlW L) (hr : Hid (putW (l, e) L = r)) :
    Calls Try.prog 54 #[.pointer (some ⟨b, 0, none⟩), .agg #[.string X0, pv, .string X2]] w fun x w' => x = .returned (.tuple #[]) ∧ WrtQ B b r w w' := by
  obtain ⟨a, n, c, hpv⟩ : ∃ a n c, pv = .slice a n c := by obtain ⟨a, n, c, h, _⟩ := hp; exact ⟨a, n, c, h⟩
  subst hpv
  by_cases he : e = 0
  · subst he
    exact pt_1 B b l X0 X2 L a n c r w h hB hl (Lib.hid h0) (Lib.hid h2) (Lib.hid hp) (Lib.hid hs) hr
  · have hR : r = (l, e) := by rw [← hr.out, putW, if_pos he]
    subst hR
    exact pt_0 B b l e _ w h he hB X0 X2 a n c rfl
theorem put_len (s : WS) (L : LV) (h : s.1.length ≤ 600000) : (putW s L).1.length ≤ 600000 := by
  rw [putW]
  repeat' split
  all_goals first | exact h | (simp only [List.length_append]; omega)
end Tre
end Go.Proofs.Ytdakpncfophjnaa
