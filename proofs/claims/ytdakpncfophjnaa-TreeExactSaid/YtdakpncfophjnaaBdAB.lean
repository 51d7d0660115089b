/-
  Several texts in one (LinC, LinD, LinE, LinP).
-/
import Derived.Test.YtdakpncfophjnaaBdAA
import Derived.Test.YtdakpncfophjnaaCel
import Derived.Deep.Onto
/-
  Contracts of package line: readParam.
-/
namespace Go.Proofs.Ytdakpncfophjnaa
open Go.RowKit
namespace Lin
open CutB Cel
open Opn (TxtV)
open Rws (RowS)
theorem own_set {w : World} {base : Nat} {e : TypeId} {size : Nat} {v : Value} {n : Nat} {xs : List Value} (h : w.ownsRow base e size v n xs) {g : Nat} (hg : g < base) (i : Nat) (x : Value) : (w.setCell ⟨g, i, none⟩ x).ownsRow base e size v n xs :=
  h.kept (row := some g) ⟨rfl, rfl, rfl, by simp [World.setCell], fun k _ hk => Below.heap_setCell _ _ _ _ (fun q => hk (by simp [q]))⟩ (by
    cases ho : v.ownBlock with
    | none => exact Or.inl rfl
    | some k => exact Or.inr (by have := (h.lt k ho).1; intro q; injection q with q; omega))
theorem rv_len {T V R : List UInt8} (h : rvL T = some (V, R)) : R.length ≤ T.length := by
  cases T with
  | nil => cases h
  | cons c U =>
    rw [rvL] at h
    split at h
    · split at h
      · cases h
      · injection h with h
        injection h with _ h
        subst h
        have := tl_len [34] U
        simp only [List.length_tail, List.length_cons]
        omega
    · split at h
      · cases h
      · injection h with h
        injection h with _ h
        subst h
        exact tl_len _ _
def szL : Value → Nat
  | .string s => s.size
  | _ => 0
/-- What readParam hands back. -/
def RpQ (o : Option (PV × List UInt8)) (w : World) (e : Ending) (w' : World) : Prop := ∃ (nm : ByteArray) (sv : Value) (b : ByteArray) (c : Bool), e = .returned (.tuple #[.agg #[.string nm, sv], .string b, .bool c]) ∧ Hid (match o with | none => c = false ∧ sv = .slice none 0 0 | some (p, R) => c = true ∧ nm = ⟨p.nm.toArray⟩ ∧ b = ⟨R.toArray⟩ ∧ RowS w.heap.size w' sv p.vs) ∧ Below w.heap.size w w'
/-- The head of its loop. -/
def RpR (w : World) (nm : ByteArray) (o : Option (List (List UInt8) × List UInt8)) (sv : Value) (wr : World) : Prop := ∃ (f : Nat) (T : List UInt8) (acc : List (List UInt8)) (pv : Value) (t : ByteArray), sv = .string t ∧ Hid (t.data.toList = T) ∧ T.length < f ∧ acc.length + T.length ≤ 1000000 ∧ Hid (rvG f T acc = o) ∧ Cs w.heap.size wr [.string nm, pv] ∧ RowS (w.heap.size + 1) wr pv acc ∧ Below w.heap.size w wr
set_option maxHeartbeats 12800000 in
set_option maxRecDepth 100000 in
theorem rp_to (s : ByteArray) (S : List UInt8) (w : World) (hs : s.size ≤ 1000000) (hS : Hid (s.data.toList = S)) :
    Calls Try.prog 44 #[.string s] w (RpQ (rpL S) w) := by
  have hl : S.length = s.size := by rw [← hS.out]; simp
  by_cases y : tlT [61] S = []
  · have HR : Hid (rpL S = none) := Lib.hid (by rw [rpL, if_pos y])
    have HB : Hid (Lib.indexByte S 61 = -1) := Lib.hid (by rw [ib_eq, if_pos y])
    rw [HR.out]
    clear y hl
    go_enter Try.func44, Try.ntmps44
    go_wp2_with fail
    refine (cut_none _ S 61 _ hS HB).mono ?_
    rintro e w1 ⟨rfl, rfl⟩
    go_wp2
    exact bodyPost_ret (v := .tuple #[.agg #[.string ⟨#[]⟩, .slice none 0 0], .string ⟨#[]⟩, .bool false]) (by simp [results, Try.results44, go_sem]) rfl ⟨_, _, _, _, rfl, Lib.hid ⟨rfl, rfl⟩, (Below.refl _ _).alloc (Nat.le_refl _) _⟩
  · obtain ⟨o, ho⟩ : ∃ o, rvG (S.length + 1) (tlT [61] S).tail [] = o := ⟨_, rfl⟩
    have HR : Hid (rpL S = rpO (hdT [61] S) o) := Lib.hid (by rw [rpL, if_neg y, ho])
    have HB : Hid (Lib.indexByte S 61 = ((hdT [61] S).length : Nat)) := Lib.hid (by rw [ib_eq, if_neg y])
    have hlen : (tlT [61] S).tail.length < S.length + 1 ∧ (tlT [61] S).tail.length ≤ 1000000 := by
      have := tl_len [61] S
      rw [List.length_tail]
      omega
    have HLN := Lib.hid hlen
    have HO := Lib.hid ho
    rw [HR.out]
    clear y hl ho hlen HR
    go_enter Try.func44, Try.ntmps44
    go_wp2_with fail
    refine (cut_some _ S 61 _ _ hs hS HB).mono ?_
    rintro e w1 ⟨a, b, rfl, hab, b1⟩
    have HA : Hid (a = ⟨(hdT [61] S).toArray⟩ ∧ b.data.toList = (tlT [61] S).tail) := Lib.hid ⟨Rws.ba_eq (by rw [hab.out.1, take_hd]), by rw [hab.out.2, drop_hd1]⟩
    have C1 := Lib.hid (Cs.below (Cs.new w [.string ⟨#[]⟩, .slice none 0 0] 45) b1)
    have B1 := Lib.hid (bstep ((Below.refl w.heap.size w).alloc (Nat.le_refl _) _) b1)
    have z0 := (C1.out.2 0 _ rfl).1
    have y0 := (C1.out.2 0 _ rfl).2
    have D1 := C1.out.set 0 (by simp) (.string a)
    simp only [List.set_cons_zero] at D1
    have D1 := Lib.hid D1
    clear b1 hab
    go_wp2
    go_loopw [0] (RpR w a o) (fun sv _ => szL sv)
    case atStart =>
      exact ⟨S.length + 1, (tlT [61] S).tail, [], .slice none 0 0, b, rfl, Lib.hid HA.out.2, HLN.out.1, by simpa using HLN.out.2, HO, D1.out, RowS.nil _ _, by repeat (first | with_reducible exact B1.out | with_reducible refine Below.setCell ?_ (by exact Nat.le_refl _) _)⟩
    case round =>
      obtain ⟨f, T, acc, pv, t, rfl, hT, hf, hlen, hG, hC, hRw, hB⟩ := hrel
      have hz : t.size = T.length := by rw [← hT.out]; simp
      have hzb : t.size ≤ 1000000 := by omega
      obtain ⟨f, rfl⟩ : ∃ k, f = k + 1 := ⟨f - 1, by omega⟩
      have C2 := Lib.hid hC
      have B2 := Lib.hid hB
      have R2 := Lib.hid hRw
      have HZ := Lib.hid hz
      clear hC hB hRw z0 y0 D1 C1 B1 hz
      go_wp2_with fail
      refine (rv_to t T _ hzb hT).mono ?_
      rintro e w2 ⟨va, vb, vc, rfl, hv, b2⟩
      have C3 := Lib.hid (C2.out.below b2)
      have B3 := Lib.hid (bstep B2.out b2)
      have R3 := Lib.hid (R2.out.below b2)
      clear b2 C2 B2 R2
      have z0 := (C3.out.2 0 _ rfl).1
      have y0 := (C3.out.2 0 _ rfl).2
      have z1 := (C3.out.2 1 _ rfl).1
      have y1 := (C3.out.2 1 _ rfl).2
      have hv := hv.out
      have hG' := hG.out
      rw [rvG] at hG'
      cases hr : rvL T with
      | none =>
        rw [hr] at hv hG'
        have hv : vc = false := hv
        have hG' : none = o := hG'
        subst hv
        have HO2 := Lib.hid hG'
        clear hr hG hG'
        go_wp2
        exact bodyPost_ret (v := .tuple #[.agg #[.string ⟨#[]⟩, .slice none 0 0], .string ⟨#[]⟩, .bool false]) (by simp (maxDischargeDepth := 9) [results, Try.results44, go_sem, z0, z1]) rfl ⟨_, _, _, _, rfl, Lib.hid (by rw [← HO2.out]; exact ⟨rfl, rfl⟩), by repeat (first | with_reducible exact B3.out | with_reducible refine Below.setCell ?_ (by exact Nat.le_refl _) _)⟩
      | some VR =>
        obtain ⟨V, R⟩ := VR
        rw [hr] at hv hG'
        obtain ⟨rfl, hva, hvb⟩ : vc = true ∧ va = ⟨V.toArray⟩ ∧ vb = ⟨R.toArray⟩ := hv
        have hRl := rv_len hr
        cases R with
        | nil =>
          have HO2 : Hid (none = o) := Lib.hid hG'
          subst hvb
          clear hr hG hva hG'
          go_wp2
          exact bodyPost_ret (v := .tuple #[.agg #[.string ⟨#[]⟩, .slice none 0 0], .string ⟨#[]⟩, .bool false]) (by simp (maxDischargeDepth := 9) [results, Try.results44, go_sem, z0, z1]) rfl ⟨_, _, _, _, rfl, Lib.hid (by rw [← HO2.out]; exact ⟨rfl, rfl⟩), by repeat (first | with_reducible exact B3.out | with_reducible refine Below.setCell ?_ (by exact Nat.le_refl _) _)⟩
        | cons d U =>
          have hbs : vb.data.toList = d :: U := by rw [hvb]
          have hb0 : 0 < vb.size := by
            have : vb.size = vb.data.toList.length := by simp
            rw [this, hbs]; simp
          obtain ⟨_, hx⟩ := at_l hbs 0 hb0
          have hx : vb[0] = d := hx
          obtain ⟨x1, x2, x3⟩ := ne_facts hb0
          have HVA := Lib.hid hva
          have HVB := Lib.hid hvb
          have HG2 : Hid ((if d = 44 then rvG f U (acc ++ [V]) else some (acc ++ [V], d :: U)) = o) := Lib.hid hG'
          have HUL : Hid (U.length + 1 ≤ T.length) := Lib.hid (by simpa using hRl)
          have HU : Hid ((vb.extract 1 vb.size).data.toList = U) := Lib.hid (by rw [dtE, hbs]; rfl)
          have db := d.toNat_lt
          have hacc : acc.length ≤ 1000000000 := by omega
          clear hr hG hG' hva hvb hbs hRl hv
          go_wp2_with (at_builtin; refine Rws.appS rfl _ _ rfl (w.heap.size + 1) _ acc rfl R3.out V _ HVA.out rfl hacc C3.out.1 ?_)
          intro w5 gg gcap r5 g5
          have b5 := g5.below (w.heap.size + 1) w2 (Nat.le_refl _) (Below.refl _ _) C3.out.1
          have z1' := (b5.cell (p := ⟨w.heap.size, 1, none⟩) (Nat.lt_succ_self _)).trans z1
          have y1' := (b5.frozen (p := ⟨w.heap.size, 1, none⟩) (Nat.lt_succ_self _)).trans y1
          have z0' := (b5.cell (p := ⟨w.heap.size, 0, none⟩) (Nat.lt_succ_self _)).trans z0
          have y0' := (b5.frozen (p := ⟨w.heap.size, 0, none⟩) (Nat.lt_succ_self _)).trans y0
          have C5 : Cs w.heap.size w5 [.string a, pv] := ⟨Nat.lt_of_lt_of_le C3.out.1 g5.size, fun i v hi => by
            match i, hi with
            | 0, hi => obtain rfl := Option.some.inj hi; exact ⟨z0', y0'⟩
            | 1, hi => obtain rfl := Option.some.inj hi; exact ⟨z1', y1'⟩
            | i + 2, hi => simp at hi⟩
          have D5 := C5.set 1 (by simp) (.slice (some ⟨gg, 0, none⟩) (acc.length + 1) gcap)
          simp only [List.set_cons_succ, List.set_cons_zero] at D5
          have D5 := Lib.hid D5
          have B5 := Lib.hid (g5.below _ _ (Nat.le_succ _) B3.out B3.out.size)
          have R5 := Lib.hid (own_set r5 (Nat.lt_succ_self _) 1 (.slice (some ⟨gg, 0, none⟩) (acc.length + 1) gcap))
          clear b5 C5 g5 r5 R3 C3 B3 z0 y0 z1 y1
          by_cases h44 : d = 44
          · subst h44
            have HN : Hid (rvG f U (acc ++ [V]) = o) := Lib.hid (by have := HG2.out; rw [if_pos rfl] at this; exact this)
            have e1 : (1 : Int) ≤ (vb.size : Int) := by omega
            have e2 : 1 ≤ vb.size := by omega
            go_wp2
            go_roundw
            case rel => exact ⟨f, U, acc ++ [V], _, _, rfl, HU, by have := HUL.out; omega, by have := HUL.out; rw [List.length_append]; simp; omega, HN, D5.out, R5.out, by repeat (first | with_reducible exact B5.out | with_reducible refine Below.setCell ?_ (by exact Nat.le_refl _) _)⟩
            case measure =>
              have h1 : (vb.extract 1 vb.size).size = U.length := by rw [← HU.out]; simp
              have h2 := HUL.out
              have h3 := HZ.out
              show szL (.string (vb.extract 1 vb.size)) < szL (.string t)
              simp only [szL]
              omega
          · have x4 : ((d.toNat : Int) != 44) = true := bne_iff_ne.2 (fun q => h44 (UInt8.toNat_inj.1 (by show d.toNat = 44; omega)))
            have hG3 : some (acc ++ [V], d :: U) = o := by have := HG2.out; rw [if_neg h44] at this; exact this
            have HO2 := Lib.hid hG3
            clear hG3
            have w1 := (D5.out.2 0 _ rfl).1
            have v1 := (D5.out.2 0 _ rfl).2
            have w2' := (D5.out.2 1 _ rfl).1
            have v2 := (D5.out.2 1 _ rfl).2
            clear h44
            go_wp2
            exact bodyPost_ret (v := .tuple #[.agg #[.string a, .slice (some ⟨gg, 0, none⟩) (acc.length + 1) gcap], .string vb, .bool true]) (by simp (maxDischargeDepth := 9) [results, Try.results44, go_sem, z0', z1']) rfl ⟨_, _, _, _, rfl, Lib.hid (by rw [← HO2.out]; exact ⟨rfl, HA.out.1, HVB.out, World.ownsRow.mono (show World.ownsRow _ (w.heap.size + 1) _ _ _ (acc ++ [V]).length _ from by repeat (first | with_reducible exact R5.out | with_reducible refine own_set ?_ (Nat.lt_succ_self _) _ _)) (Nat.le_succ _)⟩), by repeat (first | with_reducible exact B5.out | with_reducible refine Below.setCell ?_ (by exact Nat.le_refl _) _)⟩
end Lin
end Go.Proofs.Ytdakpncfophjnaa
/-
  Contracts of package line: Check of whatever line.
-/
namespace Go.Proofs.Ytdakpncfophjnaa
open Go.RowKit
namespace Lin
open CutB Cel
open Opn (TxtV)
open Rws (RowS)
/-- A value reads as a list of parameters, wherever it came from. -/
def ParsV (w : World) (v : Value) (ps : List PV) : Prop := ∃ a n c, v = .slice a n c ∧ n = ps.length ∧ ∀ (j : Nat) (hj : j < ps.length), ∃ b off sv, a = some ⟨b, off, none⟩ ∧ b < w.heap.size ∧ w.cell? ⟨b, off + j * 2, none⟩ = some (.string ⟨(ps[j]).nm.toArray⟩) ∧ w.cell? ⟨b, off + j * 2 + 1, none⟩ = some sv ∧ TxtV w sv (ps[j]).vs
theorem ParsV.below {w w' : World} {v : Value} {ps : List PV} (h : ParsV w v ps) (hb : Below w.heap.size w w') : ParsV w' v ps := by
  obtain ⟨a, n, c, rfl, hn, h⟩ := h
  refine ⟨a, n, c, rfl, hn, fun j hj => ?_⟩
  obtain ⟨b, off, sv, h1, h2, h3, h4, h5⟩ := h j hj
  exact ⟨b, off, sv, h1, Nat.lt_of_lt_of_le h2 hb.size, (hb.cell (p := ⟨b, _, none⟩) h2).trans h3, (hb.cell (p := ⟨b, _, none⟩) h2).trans h4, h5.below hb⟩
theorem ParsV.form {w : World} {v : Value} {ps : List PV} (h : ParsV w v ps) (h0 : 0 < ps.length) : ∃ b off c, v = .slice (some ⟨b, off, none⟩) ps.length c ∧ b < w.heap.size ∧ ∀ (j : Nat) (hj : j < ps.length), ∃ sv, w.cell? ⟨b, off + j * 2, none⟩ = some (.string ⟨(ps[j]).nm.toArray⟩) ∧ w.cell? ⟨b, off + j * 2 + 1, none⟩ = some sv ∧ TxtV w sv (ps[j]).vs := by
  obtain ⟨a, n, c, rfl, rfl, h⟩ := h
  obtain ⟨b, off, sv, rfl, h2, _⟩ := h 0 h0
  refine ⟨b, off, c, rfl, h2, fun j hj => ?_⟩
  obtain ⟨b', off', sv', e, _, h3, h4, h5⟩ := h j hj
  injection e with e
  injection e with e1 e2 _
  subst e1 e2
  exact ⟨sv', h3, h4, h5⟩
theorem ParsV.nil {w : World} {v : Value} (h : ParsV w v []) : ∃ a c, v = .slice a 0 c := by
  obtain ⟨a, n, c, rfl, rfl, _⟩ := h
  exact ⟨a, c, rfl⟩
theorem ParsV.none (w : World) : ParsV w (.slice none 0 0) [] := ⟨_, _, _, rfl, rfl, fun j hj => by simp at hj⟩
def smlP (p : PV) : Prop := p.nm.length ≤ 1000000 ∧ p.vs.length ≤ 1000000 ∧ ∀ v ∈ p.vs, v.length ≤ 1000000
theorem par_snoc (ps : List PV) (k : Nat) (hk : k < ps.length) (h : (ps.take k).all parB = true) (hc : parB ps[k] = true) : (ps.take (k + 1)).all parB = true := by
  rw [List.take_succ_eq_append_getElem hk, List.all_append, h, List.all_cons, hc]
  rfl
theorem par_no (ps : List PV) (k : Nat) (hk : k < ps.length) (hc : parB ps[k] = false) : ps.all parB = false := by
  cases e : ps.all parB with
  | false => rfl
  | true =>
    have := List.all_eq_true.1 e ps[k] (List.getElem_mem hk)
    rw [hc] at this; cases this
theorem val_snoc (vs : List (List UInt8)) (k : Nat) (hk : k < vs.length) (h : (vs.take k).all valB = true) (hc : valB vs[k] = true) : (vs.take (k + 1)).all valB = true := by
  rw [List.take_succ_eq_append_getElem hk, List.all_append, h, List.all_cons, hc]
  rfl
theorem val_no (vs : List (List UInt8)) (k : Nat) (hk : k < vs.length) (hc : valB vs[k] = false) : vs.all valB = false := by
  cases e : vs.all valB with
  | false => rfl
  | true =>
    have := List.all_eq_true.1 e vs[k] (List.getElem_mem hk)
    rw [hc] at this; cases this
theorem iby_v (s : ByteArray) (S : List UInt8) (v : Int) (w : World) (hS : Hid (s.data.toList = S)) (h : Hid (Lib.indexByte S 34 = v)) :
    Calls Try.prog 53 #[.string s, .int .u8 34] w fun e w' => e = .returned (.int .i64 v) ∧ w = w' :=
  (Try.strings_IndexByte s 34 w).mono fun _ _ ⟨he, hw⟩ => ⟨by rw [he, hS.out]; show Ending.returned (.int .i64 (Lib.indexByte S 34)) = _; rw [h.out], hw.symm⟩
theorem ib_has (S : List UInt8) : S.contains 34 = decide (0 ≤ Lib.indexByte S 34) := by
  rw [← Lib.contains_iff_indexByte S 34]
set_option maxHeartbeats 3200000 in
set_option maxRecDepth 100000 in
theorem lck_1 (nm vl : List UInt8) (pv : Value) (w : World) (h1 : nm.length ≤ 1000000) (hn : Hid (nmB nm = false)) :
    Calls Try.prog 22 #[.agg #[.string ⟨nm.toArray⟩, pv, .string ⟨vl.toArray⟩]] w fun e w' => e = .returned (.int .i64 18) ∧ Below w.heap.size w w' := by
  have Z1 : Hid ((⟨nm.toArray⟩ : ByteArray).size ≤ 1000000) := Lib.hid h1
  go_enter Try.func22, Try.ntmps22
  go_wp2_with fail
  refine (lnm_to _ nm false _ Z1.out (Lib.hid rfl) hn).mono ?_
  rintro e w1 ⟨rfl, rfl⟩
  go_wp2
  go_ret
  exact ⟨rfl, (Below.refl _ _).alloc (Nat.le_refl _) _⟩
set_option maxHeartbeats 3200000 in
set_option maxRecDepth 100000 in
theorem lck_2 (nm vl : List UInt8) (pv : Value) (w : World) (h1 : nm.length ≤ 1000000) (h2 : vl.length ≤ 1000000) (hn : Hid (nmB nm = true)) (hv : Hid (plnB vl = false)) :
    Calls Try.prog 22 #[.agg #[.string ⟨nm.toArray⟩, pv, .string ⟨vl.toArray⟩]] w fun e w' => e = .returned (.int .i64 18) ∧ Below w.heap.size w w' := by
  have Z1 : Hid ((⟨nm.toArray⟩ : ByteArray).size ≤ 1000000) := Lib.hid h1
  have Z2 : Hid ((⟨vl.toArray⟩ : ByteArray).size ≤ 1000000) := Lib.hid h2
  go_enter Try.func22, Try.ntmps22
  go_wp2_with fail
  refine (lnm_to _ nm true _ Z1.out (Lib.hid rfl) hn).mono ?_
  rintro e w1 ⟨rfl, rfl⟩
  go_wp2_with fail
  refine (lpl_to _ vl false _ Z2.out (Lib.hid rfl) hv).mono ?_
  rintro e w1 ⟨rfl, rfl⟩
  go_wp2
  go_ret
  exact ⟨rfl, (Below.refl _ _).alloc (Nat.le_refl _) _⟩
set_option maxHeartbeats 3200000 in
set_option maxRecDepth 100000 in
theorem lck_3 (nm vl : List UInt8) (a : Option Addr) (c : Nat) (w : World) (h1 : nm.length ≤ 1000000) (h2 : vl.length ≤ 1000000) (hn : Hid (nmB nm = true)) (hv : Hid (plnB vl = true)) :
    Calls Try.prog 22 #[.agg #[.string ⟨nm.toArray⟩, .slice a 0 c, .string ⟨vl.toArray⟩]] w fun e w' => e = .returned (.int .i64 0) ∧ Below w.heap.size w w' := by
  have Z1 : Hid ((⟨nm.toArray⟩ : ByteArray).size ≤ 1000000) := Lib.hid h1
  have Z2 : Hid ((⟨vl.toArray⟩ : ByteArray).size ≤ 1000000) := Lib.hid h2
  go_enter Try.func22, Try.ntmps22
  go_wp2_with fail
  refine (lnm_to _ nm true _ Z1.out (Lib.hid rfl) hn).mono ?_
  rintro e w1 ⟨rfl, rfl⟩
  go_wp2_with fail
  refine (lpl_to _ vl true _ Z2.out (Lib.hid rfl) hv).mono ?_
  rintro e w1 ⟨rfl, rfl⟩
  go_wp2
  go_loopw [20] (fun i wr => i = .int .i64 0 ∧ Below w.heap.size w wr) (fun _ _ => 0)
  case atStart => exact ⟨rfl, (Below.refl _ _).alloc (Nat.le_refl _) _⟩
  case round =>
    obtain ⟨rfl, hb⟩ := hrel
    go_wp2
    go_ret
    exact ⟨rfl, hb⟩
set_option maxHeartbeats 12800000 in
set_option maxRecDepth 100000 in
theorem lck_4 (nm vl : List UInt8) (b off c : Nat) (ps : List PV) (e : Int) (w : World) (h1 : nm.length ≤ 1000000) (h2 : vl.length ≤ 1000000) (hn : Hid (nmB nm = true)) (hv : Hid (plnB vl = true))
    (hbl : b < w.heap.size) (hp : Hid (∀ (j : Nat) (hj : j < ps.length), ∃ sv, w.cell? ⟨b, off + j * 2, none⟩ = some (.string ⟨(ps[j]).nm.toArray⟩) ∧ w.cell? ⟨b, off + j * 2 + 1, none⟩ = some sv ∧ TxtV w sv (ps[j]).vs)) (hlen : ps.length ≤ 1000000) (hsm : Hid (∀ p ∈ ps, smlP p))
    (hE : Hid ((if ps.all parB = true then (0 : Int) else 18) = e)) :
    Calls Try.prog 22 #[.agg #[.string ⟨nm.toArray⟩, .slice (some ⟨b, off, none⟩) ps.length c, .string ⟨vl.toArray⟩]] w fun x w' => x = .returned (.int .i64 e) ∧ Below w.heap.size w w' := by
  have Z1 : Hid ((⟨nm.toArray⟩ : ByteArray).size ≤ 1000000) := Lib.hid h1
  have Z2 : Hid ((⟨vl.toArray⟩ : ByteArray).size ≤ 1000000) := Lib.hid h2
  obtain ⟨N, hN⟩ : ∃ N, ps.length = N := ⟨_, rfl⟩
  rw [hN] at hlen ⊢
  have HN := Lib.hid hN
  clear hN h1 h2
  go_enter Try.func22, Try.ntmps22
  go_wp2_with fail
  refine (lnm_to _ nm true _ Z1.out (Lib.hid rfl) hn).mono ?_
  rintro e w1 ⟨rfl, rfl⟩
  go_wp2_with fail
  refine (lpl_to _ vl true _ Z2.out (Lib.hid rfl) hv).mono ?_
  rintro e w1 ⟨rfl, rfl⟩
  go_wp2
  go_loopw [20] (fun i wr => ∃ k : Nat, k ≤ N ∧ i = .int .i64 k ∧ Hid ((ps.take k).all parB = true) ∧ Below w.heap.size w wr) (fun i _ => N - (intOf i).toNat)
  case atStart => exact ⟨0, Nat.zero_le _, rfl, Lib.hid rfl, (Below.refl _ _).alloc (Nat.le_refl _) _⟩
  case round =>
    obtain ⟨k, hk, rfl, hall, hb⟩ := hrel
    obtain ⟨wo, rfl⟩ : ∃ wo : World, wo = wr := ⟨_, rfl⟩
    by_cases hlt : k < N
    · have hkp : k < ps.length := by rw [HN.out]; exact hlt
      obtain ⟨sv, c0, c1, ht⟩ := hp.out k hkp
      obtain ⟨p, hpk⟩ : ∃ p, ps[k]'hkp = p := ⟨_, rfl⟩
      rw [hpk] at c0 ht
      obtain ⟨s1, s2, s3⟩ := hsm.out p (hpk ▸ List.getElem_mem hkp)
      have HNX : Hid (parB p = true → (ps.take (k + 1)).all parB = true) := Lib.hid (fun q => par_snoc ps k hkp hall.out (by rw [hpk]; exact q))
      have HNO : Hid (parB p = false → 18 = e) := Lib.hid (fun q => by rw [← hE.out, if_neg (by rw [par_no ps k hkp (by rw [hpk]; exact q)]; decide)])
      have d0 := (hb.cell (p := ⟨b, off + k * 2, none⟩) hbl).trans c0
      have d1 := (hb.cell (p := ⟨b, off + k * 2 + 1, none⟩) hbl).trans c1
      have Z3 : Hid ((⟨p.nm.toArray⟩ : ByteArray).size ≤ 1000000) := Lib.hid s1
      have HS3 := Lib.hid s3
      have HB := Lib.hid hb
      have HT := Lib.hid (ht.below hb)
      clear hpk hkp c0 c1 ht s1 s3 hb hall
      cases hnm : nmB p.nm with
      | false =>
        have HR := Lib.hid (HNO.out (by rw [parB, hnm]; rfl))
        have HM := Lib.hid hnm
        obtain ⟨a', c', rfl⟩ := HT.out.slice
        clear hnm HT
        go_wp2_with fail
        refine (lnm_to _ p.nm false _ Z3.out (Lib.hid rfl) HM).mono ?_
        rintro e w1 ⟨rfl, rfl⟩
        go_wp2
        go_ret
        exact ⟨ret_i HR.out, HB.out.alloc HB.out.size _⟩
      | true =>
        have HM := Lib.hid hnm
        clear hnm
        by_cases hz : p.vs.length = 0
        · have hz' : p.vs = [] := List.eq_nil_of_length_eq_zero hz
          have HR := Lib.hid (HNO.out (by rw [parB, hz']; simp))
          have ht := HT.out
          rw [hz'] at ht
          obtain ⟨a', c', rfl⟩ := ht.nil
          clear ht hz hz' HT
          go_wp2_with fail
          refine (lnm_to _ p.nm true _ Z3.out (Lib.hid rfl) HM).mono ?_
          rintro e w1 ⟨rfl, rfl⟩
          go_wp2
          go_ret
          exact ⟨ret_i HR.out, HB.out.alloc HB.out.size _⟩
        · obtain ⟨b2, off2, c2, rfl, hb2, hc2⟩ := HT.out.form (by omega)
          obtain ⟨M, hM⟩ : ∃ M, p.vs.length = M := ⟨_, rfl⟩
          have HMM := Lib.hid hM
          have HC2 := Lib.hid hc2
          have x1 : ((M : Int) == 0) = false := beq_eq_false_iff_ne.2 (by omega)
          have x2 : ¬ M = 0 := by omega
          have hM1 : M ≤ 1000000 := by omega
          rw [hM] at d1
          clear hz hM hc2 HT s2
          go_wp2_with fail
          refine (lnm_to _ p.nm true _ Z3.out (Lib.hid rfl) HM).mono ?_
          rintro e w1 ⟨rfl, rfl⟩
          go_wp2
          go_loopw [37] (fun i wr => ∃ j : Nat, j ≤ M ∧ i = .int .i64 j ∧ Hid ((p.vs.take j).all valB = true) ∧ Below wo.heap.size wo wr) (fun i _ => M - (intOf i).toNat)
          case atStart => exact ⟨0, Nat.zero_le _, rfl, Lib.hid rfl, (Below.refl _ _).alloc (Nat.le_refl _) _⟩
          case round =>
            obtain ⟨j, hj, rfl, hvall, hbi⟩ := hrel
            by_cases hjt : j < M
            · have hjv : j < p.vs.length := by rw [HMM.out]; exact hjt
              have f0 := (hbi.cell (p := ⟨b2, off2 + j, none⟩) hb2).trans (HC2.out j hjv)
              obtain ⟨v, hvj⟩ : ∃ v, p.vs[j]'hjv = v := ⟨_, rfl⟩
              rw [hvj] at f0
              have Z4 : Hid ((⟨v.toArray⟩ : ByteArray).size ≤ 1000000) := Lib.hid (HS3.out v (hvj ▸ List.getElem_mem hjv))
              have HVX : Hid (valB v = true → (p.vs.take (j + 1)).all valB = true) := Lib.hid (fun q => val_snoc p.vs j hjv hvall.out (by rw [hvj]; exact q))
              have HVN : Hid (valB v = false → 18 = e) := Lib.hid (fun q => HNO.out (by rw [parB, val_no p.vs j hjv (by rw [hvj]; exact q)]; simp))
              have HBI := Lib.hid hbi
              clear hvj hjv hbi hvall
              cases hpl : plnB v with
              | false =>
                have HR := Lib.hid (HVN.out (by rw [valB, hpl]; rfl))
                have HPL := Lib.hid hpl
                clear hpl
                go_wp2_with fail
                refine (lpl_to _ v false _ Z4.out (Lib.hid rfl) HPL).mono ?_
                rintro e w1 ⟨rfl, rfl⟩
                go_wp2
                go_ret
                exact ⟨ret_i HR.out, bstep HB.out HBI.out⟩
              | true =>
                have HPL := Lib.hid hpl
                obtain ⟨q, hq⟩ : ∃ q, Lib.indexByte v 34 = q := ⟨_, rfl⟩
                have HQ := Lib.hid hq
                have hcon := ib_has v
                rw [hq] at hcon
                clear hq
                by_cases hge : 0 ≤ q
                · have HR := Lib.hid (HVN.out (by rw [valB, hpl, hcon, decide_eq_true hge]; rfl))
                  clear hpl hcon
                  go_wp2_with fail
                  refine (lpl_to _ v true _ Z4.out (Lib.hid rfl) HPL).mono ?_
                  rintro e w1 ⟨rfl, rfl⟩
                  go_wp2_with fail
                  refine (iby_v _ v q _ (Lib.hid rfl) HQ).mono ?_
                  rintro e w1 ⟨rfl, rfl⟩
                  go_wp2
                  go_ret
                  exact ⟨ret_i HR.out, bstep HB.out HBI.out⟩
                · have HVV := Lib.hid (HVX.out (by rw [valB, hpl, hcon, decide_eq_false hge]; rfl))
                  clear hpl hcon
                  go_wp2_with fail
                  refine (lpl_to _ v true _ Z4.out (Lib.hid rfl) HPL).mono ?_
                  rintro e w1 ⟨rfl, rfl⟩
                  go_wp2_with fail
                  refine (iby_v _ v q _ (Lib.hid rfl) HQ).mono ?_
                  rintro e w1 ⟨rfl, rfl⟩
                  go_wp2
                  go_roundw
                  case rel => exact ⟨j + 1, by omega, by go_num, HVV, HBI.out⟩
                  case measure => simp [intOf]; omega
            · have HPP := Lib.hid (HNX.out (by
                rw [parB, HM.out]
                have := hvall.out
                rw [List.take_of_length_le (by rw [HMM.out]; omega)] at this
                rw [this, HMM.out, decide_eq_true (show 0 < M by omega)]
                rfl))
              have HBO := Lib.hid (bstep HB.out hbi)
              clear hvall hbi
              go_wp2
              go_roundw
              case rel => exact ⟨k + 1, by omega, by go_num, HPP, HBO.out⟩
              case measure => simp [intOf]; omega
    · have HR : Hid (0 = e) := Lib.hid (by
        rw [← hE.out, if_pos]
        have := hall.out
        rw [List.take_of_length_le (by rw [HN.out]; omega)] at this
        exact this)
      go_wp2
      go_ret
      exact ⟨ret_i HR.out, hb⟩
theorem lchk_to (nm vl : List UInt8) (pv : Value) (ps : List PV) (e : Int) (w : World) (h1 : nm.length ≤ 1000000) (h2 : vl.length ≤ 1000000) (hp : ParsV w pv ps) (hlen : ps.length ≤ 1000000) (hsm : ∀ p ∈ ps, smlP p) (hE : Hid (lnE ⟨nm, ps, vl⟩ = e)) :
    Calls Try.prog 22 #[.agg #[.string ⟨nm.toArray⟩, pv, .string ⟨vl.toArray⟩]] w fun x w' => x = .returned (.int .i64 e) ∧ Below w.heap.size w w' := by
  have hE := hE.out
  rw [lnE, lnB] at hE
  simp only at hE
  cases q1 : nmB nm with
  | false =>
    rw [q1] at hE
    have hE : (18 : Int) = e := hE
    subst hE
    exact lck_1 nm vl pv w h1 (Lib.hid q1)
  | true =>
    cases q2 : plnB vl with
    | false =>
      rw [q1, q2] at hE
      have hE : (18 : Int) = e := hE
      subst hE
      exact lck_2 nm vl pv w h1 h2 (Lib.hid q1) (Lib.hid q2)
    | true =>
      rw [q1, q2, Bool.true_and, Bool.true_and] at hE
      cases ps with
      | nil =>
        have hE : (0 : Int) = e := hE
        subst hE
        obtain ⟨a, c, rfl⟩ := hp.nil
        exact lck_3 nm vl a c w h1 h2 (Lib.hid q1) (Lib.hid q2)
      | cons p ps =>
        obtain ⟨b, off, c, rfl, hb, hc⟩ := hp.form (by simp)
        exact lck_4 nm vl b off c (p :: ps) e w h1 h2 (Lib.hid q1) (Lib.hid q2) hb (Lib.hid hc) hlen (Lib.hid hsm) (Lib.hid hE)
end Lin
end Go.Proofs.Ytdakpncfophjnaa
/-
  Package line: rows of parameters that a call owns; what reading leaves.
-/
namespace Go.Proofs.Ytdakpncfophjnaa
open Go.RowKit
namespace Lin
open CutB Cel
open Opn (TxtV)
open Rws (RowS)
theorem infoP : (Try.prog.info? 45).map (fun i => (i.zero, i.size, i.bytes)) = some (some (.agg #[.string ⟨#[]⟩, .slice none 0 0]), 2, 40) := by kernel_rfl
/-- A row of parameters that the call owns from block B on, their values likewise. -/
def ParR (B : Nat) (w : World) (v : Value) (ps : List PV) : Prop := ∃ xs, w.ownsRow B 45 2 v ps.length xs ∧ ∀ (j : Nat) (hj : j < ps.length), ∃ sv, xs[j * 2]? = some (.string ⟨(ps[j]).nm.toArray⟩) ∧ xs[j * 2 + 1]? = some sv ∧ RowS B w sv (ps[j]).vs
theorem ParR.nil (B : Nat) (w : World) : ParR B w (.slice none 0 0) [] := ⟨[], World.ownsRow_nil _ _ _ _, fun j hj => by simp at hj⟩
theorem ParR.set {B g : Nat} {w : World} {v : Value} {ps : List PV} (h : ParR B w v ps) (hg : g < B) (i : Nat) (x : Value) : ParR B (w.setCell ⟨g, i, none⟩ x) v ps := by
  obtain ⟨xs, h1, h2⟩ := h
  refine ⟨xs, own_set h1 hg i x, fun j hj => ?_⟩
  obtain ⟨sv, a, b, c⟩ := h2 j hj
  exact ⟨sv, a, b, own_set c hg i x⟩
theorem ParR.below {B : Nat} {w w' : World} {v : Value} {ps : List PV} (h : ParR B w v ps) (hb : Below w.heap.size w w') : ParR B w' v ps := by
  obtain ⟨xs, h1, h2⟩ := h
  refine ⟨xs, Esc.owns_below h1 hb, fun j hj => ?_⟩
  obtain ⟨sv, a, b, c⟩ := h2 j hj
  exact ⟨sv, a, b, c.below hb⟩
theorem ParR.alloc {B : Nat} {w : World} {v : Value} {ps : List PV} (h : ParR B w v ps) (o : Obj) : ParR B (w.alloc o) v ps := h.below ((Below.refl _ _).alloc (Nat.le_refl _) o)
theorem ParR.pars {B : Nat} {w : World} {v : Value} {ps : List PV} (h : ParR B w v ps) : ParsV w v ps := by
  obtain ⟨xs, h1, h2⟩ := h
  rcases h1.2 with ⟨rfl, hn⟩ | ⟨g, cap, cur, rfl, hg, hh, _⟩
  · have : ps = [] := List.eq_nil_of_length_eq_zero hn
    subst this
    exact ParsV.none w
  · refine ⟨_, _, _, rfl, rfl, fun j hj => ?_⟩
    obtain ⟨sv, a, b, c⟩ := h2 j hj
    have k1 := h1.cellAt (j * 2) (by omega)
    have k2 := h1.cellAt (j * 2 + 1) (by omega)
    have hlt : g < w.heap.size := (h1.lt g rfl).2
    exact ⟨g, 0, sv, rfl, hlt, by rw [Nat.zero_add, k1, a], by rw [Nat.zero_add, k2, b], c.txt⟩
theorem ParR.form {B : Nat} {w : World} {v : Value} {ps : List PV} (h : ParR B w v ps) : ∃ a c, v = .slice a ps.length c := by
  obtain ⟨a, n, c, rfl, rfl, _⟩ := h.pars
  exact ⟨a, c, rfl⟩
theorem cs_lo {g B : Nat} {w w' : World} {vs : List Value} (h : Cs g w vs) (hb : Below B w w') (hg : g < B) (hs : w.heap.size ≤ w'.heap.size) : Cs g w' vs :=
  ⟨Nat.lt_of_lt_of_le h.1 hs, fun i v hi => ⟨(hb.cell (p := ⟨g, i, none⟩) hg).trans (h.2 i v hi).1, (hb.frozen (p := ⟨g, i, none⟩) hg).trans (h.2 i v hi).2⟩⟩
theorem lchk_v (a b : ByteArray) (nm vl : List UInt8) (pv : Value) (ps : List PV) (e : Int) (w : World) (ha : a = ⟨nm.toArray⟩) (hb : b = ⟨vl.toArray⟩) (h1 : nm.length ≤ 1000000) (h2 : vl.length ≤ 1000000) (hp : ParsV w pv ps) (hlen : ps.length ≤ 1000000) (hsm : ∀ p ∈ ps, smlP p) (hE : Hid (lnE ⟨nm, ps, vl⟩ = e)) :
    Calls Try.prog 22 #[.agg #[.string a, pv, .string b]] w fun x w' => x = .returned (.int .i64 e) ∧ Below w.heap.size w w' := by
  subst ha hb
  exact lchk_to nm vl pv ps e w h1 h2 hp hlen hsm hE
/-- append(ps, p). -/
theorem appP {w : World} {ops : Array Oper} {rest : List Oper} {o : Oper} {a : Act} {Q : Exit → Act → World → Prop} (hgd : o.guard = none) (s x : Operand)
    (ho : o.op = .call { callee := .builtin .append, args := #[s, x], argTypes := #[22, 22] })
    (B : Nat) (v : Value) (ps : List PV) (hs : a.eval s = v) (hown : ParR B w v ps) (p : PV) (y : ByteArray) (u : Value) (hy : y = ⟨p.nm.toArray⟩) (hu : RowS B w u p.vs) (hx : a.eval x = .slice (some ⟨w.heap.size, 0, none⟩) 1 1)
    (hlen : ps.length ≤ 1000000000) (hB : B ≤ w.heap.size)
    (h : ∀ w' g cap, ParR B w' (.slice (some ⟨g, 0, none⟩) (ps.length + 1) cap) (ps ++ [p]) → (∀ (B0 : Nat) (W0 : World), B0 ≤ B → Below B0 W0 w → B0 ≤ w.heap.size → Below B0 W0 w') → w.heap.size ≤ w'.heap.size → wpList Try.prog ops Q rest (a.put o.dst (.slice (some ⟨g, 0, none⟩) (ps.length + 1) cap)) w') :
    wpList Try.prog ops Q (o :: rest) a (w.alloc (.cells #[.string y, u] 45)) := by
  obtain ⟨i0, hi0, hz0, hz1, hz2⟩ := info_parts infoP
  obtain ⟨xs, h1, h2⟩ := hown
  have huf : u.oneCell' = true := by
    rcases hu.2 with ⟨rfl, _⟩ | ⟨g, cap, cur, rfl, _⟩ <;> rfl
  refine wpList_append_own _ hgd s x 22 ho B 45 i0 (.agg #[.string ⟨#[]⟩, .slice none 0 0]) 2 40 (by kernel_rfl) hi0 hz0 hz1 hz2 rfl (by decide) v ps.length _ hs (h1.alloc _) ⟨w.heap.size, 0, none⟩ 1 1 [.string y, u] hx rfl ?_ ?_ (by unfold maxLen; omega) (by omega) (by simp; omega) ?_
  · intro j z hj
    match j, hj with
    | 0, hj =>
      simp at hj; subst hj
      rw [show (⟨w.heap.size, 0, none⟩ : Addr).add 0 = ⟨w.heap.size, 0, none⟩ from by simp [Addr.add], World.cell?_alloc_new]
      rfl
    | 1, hj =>
      simp at hj; subst hj
      rw [show (⟨w.heap.size, 0, none⟩ : Addr).add 1 = ⟨w.heap.size, 1, none⟩ from by simp [Addr.add], World.cell?_alloc_new]
      rfl
    | j + 2, hj => simp at hj
  · intro z hz
    simp only [List.mem_cons, List.mem_nil_iff, or_false] at hz
    rcases hz with rfl | rfl
    · rfl
    · exact huf
  · intro v' w' r3 g3 hne
    have hl : (ps ++ [p]).length = ps.length + 1 := by simp
    have keep : ∀ (sv : Value) (L : List (List UInt8)), RowS B w sv L → RowS B w' sv L := fun sv L hL =>
      World.ownsRow.kept (World.ownsRow.alloc hL _) g3 (Rws.apart hL h1 (by decide))
    have hp : ParR B w' v' (ps ++ [p]) := by
      refine ⟨xs ++ [.string y, u], by rw [hl]; exact r3, fun j hj => ?_⟩
      have hxl : xs.length = ps.length * 2 := h1.1
      by_cases hjp : j < ps.length
      · obtain ⟨sv, a1, b1, c1⟩ := h2 j hjp
        have e : (ps ++ [p])[j] = ps[j] := List.getElem_append_left hjp
        rw [e]
        exact ⟨sv, by rw [List.getElem?_append_left (by omega)]; exact a1, by rw [List.getElem?_append_left (by omega)]; exact b1, keep _ _ c1⟩
      · obtain rfl : j = ps.length := by omega
        have e : (ps ++ [p])[ps.length] = p := by simp
        rw [e]
        refine ⟨u, ?_, ?_, keep _ _ hu⟩
        · rw [List.getElem?_append_right (by omega), hxl, Nat.sub_self, hy]; rfl
        · rw [List.getElem?_append_right (by omega), hxl, show ps.length * 2 + 1 - ps.length * 2 = 1 by omega]; rfl
    have hform : ∃ g cap, v' = .slice (some ⟨g, 0, none⟩) (ps.length + 1) cap := by
      rcases r3.2 with ⟨_, e⟩ | ⟨g, cap, cur, e, _⟩
      · omega
      · exact ⟨g, cap, e⟩
    obtain ⟨g, cap, rfl⟩ := hform
    exact h w' g cap hp (fun B0 W0 hB0 hb hw => (hb.alloc hw _).grown g3 (by simp; omega) (fun k hk => Nat.le_trans hB0 (h1.lt k hk).1)) (Nat.le_trans (by simp) g3.size)
/-! ### What reading leaves -/
theorem rvL_bd {T V R : List UInt8} (h : rvL T = some (V, R)) : V.length ≤ T.length := by
  cases T with
  | nil => cases h
  | cons c U =>
    rw [rvL] at h
    split at h
    · split at h
      · cases h
      · injection h with h
        injection h with h _
        subst h
        have := hd_len [34] U
        simp only [List.length_cons]
        omega
    · split at h
      · cases h
      · injection h with h
        injection h with h _
        subst h
        exact hd_len _ _
theorem rvG_bd : ∀ (f : Nat) (T : List UInt8) (acc vs : List (List UInt8)) (R : List UInt8), rvG f T acc = some (vs, R) → 0 < R.length ∧ R.length ≤ T.length ∧ vs.length + R.length ≤ acc.length + T.length + 1 ∧ ∀ v ∈ vs, v ∈ acc ∨ v.length ≤ T.length
  | 0, _, _, _, _, h => by cases h
  | f + 1, T, acc, vs, R, h => by
    rw [rvG] at h
    cases hr : rvL T with
    | none => rw [hr] at h; cases h
    | some VR =>
      obtain ⟨V, Q⟩ := VR
      rw [hr] at h
      have l1 := rv_len hr
      have l2 := rvL_bd hr
      cases Q with
      | nil => cases h
      | cons d U =>
        simp only [List.length_cons] at l1
        have h : (if d = 44 then rvG f U (acc ++ [V]) else some (acc ++ [V], d :: U)) = some (vs, R) := h
        by_cases e : d = 44
        · rw [if_pos e] at h
          obtain ⟨a1, a2, a3, a4⟩ := rvG_bd f U _ _ _ h
          simp only [List.length_append, List.length_cons, List.length_nil] at a3
          refine ⟨a1, by omega, by omega, fun v hv => ?_⟩
          rcases a4 v hv with q | q
          · rcases List.mem_append.1 q with q | q
            · exact Or.inl q
            · rw [List.mem_singleton.1 q]; exact Or.inr l2
          · exact Or.inr (by omega)
        · rw [if_neg e] at h
          injection h with h
          injection h with h1 h2
          subst h1 h2
          refine ⟨by simp, by simp; omega, by simp; omega, fun v hv => ?_⟩
          rcases List.mem_append.1 hv with q | q
          · exact Or.inl q
          · rw [List.mem_singleton.1 q]; exact Or.inr l2
theorem rpL_bd {S : List UInt8} {p : PV} {R : List UInt8} (h : rpL S = some (p, R)) (hS : S.length ≤ 999999) : 0 < R.length ∧ R.length ≤ S.length ∧ smlP p := by
  rw [rpL] at h
  split at h
  · cases h
  · cases hg : rvG (S.length + 1) (tlT [61] S).tail [] with
    | none => rw [hg] at h; cases h
    | some VR =>
      obtain ⟨vs, Q⟩ := VR
      rw [hg] at h
      injection h with h
      injection h with h1 h2
      subst h1 h2
      obtain ⟨a1, a2, a3, a4⟩ := rvG_bd _ _ _ _ _ hg
      have t1 := tl_len [61] S
      have t2 := hd_len [61] S
      rw [List.length_tail] at a2 a3
      simp only [List.length_nil] at a3
      refine ⟨a1, by omega, ⟨by show (hdT [61] S).length ≤ _; omega, by show vs.length ≤ _; omega, fun v hv => ?_⟩⟩
      rcases a4 v hv with q | q
      · cases q
      · rw [List.length_tail] at q; omega
end Lin
end Go.Proofs.Ytdakpncfophjnaa
/-
  Contracts of package line: Parse of whatever text.
-/
namespace Go.Proofs.Ytdakpncfophjnaa
open Go.RowKit
namespace Lin
open CutB Cel
open Opn (TxtV)
open Rws (RowS)
/-- What Parse hands back. -/
def LpQ (r : Int × LV) (w : World) (e : Ending) (w' : World) : Prop := ∃ (pv : Value), e = .returned (.tuple #[.agg #[.string ⟨r.2.nm.toArray⟩, pv, .string ⟨r.2.vl.toArray⟩], .int .i64 r.1]) ∧ Hid (ParsV w' pv r.2.ps ∧ r.2.nm.length ≤ 1000000 ∧ r.2.vl.length ≤ 1000000 ∧ r.2.ps.length ≤ 1000000 ∧ ∀ p ∈ r.2.ps, smlP p) ∧ Below w.heap.size w w'
def lpO (nm : List UInt8) : Option (List PV × List UInt8) → Int × LV
  | none => (18, LV.zero)
  | some (_, []) => (18, LV.zero)
  | some (ps, c :: T) => if c = 58 ∧ lnB ⟨nm, ps, T⟩ = true then (0, ⟨nm, ps, T⟩) else (18, LV.zero)
theorem lnP_eq (S : List UInt8) : lnP S = if tlT [58, 59] S = [] then (18, LV.zero) else lpO (hdT [58, 59] S) (pgL (S.length + 1) (tlT [58, 59] S) []) := by
  rw [lnP, lnX]
  by_cases h : tlT [58, 59] S = []
  · rw [if_pos h, if_pos h]
  · rw [if_neg h, if_neg h]
    cases pgL (S.length + 1) (tlT [58, 59] S) [] with
    | none => rfl
    | some x =>
      obtain ⟨ps, T⟩ := x
      cases T with
      | nil => rfl
      | cons c T =>
        by_cases q : c = 58 ∧ lnB ⟨hdT [58, 59] S, ps, T⟩ = true
        · simp only [lpO, if_pos q]
        · simp only [lpO, if_neg q]
theorem zq (w w' : World) (hb : Below w.heap.size w w') : LpQ (18, LV.zero) w (.returned (.tuple #[.agg #[.string ⟨#[]⟩, .slice none 0 0, .string ⟨#[]⟩], .int .i64 18])) w' :=
  ⟨_, rfl, Lib.hid ⟨ParsV.none _, by simp [LV.zero], by simp [LV.zero], by simp [LV.zero], by simp [LV.zero]⟩, hb⟩
/-- The head of its loop: g the result's block, q the line's. -/
def LpR (w : World) (q : Nat) (nm : ByteArray) (o : Option (List PV × List UInt8)) (sv : Value) (wr : World) : Prop := ∃ (f : Nat) (T : List UInt8) (acc : List PV) (pv : Value) (t : ByteArray), sv = .string t ∧ Hid (t.data.toList = T) ∧ 0 < T.length ∧ T.length < f ∧ acc.length + T.length ≤ 900000 ∧ Hid (pgL f T acc = o) ∧ Cs w.heap.size wr [.string ⟨#[]⟩, .slice none 0 0, .string ⟨#[]⟩] ∧ Cs q wr [.string nm, pv, .string ⟨#[]⟩] ∧ ParR (q + 1) wr pv acc ∧ Hid (∀ p ∈ acc, smlP p) ∧ Below w.heap.size w wr
set_option maxHeartbeats 25600000 in
set_option maxRecDepth 100000 in
theorem lp_to (s : ByteArray) (S : List UInt8) (w : World) (hs : s.size ≤ 800000) (hS : Hid (s.data.toList = S)) :
    Calls Try.prog 15 #[.string s] w (LpQ (lnP S) w) := by
  have hl : S.length = s.size := by rw [← hS.out]; simp
  by_cases y : tlT [58, 59] S = []
  · have HR : Hid (lnP S = (18, LV.zero)) := Lib.hid (by rw [lnP_eq, if_pos y])
    have HB : Hid (Lib.indexAny S [58, 59] = -1) := Lib.hid (by rw [ia_eq, if_pos y])
    rw [HR.out]
    clear y hl
    go_enter Try.func15, Try.ntmps15
    go_wp2_with fail
    refine (ia_v _ _ S [58, 59] (-1) _ sg2 (by omega) hS HB).mono ?_
    rintro e w1 ⟨rfl, b1⟩
    have C1 := Lib.hid (Cs.below (Cs.new w [.string ⟨#[]⟩, .slice none 0 0, .string ⟨#[]⟩] 24) b1)
    have B1 := Lib.hid (bstep ((Below.refl w.heap.size w).alloc (Nat.le_refl _) _) b1)
    have z0 := (C1.out.2 0 _ rfl).1
    have y0 := (C1.out.2 0 _ rfl).2
    have z1 := (C1.out.2 1 _ rfl).1
    have y1 := (C1.out.2 1 _ rfl).2
    have z2 := (C1.out.2 2 _ rfl).1
    have y2 := (C1.out.2 2 _ rfl).2
    clear b1
    go_wp2
    exact bodyPost_ret (v := .tuple #[.agg #[.string ⟨#[]⟩, .slice none 0 0, .string ⟨#[]⟩], .int .i64 18]) (by simp (maxDischargeDepth := 9) [results, Try.results15, go_sem, z0, z1, z2]) rfl (zq _ _ (by repeat (first | with_reducible exact B1.out | with_reducible refine Below.setCell ?_ (by exact Nat.le_refl _) _)))
  · obtain ⟨o, ho⟩ : ∃ o, pgL (S.length + 1) (tlT [58, 59] S) [] = o := ⟨_, rfl⟩
    obtain ⟨m, hm⟩ : ∃ m, (hdT [58, 59] S).length = m := ⟨_, rfl⟩
    have HR : Hid (lnP S = lpO (hdT [58, 59] S) o) := Lib.hid (by rw [lnP_eq, if_neg y, ho])
    have HB : Hid (Lib.indexAny S [58, 59] = (m : Int)) := Lib.hid (by rw [ia_eq, if_neg y, hm])
    have hlt : m < s.size := by rw [← hl, ← hm]; exact hd_lt y
    have HA : Hid (s.extract 0 m = ⟨(hdT [58, 59] S).toArray⟩ ∧ (s.extract m s.size).data.toList = tlT [58, 59] S) := Lib.hid ⟨Rws.ba_eq (by rw [dt0, hS.out, ← hm, take_hd]), by rw [dtE, hS.out, ← hm, drop_hd]⟩
    have HLN : Hid (0 < (tlT [58, 59] S).length ∧ (tlT [58, 59] S).length < S.length + 1 ∧ (tlT [58, 59] S).length ≤ 900000 ∧ (hdT [58, 59] S).length ≤ 1000000) := Lib.hid ⟨List.length_pos_iff.2 y, by have := tl_len [58, 59] S; omega, by have := tl_len [58, 59] S; omega, by have := hd_len [58, 59] S; omega⟩
    have HO := Lib.hid ho
    have t1 : (m : Int).toNat = m := rfl
    rw [HR.out]
    clear y hl ho hm HR
    go_enter Try.func15, Try.ntmps15
    go_wp2_with fail
    refine (ia_v _ _ S [58, 59] (m : Int) _ sg2 (by omega) hS HB).mono ?_
    rintro e w1 ⟨rfl, b1⟩
    have C1 := Lib.hid (Cs.below (Cs.new w [.string ⟨#[]⟩, .slice none 0 0, .string ⟨#[]⟩] 24) b1)
    have B1 := Lib.hid (bstep ((Below.refl w.heap.size w).alloc (Nat.le_refl _) _) b1)
    have gz : w.heap.size < w1.heap.size := C1.out.1
    clear b1
    go_wp2
    go_loopw [0] (LpR w w1.heap.size (s.extract 0 m) o) (fun sv _ => szL sv)
    case atStart =>
      exact ⟨S.length + 1, tlT [58, 59] S, [], .slice none 0 0, _, rfl, Lib.hid HA.out.2, HLN.out.1, HLN.out.2.1, by simpa using HLN.out.2.2.1, HO, C1.out.alloc _, Cs.new _ _ _, ParR.nil _ _, Lib.hid (by simp), B1.out.alloc B1.out.size _⟩
    case round =>
      obtain ⟨f, T, acc, pv, t, rfl, hT, h0, hf, hlen, hG, hC, hQ, hRw, hsm, hB⟩ := hrel
      have hz : t.size = T.length := by rw [← hT.out]; simp
      have hzb : t.size ≤ 900000 := by omega
      obtain ⟨f, rfl⟩ : ∃ k, f = k + 1 := ⟨f - 1, by omega⟩
      have C2 := Lib.hid hC
      have Q2 := Lib.hid hQ
      have B2 := Lib.hid hB
      have R2 := Lib.hid hRw
      have HZ := Lib.hid hz
      clear hC hB hRw hQ
      obtain ⟨c, U, rfl⟩ : ∃ c U, T = c :: U := by
        cases T with
        | nil => simp at h0
        | cons c U => exact ⟨c, U, rfl⟩
      have ht0 : 0 < t.size := by rw [hz]; simp
      obtain ⟨_, hx⟩ := at_l hT.out 0 ht0
      have hx : t[0] = c := hx
      have hU : Hid ((t.extract 1 t.size).data.toList = U) := Lib.hid (by rw [dtE, hT.out]; rfl)
      have hUz : (t.extract 1 t.size).size = U.length := by
        have : (t.extract 1 t.size).size = (t.extract 1 t.size).data.toList.length := by simp
        rw [this, hU.out]
      have HUZ : Hid ((t.extract 1 t.size).size ≤ 1000000) := Lib.hid (by rw [hUz]; simp only [List.length_cons] at hz; omega)
      have HUL : Hid (U.length ≤ 999999 ∧ acc.length + U.length + 1 ≤ 900000 ∧ U.length < f ∧ t.size = U.length + 1) := Lib.hid (by simp only [List.length_cons] at hz hlen hf; omega)
      have e1 : (1 : Int) ≤ (t.size : Int) := by omega
      have e2 : 1 ≤ t.size := by omega
      have cb := c.toNat_lt
      have hG' := hG.out
      rw [pgL] at hG'
      clear hz hf hUz HZ
      by_cases h59 : c = 59
      · subst h59
        rw [if_pos rfl] at hG'
        have HG2 := Lib.hid hG'
        clear hG hG'
        go_wp2_with fail
        refine (rp_to _ U _ HUZ.out hU).mono ?_
        rintro e w2 ⟨va, vs, vb, vc, rfl, hv, b2⟩
        have hv := hv.out
        have hG' := HG2.out
        cases hr : rpL U with
        | none =>
          rw [hr] at hv hG'
          obtain ⟨rfl, rfl⟩ : vc = false ∧ vs = .slice none 0 0 := hv
          have HO2 : Hid (none = o) := Lib.hid hG'
          have C3 := Lib.hid (C2.out.below b2)
          have B3 := Lib.hid (bstep B2.out b2)
          have gq : w.heap.size < w2.heap.size := C3.out.1
          have z0 := (C3.out.2 0 _ rfl).1
          have y0 := (C3.out.2 0 _ rfl).2
          have z1 := (C3.out.2 1 _ rfl).1
          have y1 := (C3.out.2 1 _ rfl).2
          have z2 := (C3.out.2 2 _ rfl).1
          have y2 := (C3.out.2 2 _ rfl).2
          clear hr hv hG' b2 HG2
          go_wp2
          exact bodyPost_ret (v := .tuple #[.agg #[.string ⟨#[]⟩, .slice none 0 0, .string ⟨#[]⟩], .int .i64 18]) (by simp (maxDischargeDepth := 9) [results, Try.results15, go_sem, z0, z1, z2, gq]) rfl (by rw [← HO2.out]; exact zq _ _ (by repeat (first | with_reducible exact B3.out | with_reducible refine Below.setCell ?_ (by exact Nat.le_refl _) _ | with_reducible refine Below.alloc ?_ (by have := B3.out.size; simp; omega) _)))
        | some pR =>
          obtain ⟨p, R⟩ := pR
          rw [hr] at hv hG'
          obtain ⟨rfl, hva, hvb, hvs⟩ : vc = true ∧ va = ⟨p.nm.toArray⟩ ∧ vb = ⟨R.toArray⟩ ∧ RowS _ w2 vs p.vs := hv
          obtain ⟨r0, r1, r2⟩ := rpL_bd hr HUL.out.1
          have HVA := Lib.hid hva
          have HVB : Hid (vb.data.toList = R) := Lib.hid (by rw [hvb])
          have HG3 : Hid (pgL f R (acc ++ [p]) = o) := Lib.hid hG'
          have HRB : Hid (0 < R.length ∧ R.length ≤ U.length) := Lib.hid ⟨r0, r1⟩
          have HSM : Hid (∀ x ∈ acc ++ [p], smlP x) := Lib.hid (fun x hx => by
            rcases List.mem_append.1 hx with h | h
            · exact hsm.out x h
            · rw [List.mem_singleton.1 h]; exact r2)
          obtain ⟨sa, sn, rfl⟩ := hvs.txt.slice
          have C3 := Lib.hid (C2.out.below b2)
          have Q3 := Lib.hid (Q2.out.below b2)
          have R3 := Lib.hid (R2.out.below b2)
          have B3 := Lib.hid (bstep B2.out b2)
          have V3 := Lib.hid (World.ownsRow.mono hvs (show w1.heap.size + 1 ≤ wr.heap.size from Q2.out.1))
          have gq : w1.heap.size < w2.heap.size := Q3.out.1
          have g1 : w1.heap.size ≠ w2.heap.size := by omega
          have g2 : w2.heap.size ≠ w1.heap.size := by omega
          have z1 := (Q3.out.2 1 _ rfl).1
          have y1 := (Q3.out.2 1 _ rfl).2
          obtain ⟨pa, pc, rfl⟩ := R3.out.form
          have hacc : acc.length ≤ 1000000000 := by have := HUL.out; omega
          clear hr hv hG' b2 HG2 hva hvb hvs r0 r1 r2 C2 Q2 R2 B2 hsm
          go_wp2_with (at_builtin; refine appP rfl _ _ rfl (w1.heap.size + 1) _ acc rfl (R3.out.alloc _) p _ _ HVA.out (V3.out.alloc _) (by simp; rfl) hacc (by simp; omega) ?_)
          intro w5 gg gcap r5 bb s5
          have hq0 : w.heap.size < w1.heap.size + 1 := by omega
          have b5 := bb (w1.heap.size + 1) _ (Nat.le_refl _) (Below.refl _ _) (by simp; omega)
          have C5 := Lib.hid (cs_lo (C3.out.alloc _) b5 hq0 (by simpa using s5))
          have Q5 := Lib.hid (cs_lo (Q3.out.alloc _) b5 (Nat.lt_succ_self _) (by simpa using s5))
          have B5 := Lib.hid (bb w.heap.size w (by omega) (B3.out.alloc B3.out.size _) (by have := B3.out.size; simp; omega))
          have y1 := (Q5.out.2 1 _ rfl).1
          have z1 := (Q5.out.2 1 _ rfl).2
          have D5 := Q5.out.set 1 (by simp) (.slice (some ⟨gg, 0, none⟩) (acc.length + 1) gcap)
          simp only [List.set_cons_succ, List.set_cons_zero] at D5
          have D5 := Lib.hid D5
          have R5 := Lib.hid (r5.set (Nat.lt_succ_self _) 1 (.slice (some ⟨gg, 0, none⟩) (acc.length + 1) gcap))
          have E5 := Lib.hid (C5.out.other (b := w1.heap.size) (i := 1) (by omega) (.slice (some ⟨gg, 0, none⟩) (acc.length + 1) gcap))
          clear bb r5 s5 b5 C3 Q3 R3 B3 V3 g1 g2 gq
          go_wp2
          go_roundw
          case rel => exact ⟨f, R, acc ++ [p], _, vb, rfl, HVB, HRB.out.1, by have := HRB.out.2; have := HUL.out; omega, by have := HRB.out.2; have := HUL.out; simp only [List.length_append, List.length_cons, List.length_nil]; omega, HG3, E5.out, D5.out, R5.out, HSM, by repeat (first | with_reducible exact B5.out | with_reducible refine Below.setCell ?_ (by show w.heap.size ≤ w1.heap.size; omega) _)⟩
          case measure =>
            have h1 : vb.size = R.length := by rw [← HVB.out]; simp
            have h2 := HRB.out.2
            have h3 := HUL.out
            show szL (.string vb) < szL (.string t)
            simp only [szL]
            omega
      · rw [if_neg h59] at hG'
        have HO2 : Hid (some (acc, c :: U) = o) := Lib.hid hG'
        have x59 : ((c.toNat : Int) == 59) = false := beq_eq_false_iff_ne.2 (fun q => h59 (UInt8.toNat_inj.1 (by show c.toNat = 59; omega)))
        obtain ⟨pa, pc, rfl⟩ := R2.out.form
        have y2 := (Q2.out.2 2 _ rfl).1
        have z2 := (Q2.out.2 2 _ rfl).2
        have g1 : w.heap.size ≠ w1.heap.size := by omega
        have g2 : w1.heap.size ≠ w.heap.size := by omega
        by_cases h58 : c = 58
        case neg =>
          have x58 : ((c.toNat : Int) != 58) = true := bne_iff_ne.2 (fun q => h58 (UInt8.toNat_inj.1 (by show c.toNat = 58; omega)))
          have HQ : Hid (lpO (hdT [58, 59] S) o = (18, LV.zero)) := Lib.hid (by rw [← HO2.out, lpO, if_neg (fun q => h58 q.1)])
          have z0 := (C2.out.2 0 _ rfl).1
          have w0 := (C2.out.2 0 _ rfl).2
          have z1 := (C2.out.2 1 _ rfl).1
          have w1' := (C2.out.2 1 _ rfl).2
          have z3 := (C2.out.2 2 _ rfl).1
          have w3 := (C2.out.2 2 _ rfl).2
          clear h58 hG hG' h59
          go_wp2
          exact bodyPost_ret (v := .tuple #[.agg #[.string ⟨#[]⟩, .slice none 0 0, .string ⟨#[]⟩], .int .i64 18]) (by simp (maxDischargeDepth := 9) [results, Try.results15, go_sem, z0, z1, z3]) rfl (by rw [HQ.out]; exact zq _ _ (by repeat (first | with_reducible exact B2.out | with_reducible refine Below.setCell ?_ (by first | exact Nat.le_refl _ | (show w.heap.size ≤ w1.heap.size; omega)) _)))
        subst h58
        have D2 := Q2.out.set 2 (by simp) (.string (t.extract 1 t.size))
        simp only [List.set_cons_succ, List.set_cons_zero] at D2
        have D2 := Lib.hid D2
        have E2 := Lib.hid (C2.out.other (b := w1.heap.size) (i := 2) (by omega) (.string (t.extract 1 t.size)))
        have PR := Lib.hid (R2.out.set (Nat.lt_succ_self _) 2 (.string (t.extract 1 t.size)))
        have B3 := Lib.hid (B2.out.setCell (p := ⟨w1.heap.size, 2, none⟩) (by show w.heap.size ≤ w1.heap.size; omega) (.string (t.extract 1 t.size)))
        have zq0 := (Q2.out.2 0 _ rfl).1
        have zq1 := (Q2.out.2 1 _ rfl).1
        obtain ⟨ev, hev⟩ : ∃ ev, lnE ⟨hdT [58, 59] S, acc, U⟩ = ev := ⟨_, rfl⟩
        have HEV := Lib.hid hev
        have UT : Hid (t.extract 1 t.size = ⟨U.toArray⟩) := Lib.hid (Rws.ba_eq hU.out)
        clear hG hG' h59 C2 Q2 R2 hev
        go_wp2_with fail
        refine (lchk_v _ _ (hdT [58, 59] S) U _ acc ev _ HA.out.1 UT.out HLN.out.2.2.2 (by have := HUL.out; omega) PR.out.pars (by have := HUL.out; omega) hsm.out HEV).mono ?_
        rintro e w4 ⟨rfl, b4⟩
        have C4 := Lib.hid (E2.out.below b4)
        have D4 := Lib.hid (D2.out.below b4)
        have R4 := Lib.hid (PR.out.below b4)
        have B4 := Lib.hid (bstep B3.out b4)
        have z0 := (C4.out.2 0 _ rfl).1
        have w0 := (C4.out.2 0 _ rfl).2
        have z1 := (C4.out.2 1 _ rfl).1
        have w1' := (C4.out.2 1 _ rfl).2
        have z3 := (C4.out.2 2 _ rfl).1
        have w3 := (C4.out.2 2 _ rfl).2
        have u0 := (D4.out.2 0 _ rfl).1
        have u1 := (D4.out.2 1 _ rfl).1
        have u2 := (D4.out.2 2 _ rfl).1
        have hev := HEV.out
        rw [lnE] at hev
        clear b4 zq0 zq1 y2 z2 D2 E2 PR B3
        cases hb : lnB ⟨hdT [58, 59] S, acc, U⟩ with
        | false =>
          rw [hb, if_neg (by decide)] at hev
          have HQ : Hid (lpO (hdT [58, 59] S) o = (18, LV.zero)) := Lib.hid (by rw [← HO2.out, lpO, if_neg (fun q => by rw [hb] at q; exact absurd q.2 (by decide))])
          subst hev
          clear hb
          go_wp2
          exact bodyPost_ret (v := .tuple #[.agg #[.string ⟨#[]⟩, .slice none 0 0, .string ⟨#[]⟩], .int .i64 18]) (by simp (maxDischargeDepth := 9) [results, Try.results15, go_sem, z0, z1, z3]) rfl (by rw [HQ.out]; exact zq _ _ (by repeat (first | with_reducible exact B4.out | with_reducible refine Below.setCell ?_ (by exact Nat.le_refl _) _)))
        | true =>
          rw [hb, if_pos rfl] at hev
          have HQ : Hid (lpO (hdT [58, 59] S) o = (0, ⟨hdT [58, 59] S, acc, U⟩)) := Lib.hid (by rw [← HO2.out, lpO, if_pos ⟨rfl, hb⟩])
          subst hev
          clear hb
          go_wp2
          refine bodyPost_ret (v := .tuple #[.agg #[.string (s.extract 0 m), .slice pa acc.length pc, .string (t.extract 1 t.size)], .int .i64 0]) (by simp (maxDischargeDepth := 9) [results, Try.results15, go_sem, z0, z1, z3]) rfl ?_
          rw [HQ.out]
          exact ⟨_, by rw [HA.out.1, UT.out], Lib.hid ⟨ParR.pars (B := w1.heap.size + 1) (by repeat (first | with_reducible exact R4.out | with_reducible refine ParR.set ?_ (by omega) _ _)), HLN.out.2.2.2, by have := HUL.out; show U.length ≤ _; omega, by have := HUL.out; show acc.length ≤ _; omega, hsm.out⟩, by repeat (first | with_reducible exact B4.out | with_reducible refine Below.setCell ?_ (by exact Nat.le_refl _) _)⟩
end Lin
end Go.Proofs.Ytdakpncfophjnaa
