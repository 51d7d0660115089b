/-
  Contracts of package line: readParam.
-/
import Derived.Test.YtdakpncfophjnaaLinB
import Derived.Test.YtdakpncfophjnaaCel
import Derived.Deep.Onto
namespace Go.Proofs.Ytdakpncfophjnaa
open Go.RowKit
namespace Lin
open CutB Cel
open Opn (TxtV)
open Rws (RowS)
theorem own_set {w : World} {base : Nat} {e : TypeId} {size : Nat} {v : Value} {n : Nat} {xs : List Value} (h : w.ownsRow base e size v n xs) {g : Nat} (hg : g < base) (i : Nat) (x : Value) : (w.setCell ⟨g, i, none⟩ x).ownsRow base e size v n xs :=
  h.kept (row := some g) ⟨rfl, rfl, rfl, by simp [World.setCell], fun k _ hk => Below.heap_setCell _ _ _ _ (fun q => hk (by simp [q]))⟩ (by
    cases ho : v.ownBlock with
    | none => exact Or.inl rfl
    | some k => exact Or.inr (by have := (h.lt k ho).1; intro q; injection q with q; omega))
theorem rv_len {T V R : List UInt8} (h : rvL T = some (V, R)) : R.length ≤ T.length := by
  cases T with
  | nil => cases h
  | cons c U =>
    rw [rvL] at h
    split at h
    · split at h
      · cases h
      · injection h with h
        injection h with _ h
        subst h
        have := tl_len [34] U
        simp only [List.length_tail, List.length_cons]
        omega
    · split at h
      · cases h
      · injection h with h
        injection h with _ h
        subst h
        exact tl_len _ _
def szL : Value → Nat
  | .string s => s.size
  | _ => 0
/-- What readParam hands back. -/
def RpQ (o : Option (PV × List UInt8)) (w : World) (e : Ending) (w' : World) : Prop := ∃ (nm : ByteArray) (sv : Value) (b : ByteArray) (c : Bool), e = .returned (.tuple #[.agg #[.string nm, sv], .string b, .bool c]) ∧ Hid (match o with | none => c = false ∧ sv = .slice none 0 0 | some (p, R) => c = true ∧ nm = ⟨p.nm.toArray⟩ ∧ b = ⟨R.toArray⟩ ∧ RowS w.heap.size w' sv p.vs) ∧ Below w.heap.size w w'
/-- The head of its loop. -/
def RpR (w : World) (nm : ByteArray) (o : Option (List (List UInt8) × List UInt8)) (sv : Value) (wr : World) : Prop := ∃ (f : Nat) (T : List UInt8) (acc : List (List UInt8)) (pv : Value) (t : ByteArray), sv = .string t ∧ Hid (t.data.toList = T) ∧ T.length < f ∧ acc.length + T.length ≤ 1000000 ∧ Hid (rvG f T acc = o) ∧ Cs w.heap.size wr [.string nm, pv] ∧ RowS (w.heap.size + 1) wr pv acc ∧ Below w.heap.size w wr
set_option maxHeartbeats 12800000 in
set_option maxRecDepth 100000 in
theorem rp_to (s : ByteArray) (S : List UInt8) (w : World) (hs : s.size ≤ 1000000) (hS : Hid (s.data.toList = S)) :
    Calls Try.prog 44 #[.string s] w (RpQ (rpL S) w) := by
  have hl : S.length = s.size := by rw [← hS.out]; simp
  by_cases y : tlT [61] S = []
  · have HR : Hid (rpL S = none) := Lib.hid (by rw [rpL, if_pos y])
    have HB : Hid (Lib.indexByte S 61 = -1) := Lib.hid (by rw [ib_eq, if_pos y])
    rw [HR.out]
    clear y hl
    go_enter Try.func44, Try.ntmps44
    go_wp2_with fail
    refine (cut_none _ S 61 _ hS HB).mono ?_
    rintro e w1 ⟨rfl, rfl⟩
    go_wp2
    exact bodyPost_ret (v := .tuple #[.agg #[.string ⟨#[]⟩, .slice none 0 0], .string ⟨#[]⟩, .bool false]) (by simp [results, Try.results44, go_sem]) rfl ⟨_, _, _, _, rfl, Lib.hid ⟨rfl, rfl⟩, (Below.refl _ _).alloc (Nat.le_refl _) _⟩
  · obtain ⟨o, ho⟩ : ∃ o, rvG (S.length + 1) (tlT [61] S).tail [] = o := ⟨_, rfl⟩
    have HR : Hid (rpL S = rpO (hdT [61] S) o) := Lib.hid (by rw [rpL, if_neg y, ho])
    have HB : Hid (Lib.indexByte S 61 = ((hdT [61] S).length : Nat)) := Lib.hid (by rw [ib_eq, if_neg y])
    have hlen : (tlT [61] S).tail.length < S.length + 1 ∧ (tlT [61] S).tail.length ≤ 1000000 := by
      have := tl_len [61] S
      rw [List.length_tail]
      omega
    have HLN := Lib.hid hlen
    have HO := Lib.hid ho
    rw [HR.out]
    clear y hl ho hlen HR
    go_enter Try.func44, Try.ntmps44
    go_wp2_with fail
    refine (cut_some _ S 61 _ _ hs hS HB).mono ?_
    rintro e w1 ⟨a, b, rfl, hab, b1⟩
    have HA : Hid (a = ⟨(hdT [61] S).toArray⟩ ∧ b.data.toList = (tlT [61] S).tail) := Lib.hid ⟨Rws.ba_eq (by rw [hab.out.1, take_hd]), by rw [hab.out.2, drop_hd1]⟩
    have C1 := Lib.hid (Cs.below (Cs.new w [.string ⟨#[]⟩, .slice none 0 0] 45) b1)
    have B1 := Lib.hid (bstep ((Below.refl w.heap.size w).alloc (Nat.le_refl _) _) b1)
    have z0 := (C1.out.2 0 _ rfl).1
    have y0 := (C1.out.2 0 _ rfl).2
    have D1 := C1.out.set 0 (by simp) (.string a)
    simp only [List.set_cons_zero] at D1
    have D1 := Lib.hid D1
    clear b1 hab
    go_wp2
    go_loopw [0] (RpR w a o) (fun sv _ => szL sv)
    case atStart =>
      exact ⟨S.length + 1, (tlT [61] S).tail, [], .slice none 0 0, b, rfl, Lib.hid HA.out.2, HLN.out.1, by simpa using HLN.out.2, HO, D1.out, RowS.nil _ _, by repeat (first | with_reducible exact B1.out | with_reducible refine Below.setCell ?_ (by exact Nat.le_refl _) _)⟩
    case round =>
      obtain ⟨f, T, acc, pv, t, rfl, hT, hf, hlen, hG, hC, hRw, hB⟩ := hrel
      have hz : t.size = T.length := by rw [← hT.out]; simp
      have hzb : t.size ≤ 1000000 := by omega
      obtain ⟨f, rfl⟩ : ∃ k, f = k + 1 := ⟨f - 1, by omega⟩
      have C2 := Lib.hid hC
      have B2 := Lib.hid hB
      have R2 := Lib.hid hRw
      have HZ := Lib.hid hz
      clear hC hB hRw z0 y0 D1 C1 B1 hz
      go_wp2_with fail
      refine (rv_to t T _ hzb hT).mono ?_
      rintro e w2 ⟨va, vb, vc, rfl, hv, b2⟩
      have C3 := Lib.hid (C2.out.below b2)
      have B3 := Lib.hid (bstep B2.out b2)
      have R3 := Lib.hid (R2.out.below b2)
      clear b2 C2 B2 R2
      have z0 := (C3.out.2 0 _ rfl).1
      have y0 := (C3.out.2 0 _ rfl).2
      have z1 := (C3.out.2 1 _ rfl).1
      have y1 := (C3.out.2 1 _ rfl).2
      have hv := hv.out
      have hG' := hG.out
      rw [rvG] at hG'
      cases hr : rvL T with
      | none =>
        rw [hr] at hv hG'
        have hv : vc = false := hv
        have hG' : none = o := hG'
        subst hv
        have HO2 := Lib.hid hG'
        clear hr hG hG'
        go_wp2
        exact bodyPost_ret (v := .tuple #[.agg #[.string ⟨#[]⟩, .slice none 0 0], .string ⟨#[]⟩, .bool false]) (by simp (maxDischargeDepth := 9) [results, Try.results44, go_sem, z0, z1]) rfl ⟨_, _, _, _, rfl, Lib.hid (by rw [← HO2.out]; exact ⟨rfl, rfl⟩), by repeat (first | with_reducible exact B3.out | with_reducible refine Below.setCell ?_ (by exact Nat.le_refl _) _)⟩
      | some VR =>
        obtain ⟨V, R⟩ := VR
        rw [hr] at hv hG'
        obtain ⟨rfl, hva, hvb⟩ : vc = true ∧ va = ⟨V.toArray⟩ ∧ vb = ⟨R.toArray⟩ := hv
        have hRl := rv_len hr
        cases R with
        | nil =>
          have HO2 : Hid (none = o) := Lib.hid hG'
          subst hvb
          clear hr hG hva hG'
          go_wp2
          exact bodyPost_ret (v := .tuple #[.agg #[.string ⟨#[]⟩, .slice none 0 0], .string ⟨#[]⟩, .bool false]) (by simp (maxDischargeDepth := 9) [results, Try.results44, go_sem, z0, z1]) rfl ⟨_, _, _, _, rfl, Lib.hid (by rw [← HO2.out]; exact ⟨rfl, rfl⟩), by repeat (first | with_reducible exact B3.out | with_reducible refine Below.setCell ?_ (by exact Nat.le_refl _) _)⟩
        | cons d U =>
          have hbs : vb.data.toList = d :: U := by rw [hvb]
          have hb0 : 0 < vb.size := by
            have : vb.size = vb.data.toList.length := by simp
            rw [this, hbs]; simp
          obtain ⟨_, hx⟩ := at_l hbs 0 hb0
          have hx : vb[0] = d := hx
          obtain ⟨x1, x2, x3⟩ := ne_facts hb0
          have HVA := Lib.hid hva
          have HVB := Lib.hid hvb
          have HG2 : Hid ((if d = 44 then rvG f U (acc ++ [V]) else some (acc ++ [V], d :: U)) = o) := Lib.hid hG'
          have HUL : Hid (U.length + 1 ≤ T.length) := Lib.hid (by simpa using hRl)
          have HU : Hid ((vb.extract 1 vb.size).data.toList = U) := Lib.hid (by rw [dtE, hbs]; rfl)
          have db := d.toNat_lt
          have hacc : acc.length ≤ 1000000000 := by omega
          clear hr hG hG' hva hvb hbs hRl hv
          go_wp2_with (at_builtin; refine Rws.appS rfl _ _ rfl (w.heap.size + 1) _ acc rfl R3.out V _ HVA.out rfl hacc C3.out.1 ?_)
          intro w5 gg gcap r5 g5
          have b5 := g5.below (w.heap.size + 1) w2 (Nat.le_refl _) (Below.refl _ _) C3.out.1
          have z1' := (b5.cell (p := ⟨w.heap.size, 1, none⟩) (Nat.lt_succ_self _)).trans z1
          have y1' := (b5.frozen (p := ⟨w.heap.size, 1, none⟩) (Nat.lt_succ_self _)).trans y1
          have z0' := (b5.cell (p := ⟨w.heap.size, 0, none⟩) (Nat.lt_succ_self _)).trans z0
          have y0' := (b5.frozen (p := ⟨w.heap.size, 0, none⟩) (Nat.lt_succ_self _)).trans y0
          have C5 : Cs w.heap.size w5 [.string a, pv] := ⟨Nat.lt_of_lt_of_le C3.out.1 g5.size, fun i v hi => by
            match i, hi with
            | 0, hi => obtain rfl := Option.some.inj hi; exact ⟨z0', y0'⟩
            | 1, hi => obtain rfl := Option.some.inj hi; exact ⟨z1', y1'⟩
            | i + 2, hi => simp at hi⟩
          have D5 := C5.set 1 (by simp) (.slice (some ⟨gg, 0, none⟩) (acc.length + 1) gcap)
          simp only [List.set_cons_succ, List.set_cons_zero] at D5
          have D5 := Lib.hid D5
          have B5 := Lib.hid (g5.below _ _ (Nat.le_succ _) B3.out B3.out.size)
          have R5 := Lib.hid (own_set r5 (Nat.lt_succ_self _) 1 (.slice (some ⟨gg, 0, none⟩) (acc.length + 1) gcap))
          clear b5 C5 g5 r5 R3 C3 B3 z0 y0 z1 y1
          by_cases h44 : d = 44
          · subst h44
            have HN : Hid (rvG f U (acc ++ [V]) = o) := Lib.hid (by have := HG2.out; rw [if_pos rfl] at this; exact this)
            have e1 : (1 : Int) ≤ (vb.size : Int) := by omega
            have e2 : 1 ≤ vb.size := by omega
            go_wp2
            go_roundw
            case rel => exact ⟨f, U, acc ++ [V], _, _, rfl, HU, by have := HUL.out; omega, by have := HUL.out; rw [List.length_append]; simp; omega, HN, D5.out, R5.out, by repeat (first | with_reducible exact B5.out | with_reducible refine Below.setCell ?_ (by exact Nat.le_refl _) _)⟩
            case measure =>
              have h1 : (vb.extract 1 vb.size).size = U.length := by rw [← HU.out]; simp
              have h2 := HUL.out
              have h3 := HZ.out
              show szL (.string (vb.extract 1 vb.size)) < szL (.string t)
              simp only [szL]
              omega
          · have x4 : ((d.toNat : Int) != 44) = true := bne_iff_ne.2 (fun q => h44 (UInt8.toNat_inj.1 (by show d.toNat = 44; omega)))
            have hG3 : some (acc ++ [V], d :: U) = o := by have := HG2.out; rw [if_neg h44] at this; exact this
            have HO2 := Lib.hid hG3
            clear hG3
            have w1 := (D5.out.2 0 _ rfl).1
            have v1 := (D5.out.2 0 _ rfl).2
            have w2' := (D5.out.2 1 _ rfl).1
            have v2 := (D5.out.2 1 _ rfl).2
            clear h44
            go_wp2
            exact bodyPost_ret (v := .tuple #[.agg #[.string a, .slice (some ⟨gg, 0, none⟩) (acc.length + 1) gcap], .string vb, .bool true]) (by simp (maxDischargeDepth := 9) [results, Try.results44, go_sem, z0', z1']) rfl ⟨_, _, _, _, rfl, Lib.hid (by rw [← HO2.out]; exact ⟨rfl, HA.out.1, HVB.out, World.ownsRow.mono (show World.ownsRow _ (w.heap.size + 1) _ _ _ (acc ++ [V]).length _ from by repeat (first | with_reducible exact R5.out | with_reducible refine own_set ?_ (Nat.lt_succ_self _) _ _)) (Nat.le_succ _)⟩), by repeat (first | with_reducible exact B5.out | with_reducible refine Below.setCell ?_ (by exact Nat.le_refl _) _)⟩
end Lin
end Go.Proofs.Ytdakpncfophjnaa
