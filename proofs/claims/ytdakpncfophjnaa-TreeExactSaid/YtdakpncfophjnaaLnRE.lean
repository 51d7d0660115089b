/-
  Lines, the reference's words: ParseLine.
-/
import Derived.Test.YtdakpncfophjnaaLnRD
namespace Go.Proofs.Ytdakpncfophjnaa
open Go.RowKit
namespace Lin
open CutB Cel
open Opn (TxtV)
open Rws (RowS)
theorem Hd.tl {C S : List UInt8} {a k : Nat} (ha : a ≤ k) (h : hdT C (S.drop a) = (S.drop a).take (k - a)) : tlT C (S.drop a) = S.drop k := by
  have h1 := hd_tl C (S.drop a)
  rw [h] at h1
  have h2 := List.take_append_drop (k - a) (S.drop a)
  have h3 : tlT C (S.drop a) = (S.drop a).drop (k - a) := List.append_cancel_left (h1.trans h2.symm)
  rw [h3, List.drop_drop]
  congr 1
  omega
def rlR (S : List UInt8) : Bool × LV := match lnX S with
  | none => (false, LV.zero)
  | some l => (true, l)
def rlO (nm : List UInt8) : Option (List PV × List UInt8) → Bool × LV
  | none => (false, LV.zero)
  | some (_, []) => (false, LV.zero)
  | some (ps, c :: T) => if c = 58 ∧ lnB ⟨nm, ps, T⟩ = true then (true, ⟨nm, ps, T⟩) else (false, LV.zero)
theorem rlR_eq (S : List UInt8) : rlR S = rlO (hdT [58, 59, 61] S) (pgR (S.length + 1) (tlT [58, 59, 61] S) []) := by
  rw [rlR, ← rl_same, rlX]
  cases pgR (S.length + 1) (tlT [58, 59, 61] S) [] with
  | none => rfl
  | some PR =>
    obtain ⟨ps, Q⟩ := PR
    cases Q with
    | nil => rfl
    | cons c T =>
      show (match (if c = 58 ∧ lnB ⟨hdT [58, 59, 61] S, ps, T⟩ = true then some (⟨hdT [58, 59, 61] S, ps, T⟩ : LV) else none) with
        | none => (false, LV.zero)
        | some l => (true, l)) = (if c = 58 ∧ lnB ⟨hdT [58, 59, 61] S, ps, T⟩ = true then (true, ⟨hdT [58, 59, 61] S, ps, T⟩) else (false, LV.zero))
      by_cases h : c = 58 ∧ lnB ⟨hdT [58, 59, 61] S, ps, T⟩ = true
      · rw [if_pos h, if_pos h]
      · rw [if_neg h, if_neg h]
/-- What ParseLine hands back. -/
def PlQ (r : Bool × LV) (w : World) (e : Ending) (w' : World) : Prop := ∃ pv, e = .returned (.tuple #[.agg #[.string ⟨r.2.nm.toArray⟩, pv, .string ⟨r.2.vl.toArray⟩], .bool r.1]) ∧ Hid (ParsV w' pv r.2.ps ∧ r.2.ps.length ≤ 1000000 ∧ (∀ p ∈ r.2.ps, smlP p) ∧ ParR w.heap.size w' pv r.2.ps) ∧ Below w.heap.size w w'
theorem pl_zero (w w' : World) (h : Below w.heap.size w w') : PlQ (false, LV.zero) w (.returned (.tuple #[.agg #[.string ⟨#[]⟩, .slice none 0 0, .string ⟨#[]⟩], .bool false])) w' :=
  ⟨_, rfl, Lib.hid ⟨ParsV.none _, by simp [LV.zero], by simp [LV.zero], ParR.nil _ _⟩, h⟩
theorem parLow {B B' : Nat} {w : World} {v : Value} {ps : List PV} (hB : B' ≤ B) (h : ParR B w v ps) : ParR B' w v ps := by
  obtain ⟨xs, h1, h2⟩ := h
  refine ⟨xs, h1.mono hB, fun j hj => ?_⟩
  obtain ⟨sv, a, b, c⟩ := h2 j hj
  exact ⟨sv, a, b, World.ownsRow.mono c hB⟩
abbrev Zl : List Value := [.string ⟨#[]⟩, .slice none 0 0, .string ⟨#[]⟩]
theorem rwd_at (s : ByteArray) (S : List UInt8) (a : Nat) (n : Int) (w : World) (hs : s.size ≤ 1000000) (hS : Hid (s.data.toList = S)) (ha : a ≤ s.size) (hn : n = (a : Int)) :
    Calls Try.prog 47 #[.string s, .int .i64 n] w (WdQ S a w) := by subst hn; exact rwd_to s S a w hs hS ha
def rvN (f : Nat) (acc : List (List UInt8)) (v : List UInt8) : List UInt8 → Option (List (List UInt8) × List UInt8)
  | [] => some (acc ++ [v], [])
  | c :: T => if c = 44 then rvRG f T (acc ++ [v]) else some (acc ++ [v], c :: T)
theorem rvN_eq (f : Nat) (acc : List (List UInt8)) {S v Q : List UInt8} (h : rvR S = some (v, Q)) : rvRG (f + 1) S acc = rvN f acc v Q := by
  rw [rvRG, h]
  cases Q <;> rfl
theorem rvR_bd {T V R : List UInt8} (h : rvR T = some (V, R)) : V.length ≤ T.length := by
  cases T with
  | nil => injection h with h; injection h with h _; subst h; simp
  | cons c U =>
    rw [rvR] at h
    split at h
    · split at h
      · cases h
      · injection h with h
        injection h with h _
        subst h
        have := hd_len [34] U
        simp only [List.length_cons]
        omega
    · injection h with h
      injection h with h _
      subst h
      exact hd_len _ _
theorem rln_v (a b : ByteArray) (nm vl : List UInt8) (pv : Value) (ps : List PV) (r : Bool) (w : World) (ha : a = ⟨nm.toArray⟩) (hb : b = ⟨vl.toArray⟩) (h1 : nm.length ≤ 1000000) (h2 : vl.length ≤ 1000000) (hp : ParsV w pv ps) (hlen : ps.length ≤ 1000000) (hsm : ∀ p ∈ ps, smlP p) (hR : Hid (lnB ⟨nm, ps, vl⟩ = r)) :
    Calls Try.prog 21 #[.agg #[.string a, pv, .string b]] w (KlQ r w) := by
  subst ha hb
  exact rln_to nm vl pv ps r w h1 h2 hp hlen hsm hR
/-- The head of the loop over parameters. -/
def PlR (w : World) (S : List UInt8) (nm : ByteArray) (o : Option (List PV × List UInt8)) (iv : Value) (wr : World) : Prop := ∃ (f k : Nat) (acc : List PV) (pv : Value), iv = .int .i64 k ∧ k ≤ S.length ∧ S.length - k < f ∧ acc.length + (S.length - k) ≤ 100000 ∧ Hid (pgR f (S.drop k) acc = o) ∧ Cs w.heap.size wr Zl ∧ Cs (w.heap.size + 1) wr Zl ∧ Cs (w.heap.size + 2) wr [.string nm, pv, .string ⟨#[]⟩] ∧ ParR (w.heap.size + 3) wr pv acc ∧ Hid (∀ p ∈ acc, smlP p) ∧ Below w.heap.size w wr
/-- The head of the loop over values. -/
def VlR (wo : World) (lo : Nat) (S : List UInt8) (pn : ByteArray) (o : Option (List (List UInt8) × List UInt8)) (mv iv : Value) (wr : World) : Prop := ∃ (f k : Nat) (acc : List (List UInt8)) (pv : Value) (more : Bool), mv = .bool more ∧ iv = .int .i64 k ∧ lo ≤ k ∧ k ≤ S.length ∧ acc.length + (S.length - k) ≤ 100000 ∧ Hid (more = true → k < S.length ∧ S.length - (k + 1) < f ∧ rvRG f (S.drop (k + 1)) acc = o) ∧ Hid (more = false → some (acc, S.drop k) = o) ∧ Cs wo.heap.size wr [.string pn, pv] ∧ RowS (wo.heap.size + 1) wr pv acc ∧ Hid (∀ v ∈ acc, v.length ≤ 1000000) ∧ Below wo.heap.size wo wr
def VcR (w : World) (S : List UInt8) (k : Nat) (v iv : Value) (wx : World) : Prop := ∃ (V : ByteArray) (k2 : Nat), v = .string V ∧ iv = .int .i64 k2 ∧ k + 1 ≤ k2 ∧ k2 ≤ S.length ∧ Hid (rvR (S.drop (k + 1)) = some (V.data.toList, S.drop k2)) ∧ w = wx
theorem drop_cons {S : List UInt8} {k : Nat} (hk : k < S.length) : S.drop k = S[k] :: S.drop (k + 1) := List.drop_eq_getElem_cons hk
theorem get_b {s : ByteArray} {S : List UInt8} (hS : s.data.toList = S) (k : Nat) (hk : k < s.size) (d : UInt8) (U : List UInt8) (h : S.drop k = d :: U) : s[k] = d := by
  subst hS
  have h1 : k < s.data.toList.length := by simpa using hk
  rw [drop_cons h1] at h
  injection h with h _
set_option maxHeartbeats 51200000 in
set_option maxRecDepth 100000 in
theorem rpl_to (s : ByteArray) (S : List UInt8) (w : World) (hs : s.size ≤ 90000) (hS : Hid (s.data.toList = S)) :
    Calls Try.prog 17 #[.string s] w (PlQ (rlR S) w) := by
  have hl : S.length = s.size := by rw [← hS.out]; simp
  have HL := Lib.hid hl
  obtain ⟨o, ho⟩ : ∃ o, pgR (S.length + 1) (tlT [58, 59, 61] S) [] = o := ⟨_, rfl⟩
  have HR : Hid (rlR S = rlO (hdT [58, 59, 61] S) o) := Lib.hid (by rw [rlR_eq, ho])
  rw [HR.out]
  have HO := Lib.hid ho
  have C2 := Lib.hid (Cs.alloc (Cs.alloc (Cs.new w Zl 24) (Obj.cells Zl.toArray 24)) (Obj.cells #[.string ⟨(hdT [58, 59, 61] S).toArray⟩, .slice none 0 0, .string ⟨#[]⟩] 24))
  clear ho hl HR
  go_enter Try.func17, Try.ntmps17
  go_wp2_with fail
  refine (rwd_to s S 0 _ (by omega) hS (Nat.zero_le _)).mono ?_
  rintro e w1 ⟨V0, rfl, hV0, rfl⟩
  have HN : Hid (V0 = ⟨(hdT [58, 59, 61] S).toArray⟩ ∧ V0.size = (hdT [58, 59, 61] S).length) := Lib.hid (by
    have h := hV0.out
    rw [List.drop_zero] at h
    have := Rws.ba_eq h
    exact ⟨this, by rw [this]; rfl⟩)
  have hz : V0.size ≤ S.length := by rw [HN.out.2]; exact hd_len _ _
  have HD : Hid (S.drop V0.size = tlT [58, 59, 61] S) := Lib.hid (by rw [HN.out.2, drop_hd])
  clear hV0
  go_wp2_with fail
  go_loopw [6] (PlR w S V0 o) (fun iv _ => S.length - (intOf iv).toNat)
  case atStart =>
    have := HL.out
    refine ⟨S.length + 1, V0.size, [], .slice none 0 0, rfl, hz, by omega, by simp; omega, Lib.hid (by rw [HD.out]; exact HO.out), ?_, ?_, ?_, ParR.nil _ _, Lib.hid (by simp), ?_⟩
    · exact Cs.alloc (Cs.alloc (Cs.new w Zl 24) _) _
    · have h := Cs.alloc (Cs.new (w.alloc (Obj.cells Zl.toArray 24)) Zl 24) (Obj.cells #[.string V0, .slice none 0 0, .string ⟨#[]⟩] 24)
      rw [show (w.alloc (Obj.cells Zl.toArray 24)).heap.size = w.heap.size + 1 from by simp] at h
      exact h
    · have h := Cs.new ((w.alloc (Obj.cells Zl.toArray 24)).alloc (Obj.cells Zl.toArray 24)) [.string V0, .slice none 0 0, .string ⟨#[]⟩] 24
      rw [show ((w.alloc (Obj.cells Zl.toArray 24)).alloc (Obj.cells Zl.toArray 24)).heap.size = w.heap.size + 2 from by simp] at h
      exact h
    · exact (((Below.refl w.heap.size w).alloc (Nat.le_refl _) _).alloc (by simp) _).alloc (by simp; omega) _
  case round =>
    obtain ⟨f, k, acc, pv, rfl, hk, hf, hlen, hG, h2, h4, h5, hP, hsm, hB⟩ := hrel
    obtain ⟨wo, rfl⟩ : ∃ wo : World, wo = wr := ⟨_, rfl⟩
    have H2 := Lib.hid h2
    have H4 := Lib.hid h4
    have H5 := Lib.hid h5
    have HPR := Lib.hid hP
    have HB := Lib.hid hB
    have gw : w.heap.size + 2 < wo.heap.size := h5.1
    obtain ⟨f, rfl⟩ : ∃ g, f = g + 1 := ⟨f - 1, by omega⟩
    clear h2 h4 h5 hP hB C2
    have hks : k ≤ s.size := by rw [← HL.out]; exact hk
    have hsl : S.length ≤ 90000 := by rw [HL.out]; exact hs
    by_cases hlt : k < s.size
    · have hkS : k < S.length := by rw [HL.out]; exact hlt
      obtain ⟨c, hx⟩ : ∃ c, S[k]'hkS = c := ⟨_, rfl⟩
      have hdr : S.drop k = c :: S.drop (k + 1) := by rw [drop_cons hkS, hx]
      have hcc : s[k] = c := get_b hS.out k hlt c _ hdr
      have cb := c.toNat_lt
      have hG' := hG.out
      rw [hdr, pgR] at hG'
      clear hx hG
      by_cases h59 : c = 59
      · subst h59
        rw [if_pos rfl] at hG'
        have HG2 := Lib.hid hG'
        clear hG' hdr
        go_wp2_with fail
        refine (rwd_at s S (k + 1) _ _ (by omega) hS (by omega) (by omega)).mono ?_
        rintro e w1 ⟨V1, rfl, hV1, rfl⟩
        have HV : Hid (V1 = ⟨(hdT [58, 59, 61] (S.drop (k + 1))).toArray⟩ ∧ V1.size = (hdT [58, 59, 61] (S.drop (k + 1))).length) := Lib.hid (by
          have := Rws.ba_eq hV1.out
          exact ⟨this, by rw [this]; rfl⟩)
        have hvl : k + 1 + V1.size ≤ S.length := by
          have h1 := hd_len [58, 59, 61] (S.drop (k + 1))
          rw [List.length_drop] at h1
          rw [HV.out.2]
          omega
        obtain ⟨a2', ha2⟩ : ∃ a, a = k + 1 + V1.size := ⟨_, rfl⟩
        have HD2 : Hid (S.drop a2' = tlT [58, 59, 61] (S.drop (k + 1))) := Lib.hid (by rw [ha2, ← List.drop_drop, HV.out.2, drop_hd])
        have ea : (k : Int) + 1 + (V1.size : Int) = (a2' : Int) := by omega
        have hal : a2' ≤ S.length := by omega
        have hak : k + 1 ≤ a2' := by omega
        have hV1s : V1.size ≤ 90000 := by omega
        have HA2 := Lib.hid ha2
        have H2n := Lib.hid (H2.out.alloc (Obj.cells #[.string V1, .slice none 0 0] 45))
        have H4n := Lib.hid (H4.out.alloc (Obj.cells #[.string V1, .slice none 0 0] 45))
        have H5n := Lib.hid (H5.out.alloc (Obj.cells #[.string V1, .slice none 0 0] 45))
        have HPn := Lib.hid (HPR.out.alloc (Obj.cells #[.string V1, .slice none 0 0] 45))
        have HBn := Lib.hid (HB.out.alloc HB.out.size (Obj.cells #[.string V1, .slice none 0 0] 45))
        have C7 := Lib.hid (Cs.new wo [.string V1, .slice none 0 0] 45)
        clear hV1 ha2 hvl hlt hcc hks hkS
        cases hq : tlT [58, 59, 61] (S.drop (k + 1)) with
        | nil =>
          have HO2 : Hid (none = o) := Lib.hid (by rw [← HG2.out, rpR, hq])
          have hge : S.length ≤ a2' := by
            have h1 := HD2.out
            rw [hq] at h1
            exact List.drop_eq_nil_iff.1 h1
          have hge2 : (s.size : Int) ≤ (a2' : Int) := by rw [← HL.out]; omega
          have hge3 : s.size ≤ a2' := by omega
          clear hq
          have a0 := (H2n.out.2 0 _ rfl).1
          have b0 := (H2n.out.2 0 _ rfl).2
          have a1 := (H2n.out.2 1 _ rfl).1
          have b1 := (H2n.out.2 1 _ rfl).2
          have a2 := (H2n.out.2 2 _ rfl).1
          have b2 := (H2n.out.2 2 _ rfl).2
          have d0 := (H4n.out.2 0 _ rfl).1
          have d1 := (H4n.out.2 1 _ rfl).1
          have d2 := (H4n.out.2 2 _ rfl).1
          have g2 : w.heap.size ≠ w.heap.size + 1 := by omega
          have g3 : w.heap.size + 1 ≠ w.heap.size := by omega
          go_wp2
          refine bodyPost_ret (v := .tuple #[.agg #[.string ⟨#[]⟩, .slice none 0 0, .string ⟨#[]⟩], .bool false]) (by simp (maxDischargeDepth := 9) [results, Try.results17, go_sem, a0, a1, a2]) rfl ?_
          rw [← HO2.out]
          exact pl_zero _ _ (by repeat (first | with_reducible exact HBn.out | with_reducible refine Below.setCell ?_ (by exact Nat.le_refl _) _))
        | cons c2 U =>
          rw [hq] at HD2
          have hlt2 : a2' < S.length := by
            rcases Nat.lt_or_ge a2' S.length with h | h
            · exact h
            · have h1 := HD2.out
              rw [List.drop_of_length_le h] at h1
              cases h1
          have hlt3 : a2' < s.size := by rw [← HL.out]; exact hlt2
          have hdz : decide (s.size ≤ a2') = false := decide_eq_false (by omega)
          have hcc := get_b hS.out a2' hlt3 c2 U HD2.out
          have db := c2.toNat_lt
          by_cases h61 : c2 = 61
          case neg =>
            have HO2 : Hid (none = o) := Lib.hid (by
              rw [← HG2.out, rpR, hq]
              show none = (match (if c2 = 61 then rpO (hdT [58, 59, 61] (S.drop (k + 1))) (rvRG (U.length + 1) U []) else none) with
                | none => none
                | some (p, R) => pgR f R (acc ++ [p]))
              rw [if_neg h61])
            have y61 : ((c2.toNat : Int) != 61) = true := bne_iff_ne.2 (fun q => h61 (UInt8.toNat_inj.1 (by show c2.toNat = 61; omega)))
            clear hq h61
            have a0 := (H2n.out.2 0 _ rfl).1
            have b0 := (H2n.out.2 0 _ rfl).2
            have a1 := (H2n.out.2 1 _ rfl).1
            have b1 := (H2n.out.2 1 _ rfl).2
            have a2 := (H2n.out.2 2 _ rfl).1
            have b2 := (H2n.out.2 2 _ rfl).2
            have d0 := (H4n.out.2 0 _ rfl).1
            have d1 := (H4n.out.2 1 _ rfl).1
            have d2 := (H4n.out.2 2 _ rfl).1
            have g2 : w.heap.size ≠ w.heap.size + 1 := by omega
            have g3 : w.heap.size + 1 ≠ w.heap.size := by omega
            go_wp2
            refine bodyPost_ret (v := .tuple #[.agg #[.string ⟨#[]⟩, .slice none 0 0, .string ⟨#[]⟩], .bool false]) (by simp (maxDischargeDepth := 9) [results, Try.results17, go_sem, a0, a1, a2]) rfl ?_
            rw [← HO2.out]
            exact pl_zero _ _ (by repeat (first | with_reducible exact HBn.out | with_reducible refine Below.setCell ?_ (by exact Nat.le_refl _) _))
          subst h61
          obtain ⟨o2, ho2⟩ : ∃ o2, rvRG (U.length + 1) U [] = o2 := ⟨_, rfl⟩
          have HG3 : Hid ((match rpO (hdT [58, 59, 61] (S.drop (k + 1))) o2 with
            | none => none
            | some (p, R) => pgR f R (acc ++ [p])) = o) := Lib.hid (by
              rw [← HG2.out, rpR, hq, ← ho2]
              show _ = (match (if (61 : UInt8) = 61 then rpO (hdT [58, 59, 61] (S.drop (k + 1))) (rvRG (U.length + 1) U []) else none) with
                | none => none
                | some (p, R) => pgR f R (acc ++ [p]))
              rw [if_pos rfl])
          have HU : Hid (S.drop (a2' + 1) = U ∧ U.length = S.length - (a2' + 1)) := Lib.hid (by
            have h1 := HD2.out
            rw [drop_cons hlt2] at h1
            injection h1 with _ h1
            exact ⟨h1, by rw [← h1, List.length_drop]⟩)
          have HO2 := Lib.hid ho2
          clear hq ho2 HG2 HD2
          go_wp2_with fail
          go_loopw [8, 6] (VlR wo a2' S V1 o2) (fun _ iv _ => S.length - (intOf iv).toNat)
          case atStart => exact ⟨U.length + 1, a2', [], .slice none 0 0, true, rfl, rfl, Nat.le_refl _, hal, by simp; omega, Lib.hid (fun _ => ⟨hlt2, by have := HU.out.2; omega, by rw [HU.out.1]; exact HO2.out⟩), Lib.hid (fun h => by cases h), C7.out, RowS.nil _ _, Lib.hid (by simp), (Below.refl _ _).alloc (Nat.le_refl _) _⟩
          case round =>
            obtain ⟨f2, k', acc2, pv2, more, rfl, rfl, hlo, hk', hlen2, hm1, hm2, h7, hRw, hsm2, hB2⟩ := hrel
            obtain ⟨wi, rfl⟩ : ∃ wi : World, wi = wr := ⟨_, rfl⟩
            have C7' := Lib.hid h7
            have RW := Lib.hid hRw
            have H2i := Lib.hid (H2.out.below hB2)
            have H4i := Lib.hid (H4.out.below hB2)
            have H5i := Lib.hid (H5.out.below hB2)
            have HPi := Lib.hid (HPR.out.below hB2)
            have HBi := Lib.hid (bstep HB.out hB2)
            have BI := Lib.hid hB2
            have gi : wo.heap.size < wi.heap.size := h7.1
            clear h7 hRw hB2
            cases more with
            | false =>
              have HOF := Lib.hid (hm2.out rfl)
              clear hm1 hm2
              have HG4 : Hid (pgR f (S.drop k') (acc ++ [⟨hdT [58, 59, 61] (S.drop (k + 1)), acc2⟩]) = o) := Lib.hid (by
                have h1 := HG3.out
                rw [← HOF.out] at h1
                exact h1)
              have HSM : Hid (∀ x ∈ acc ++ [(⟨hdT [58, 59, 61] (S.drop (k + 1)), acc2⟩ : PV)], smlP x) := Lib.hid (fun x hx => by
                rcases List.mem_append.1 hx with h | h
                · exact hsm.out x h
                · rw [List.mem_singleton.1 h]
                  exact ⟨by show (hdT [58, 59, 61] (S.drop (k + 1))).length ≤ _; have := hd_len [58, 59, 61] (S.drop (k + 1)); rw [List.length_drop] at this; omega, by show acc2.length ≤ _; omega, hsm2.out⟩)
              obtain ⟨pa, pc, rfl⟩ := HPi.out.form
              obtain ⟨sa, sn, rfl⟩ := RW.out.txt.slice
              have V3 := Lib.hid (World.ownsRow.mono RW.out (show w.heap.size + 3 ≤ wo.heap.size + 1 from by omega))
              have z1 := (H5i.out.2 1 _ rfl).1
              have y1 := (H5i.out.2 1 _ rfl).2
              have p0 := (C7'.out.2 0 _ rfl).1
              have p1 := (C7'.out.2 1 _ rfl).1
              have hacc : acc.length ≤ 1000000000 := by omega
              have g1 : w.heap.size + 2 ≠ wi.heap.size := by omega
              have g2 : wi.heap.size ≠ w.heap.size + 2 := by omega
              go_wp2_with (at_builtin; refine appP rfl _ _ rfl (w.heap.size + 3) _ acc rfl HPi.out ⟨hdT [58, 59, 61] (S.drop (k + 1)), acc2⟩ V1 _ HV.out.1 V3.out rfl hacc (by omega) ?_)
              intro w5 gg gcap r5 bb s5
              have b5 := bb (w.heap.size + 3) _ (Nat.le_refl _) (Below.refl _ _) (by omega)
              have K2 := Lib.hid (cs_lo H2i.out b5 (by omega) s5)
              have K4 := Lib.hid (cs_lo H4i.out b5 (by omega) s5)
              have K5 := Lib.hid (cs_lo H5i.out b5 (by omega) s5)
              have B5 := Lib.hid (bb w.heap.size w (by omega) HBi.out HBi.out.size)
              have y1 := (K5.out.2 1 _ rfl).1
              have z1 := (K5.out.2 1 _ rfl).2
              have D5 := K5.out.set 1 (by simp) (.slice (some ⟨gg, 0, none⟩) (acc.length + 1) gcap)
              simp only [List.set_cons_succ, List.set_cons_zero] at D5
              have D5 := Lib.hid D5
              have R5 := Lib.hid (r5.set (g := w.heap.size + 2) (by omega) 1 (.slice (some ⟨gg, 0, none⟩) (acc.length + 1) gcap))
              have E2 := Lib.hid (K2.out.other (b := w.heap.size + 2) (i := 1) (by omega) (.slice (some ⟨gg, 0, none⟩) (acc.length + 1) gcap))
              have E4 := Lib.hid (K4.out.other (b := w.heap.size + 2) (i := 1) (by omega) (.slice (some ⟨gg, 0, none⟩) (acc.length + 1) gcap))
              clear bb r5 s5 b5 K2 K4 K5 H2i H4i H5i HPi HBi V3 g1 g2 C7' RW
              go_wp2
              go_roundw
              case rel => exact ⟨f, k', acc ++ [⟨hdT [58, 59, 61] (S.drop (k + 1)), acc2⟩], _, rfl, hk', by omega, by simp only [List.length_append, List.length_cons, List.length_nil]; omega, HG4, E2.out, E4.out, D5.out, by simpa using R5.out, HSM, by repeat (first | with_reducible exact B5.out | with_reducible refine Below.setCell ?_ (by show w.heap.size ≤ w.heap.size + 2; omega) _)⟩
              case measure => simp [intOf]; omega
            | true =>
              obtain ⟨hkl, hf2, hgg⟩ := hm1.out rfl
              have HGG := Lib.hid hgg
              clear hm1 hm2 hgg
              obtain ⟨k1, hk1⟩ : ∃ a, a = k' + 1 := ⟨_, rfl⟩
              have ek1 : (k' : Int) + 1 = (k1 : Int) := by omega
              have HK1 := Lib.hid hk1
              have hk1l : k1 ≤ S.length := by omega
              have hk1s : k1 ≤ s.size := by rw [← HL.out]; exact hk1l
              obtain ⟨k2, hk2⟩ : ∃ a, a = k1 + 1 := ⟨_, rfl⟩
              have ek2 : (k1 : Int) + 1 = (k2 : Int) := by omega
              have HK2 := Lib.hid hk2
              rw [← hk1] at HGG
              obtain ⟨qb, hqb⟩ : ∃ qb : Bool, (match S.drop k1 with | [] => false | c :: _ => decide (c = 34)) = qb := ⟨_, rfl⟩
              have HQB := Lib.hid hqb
              clear hqb hk1 hk2
              go_upto_region 14 with fail
              go_cut [63] (fun x wx => x = .bool qb ∧ wi = wx)
              case first =>
                by_cases hx1 : k1 < s.size
                · have hkS : k1 < S.length := by rw [HL.out]; exact hx1
                  obtain ⟨d, hx⟩ : ∃ c, S[k1]'hkS = c := ⟨_, rfl⟩
                  have hdr : S.drop k1 = d :: S.drop (k1 + 1) := by rw [drop_cons hkS, hx]
                  have hcc1 : s[k1] = d := get_b hS.out k1 hx1 d _ hdr
                  have db1 := d.toNat_lt
                  have h1 := HQB.out
                  rw [hdr] at h1
                  by_cases x4 : d = 34
                  · subst x4
                    have HB4 : Hid (true = qb) := Lib.hid (by rw [← h1]; rfl)
                    clear h1 hdr hx
                    go_wp2
                    go_meet
                    exact ⟨congrArg Value.bool HB4.out, rfl⟩
                  · have y4 : ((d.toNat : Int) == 34) = false := beq_eq_false_iff_ne.2 (fun e => x4 (UInt8.toNat_inj.1 (by show d.toNat = 34; omega)))
                    have HB4 : Hid (false = qb) := Lib.hid (by rw [← h1]; exact (decide_eq_false x4).symm)
                    clear h1 hdr hx x4
                    go_wp2
                    go_meet
                    exact ⟨congrArg Value.bool HB4.out, rfl⟩
                · have hx2 : decide ((k1 : Int) < (s.size : Int)) = false := decide_eq_false (by omega)
                  have HB4 : Hid (false = qb) := Lib.hid (by
                    have h1 := HQB.out
                    rw [List.drop_of_length_le (by rw [HL.out]; omega)] at h1
                    exact h1)
                  go_wp2
                  go_meet
                  exact ⟨congrArg Value.bool HB4.out, rfl⟩
              case rest =>
              obtain ⟨rfl, hwc⟩ := hcut
              subst hwc
              go_upto_if 63 with fail
              go_cut [10, 6] (VcR wi S k')
              case first =>
                cases qb with
                | true =>
                  obtain ⟨T, hT⟩ : ∃ T, S.drop k1 = 34 :: T := by
                    have h1 := HQB.out
                    cases hd : S.drop k1 with
                    | nil => rw [hd] at h1; cases h1
                    | cons d T =>
                      rw [hd] at h1
                      have : d = 34 := of_decide_eq_true h1
                      exact ⟨T, by rw [this]⟩
                  have hk1x : k1 < S.length := by
                    rcases Nat.lt_or_ge k1 S.length with h | h
                    · exact h
                    · rw [List.drop_of_length_le h] at hT; cases hT
                  have HT : Hid (S.drop k1 = 34 :: T ∧ T = S.drop k2) := Lib.hid ⟨hT, by
                    rw [HK2.out]
                    rw [drop_cons hk1x] at hT
                    injection hT with _ hT
                    exact hT.symm⟩
                  have hk2l : k2 ≤ s.size := by rw [← HL.out, HK2.out]; exact hk1x
                  clear hT hk1x
                  go_wp2_with fail
                  go_loopw [6] (fun iv wx => ∃ j : Nat, k2 ≤ j ∧ j ≤ s.size ∧ iv = .int .i64 j ∧ Hid (Hd [34] S k2 j) ∧ wi = wx) (fun iv _ => s.size - (intOf iv).toNat)
                  case atStart => exact ⟨k2, Nat.le_refl _, hk2l, rfl, Lib.hid (Hd.start _ _ _), rfl⟩
                  case round =>
                    obtain ⟨j, hj1, hj2, rfl, hH, rfl⟩ := hrel
                    by_cases hjt : j < s.size
                    · have hjS : j < S.length := by rw [HL.out]; exact hjt
                      obtain ⟨d, hx⟩ : ∃ c, S[j]'hjS = c := ⟨_, rfl⟩
                      have hdr : S.drop j = d :: S.drop (j + 1) := by rw [drop_cons hjS, hx]
                      have hcc1 : s[j] = d := get_b hS.out j hjt d _ hdr
                      have db1 := d.toNat_lt
                      by_cases x4 : d = 34
                      · subst x4
                        have hst := hH.out.stop hjS (by rw [hx]; decide)
                        have HVV : Hid (rvR (S.drop (k' + 1)) = some ((s.extract k2 j).data.toList, S.drop (j + 1))) := Lib.hid (by
                          rw [← HK1.out, HT.out.1, rvR, if_pos rfl, HT.out.2, Hd.tl hj1 hst, hst, hdr, if_neg (by simp), dt_ab, hS.out]
                          rfl)
                        have q1 : (k2 : Int) ≤ (j : Int) := by omega
                        have q2 : (j : Int) ≤ (s.size : Int) := by omega
                        have hjl : j + 1 ≤ S.length := hjS
                        have hjk : k' + 1 ≤ j + 1 := by have := HK1.out; have := HK2.out; omega
                        clear hst hH hdr hx
                        go_wp2
                        go_meet
                        exact ⟨_, j + 1, rfl, by go_num, hjk, hjl, HVV, rfl⟩
                      · have y4 : ((d.toNat : Int) != 34) = true := bne_iff_ne.2 (fun e => x4 (UInt8.toNat_inj.1 (by show d.toNat = 34; omega)))
                        have HN4 := Lib.hid (hH.out.next hj1 hjS (by rw [hx]; simp [x4]))
                        clear hH hdr hx x4
                        go_wp2
                        go_roundw
                        case rel => exact ⟨j + 1, by omega, by omega, by go_num, HN4, trivial⟩
                        case measure => simp [intOf]; omega
                    · have hfi := hH.out.fin (by rw [HL.out]; omega)
                      have htl := Hd.tl hj1 hfi
                      have HOO : Hid (none = o) := Lib.hid (by
                        have hn : o2 = none := by
                          obtain ⟨f2', rfl⟩ : ∃ g, f2 = g + 1 := ⟨f2 - 1, by omega⟩
                          rw [← HGG.out, rvRG, HT.out.1, rvR, if_pos rfl, HT.out.2, htl, List.drop_of_length_le (by rw [HL.out]; omega), if_pos rfl]
                        rw [← HG3.out, hn]
                        rfl)
                      have q2 : (s.size : Int) ≤ (j : Int) := by omega
                      clear hfi htl hH
                      have a0 := (H2i.out.2 0 _ rfl).1
                      have b0 := (H2i.out.2 0 _ rfl).2
                      have a1 := (H2i.out.2 1 _ rfl).1
                      have b1 := (H2i.out.2 1 _ rfl).2
                      have a2 := (H2i.out.2 2 _ rfl).1
                      have b2 := (H2i.out.2 2 _ rfl).2
                      have d0 := (H4i.out.2 0 _ rfl).1
                      have d1 := (H4i.out.2 1 _ rfl).1
                      have d2 := (H4i.out.2 2 _ rfl).1
                      have g2 : w.heap.size ≠ w.heap.size + 1 := by omega
                      have g3 : w.heap.size + 1 ≠ w.heap.size := by omega
                      go_wp2
                      refine bodyPost_ret (v := .tuple #[.agg #[.string ⟨#[]⟩, .slice none 0 0, .string ⟨#[]⟩], .bool false]) (by simp (maxDischargeDepth := 9) [results, Try.results17, go_sem, a0, a1, a2]) rfl ?_
                      rw [← HOO.out]
                      exact pl_zero _ _ (by repeat (first | with_reducible exact HBi.out | with_reducible refine Below.setCell ?_ (by exact Nat.le_refl _) _))
                | false =>
                  go_wp2_with fail
                  go_loopw [6] (fun iv wx => ∃ j : Nat, k1 ≤ j ∧ j ≤ s.size ∧ iv = .int .i64 j ∧ Hid (Hd [58, 59, 44] S k1 j) ∧ wi = wx) (fun iv _ => s.size - (intOf iv).toNat)
                  case atStart => exact ⟨k1, Nat.le_refl _, hk1s, rfl, Lib.hid (Hd.start _ _ _), rfl⟩
                  case round =>
                    obtain ⟨j, hj1, hj2, rfl, hH, rfl⟩ := hrel
                    have HRV : Hid (rvR (S.drop k1) = some (hdT [58, 59, 44] (S.drop k1), tlT [58, 59, 44] (S.drop k1))) := Lib.hid (by
                      have h1 := HQB.out
                      cases hd : S.drop k1 with
                      | nil => rfl
                      | cons d T =>
                        rw [hd] at h1
                        rw [rvR, if_neg (of_decide_eq_false h1)])
                    have HEX : Hid ((s.extract k1 j).data.toList = (S.drop k1).take (j - k1)) := Lib.hid (by rw [dt_ab, hS.out])
                    have q1 : (k1 : Int) ≤ (j : Int) := by omega
                    have q2 : (j : Int) ≤ (s.size : Int) := by omega
                    have hjl : j ≤ S.length := by rw [HL.out]; exact hj2
                    have hjk : k' + 1 ≤ j := by have := HK1.out; omega
                    by_cases hjt : j < s.size
                    · have hjS : j < S.length := by rw [HL.out]; exact hjt
                      obtain ⟨d, hx⟩ : ∃ c, S[j]'hjS = c := ⟨_, rfl⟩
                      have hdr : S.drop j = d :: S.drop (j + 1) := by rw [drop_cons hjS, hx]
                      have hcc1 : s[j] = d := get_b hS.out j hjt d _ hdr
                      have db1 := d.toNat_lt
                      have HST : Hid (([58, 59, 44] : List UInt8).contains d = true → rvR (S.drop (k' + 1)) = some ((s.extract k1 j).data.toList, S.drop j)) := Lib.hid (fun q => by
                        have hst := hH.out.stop hjS (by rw [hx]; exact q)
                        rw [← HK1.out, HRV.out, Hd.tl hj1 hst, hst, HEX.out])
                      have HNX : Hid (([58, 59, 44] : List UInt8).contains d = false → Hd [58, 59, 44] S k1 (j + 1)) := Lib.hid (fun q => hH.out.next hj1 hjS (by rw [hx]; exact q))
                      clear hH hdr hx HRV HEX
                      by_cases x1 : d = 59
                      · subst x1
                        have HVV := Lib.hid (HST.out (by decide))
                        clear HST HNX
                        go_wp2
                        go_meet
                        exact ⟨_, j, rfl, rfl, hjk, hjl, HVV, rfl⟩
                      · by_cases x2 : d = 58
                        · subst x2
                          have HVV := Lib.hid (HST.out (by decide))
                          clear HST HNX
                          go_wp2
                          go_meet
                          exact ⟨_, j, rfl, rfl, hjk, hjl, HVV, rfl⟩
                        · have y1 : ((d.toNat : Int) != 59) = true := bne_iff_ne.2 (fun e => x1 (UInt8.toNat_inj.1 (by show d.toNat = 59; omega)))
                          have y2 : ((d.toNat : Int) != 58) = true := bne_iff_ne.2 (fun e => x2 (UInt8.toNat_inj.1 (by show d.toNat = 58; omega)))
                          by_cases x3 : d = 44
                          · subst x3
                            have HVV := Lib.hid (HST.out (by decide))
                            clear HST HNX
                            go_wp2
                            go_meet
                            exact ⟨_, j, rfl, rfl, hjk, hjl, HVV, rfl⟩
                          · have y3 : ((d.toNat : Int) != 44) = true := bne_iff_ne.2 (fun e => x3 (UInt8.toNat_inj.1 (by show d.toNat = 44; omega)))
                            have HNN := Lib.hid (HNX.out (by simp [x1, x2, x3]))
                            clear HST HNX x1 x2 x3
                            go_wp2
                            go_roundw
                            case rel => exact ⟨j + 1, by omega, by omega, by go_num, HNN, trivial⟩
                            case measure => simp [intOf]; omega
                    · have HVV : Hid (rvR (S.drop (k' + 1)) = some ((s.extract k1 j).data.toList, S.drop j)) := Lib.hid (by
                        have hfi := hH.out.fin (by rw [HL.out]; omega)
                        rw [← HK1.out, HRV.out, Hd.tl hj1 hfi, hfi, HEX.out])
                      clear hH HRV HEX
                      go_wp2
                      go_meet
                      exact ⟨_, j, rfl, rfl, hjk, hjl, HVV, rfl⟩
              case rest =>
              obtain ⟨V, k3, rfl, rfl, hk3a, hk3b, hrv, hwc⟩ := hcut
              subst hwc
              have HVA : Hid (V = ⟨V.data.toList.toArray⟩) := Lib.hid (Rws.ba_eq rfl)
              obtain ⟨VL, hVL⟩ : ∃ VL, V.data.toList = VL := ⟨_, rfl⟩
              rw [hVL] at hrv HVA
              have HRV := Lib.hid hrv.out
              have hVLl : VL.length ≤ 1000000 := by
                rw [← hVL]
                have h1 := hrv.out
                have : VL.length ≤ (S.drop (k' + 1)).length := rvR_bd h1
                rw [List.length_drop] at this
                rw [hVL]
                omega
              have p0 := (C7'.out.2 0 _ rfl).1
              have y0 := (C7'.out.2 0 _ rfl).2
              have p1 := (C7'.out.2 1 _ rfl).1
              have y1 := (C7'.out.2 1 _ rfl).2
              have hacc : acc2.length ≤ 1000000000 := by omega
              clear hVL hrv
              go_wp2_with (at_builtin; refine Rws.appS rfl _ _ rfl (wo.heap.size + 1) _ acc2 rfl RW.out VL _ HVA.out rfl hacc gi ?_)
              intro w5 gg gcap r5 g5
              have b5 := g5.below (wo.heap.size + 1) wi (Nat.le_refl _) (Below.refl _ _) gi
              have C5 := Lib.hid (cs_lo C7'.out b5 (Nat.lt_succ_self _) g5.size)
              have D5 := C5.out.set 1 (by simp) (.slice (some ⟨gg, 0, none⟩) (acc2.length + 1) gcap)
              simp only [List.set_cons_succ, List.set_cons_zero] at D5
              have D5 := Lib.hid D5
              have B5 := Lib.hid (g5.below _ _ (Nat.le_succ _) BI.out BI.out.size)
              have R5 := Lib.hid (own_set r5 (Nat.lt_succ_self _) 1 (.slice (some ⟨gg, 0, none⟩) (acc2.length + 1) gcap))
              have z1 := (C5.out.2 1 _ rfl).1
              have x1 := (C5.out.2 1 _ rfl).2
              have HS2 : Hid (∀ v ∈ acc2 ++ [VL], v.length ≤ 1000000) := Lib.hid (fun v hv => by
                rcases List.mem_append.1 hv with h | h
                · exact hsm2.out v h
                · rw [List.mem_singleton.1 h]; exact hVLl)
              obtain ⟨f3, hf3⟩ : ∃ g, f2 = g + 1 := ⟨f2 - 1, by omega⟩
              have HGV : Hid (rvN f3 acc2 VL (S.drop k3) = o2) := Lib.hid (by
                have h1 := rvN_eq f3 acc2 HRV.out
                rw [← h1, ← HGG.out, HK1.out, hf3])
              have n1 : a2' ≤ k3 := by omega
              have n2 : (acc2 ++ [VL]).length + (S.length - k3) ≤ 100000 := by simp only [List.length_append, List.length_cons, List.length_nil]; omega
              have n4 : S.length - k3 < S.length - k' := by omega
              have hk3l : k3 ≤ s.size := by rw [← HL.out]; exact hk3b
              have hk3k : k' < k3 := by omega
              clear b5 g5 r5 C5 RW C7' H2i H4i H5i HPi HBi HGG
              by_cases hx1 : k3 < s.size
              · have hkS : k3 < S.length := by rw [HL.out]; exact hx1
                obtain ⟨d, hx⟩ : ∃ c, S[k3]'hkS = c := ⟨_, rfl⟩
                have hdr : S.drop k3 = d :: S.drop (k3 + 1) := by rw [drop_cons hkS, hx]
                have hcc1 : s[k3] = d := get_b hS.out k3 hx1 d _ hdr
                have db1 := d.toNat_lt
                have h1 := HGV.out
                rw [hdr] at h1
                have h1 : (if d = 44 then rvRG f3 (S.drop (k3 + 1)) (acc2 ++ [VL]) else some (acc2 ++ [VL], d :: S.drop (k3 + 1))) = o2 := h1
                by_cases x4 : d = 44
                · subst x4
                  rw [if_pos rfl] at h1
                  have n3 : S.length - (k3 + 1) < f3 := by omega
                  have H1 := Lib.hid h1
                  clear h1 hdr hx HGV
                  go_wp2
                  go_roundw
                  case rel => exact ⟨f3, k3, acc2 ++ [VL], _, true, rfl, rfl, n1, hk3b, n2, Lib.hid (fun _ => ⟨hkS, n3, H1.out⟩), Lib.hid (fun h => by cases h), D5.out, R5.out, HS2, by repeat (first | with_reducible exact B5.out | with_reducible refine Below.setCell ?_ (by exact Nat.le_refl _) _)⟩
                  case measure => exact n4
                · rw [if_neg x4, ← hdr] at h1
                  have y4 : ((d.toNat : Int) == 44) = false := beq_eq_false_iff_ne.2 (fun e => x4 (UInt8.toNat_inj.1 (by show d.toNat = 44; omega)))
                  have H1 := Lib.hid h1
                  clear h1 hdr hx HGV x4
                  go_wp2
                  go_roundw
                  case rel => exact ⟨f3, k3, acc2 ++ [VL], _, false, rfl, rfl, n1, hk3b, n2, Lib.hid (fun h => by cases h), Lib.hid (fun _ => H1.out), D5.out, R5.out, HS2, by repeat (first | with_reducible exact B5.out | with_reducible refine Below.setCell ?_ (by exact Nat.le_refl _) _)⟩
                  case measure => exact n4
              · have hx2 : decide ((k3 : Int) < (s.size : Int)) = false := decide_eq_false (by omega)
                have hnil : S.drop k3 = [] := List.drop_of_length_le (by rw [HL.out]; omega)
                have h1 := HGV.out
                rw [hnil] at h1
                have h1 : some (acc2 ++ [VL], ([] : List UInt8)) = o2 := h1
                rw [← hnil] at h1
                have H1 := Lib.hid h1
                clear h1 hnil HGV
                go_wp2
                go_roundw
                case rel => exact ⟨f3, k3, acc2 ++ [VL], _, false, rfl, rfl, n1, hk3b, n2, Lib.hid (fun h => by cases h), Lib.hid (fun _ => H1.out), D5.out, R5.out, HS2, by repeat (first | with_reducible exact B5.out | with_reducible refine Below.setCell ?_ (by exact Nat.le_refl _) _)⟩
                case measure => exact n4
      ·
        rw [if_neg h59] at hG'
        have HO2 : Hid (some (acc, c :: S.drop (k + 1)) = o) := Lib.hid hG'
        have y59 : ((c.toNat : Int) == 59) = false := beq_eq_false_iff_ne.2 (fun e => h59 (UInt8.toNat_inj.1 (by show c.toNat = 59; omega)))
        clear hG' h59 hdr
        by_cases h58 : c = 58
        case neg =>
          have HZ : Hid (rlO (hdT [58, 59, 61] S) o = (false, LV.zero)) := Lib.hid (by rw [← HO2.out, rlO, if_neg (fun q => h58 q.1)])
          have y58 : ((c.toNat : Int) != 58) = true := bne_iff_ne.2 (fun e => h58 (UInt8.toNat_inj.1 (by show c.toNat = 58; omega)))
          clear h58
          have a0 := (H2.out.2 0 _ rfl).1
          have b0 := (H2.out.2 0 _ rfl).2
          have a1 := (H2.out.2 1 _ rfl).1
          have b1 := (H2.out.2 1 _ rfl).2
          have a2 := (H2.out.2 2 _ rfl).1
          have b2 := (H2.out.2 2 _ rfl).2
          have d0 := (H4.out.2 0 _ rfl).1
          have d1 := (H4.out.2 1 _ rfl).1
          have d2 := (H4.out.2 2 _ rfl).1
          have g2 : w.heap.size ≠ w.heap.size + 1 := by omega
          have g3 : w.heap.size + 1 ≠ w.heap.size := by omega
          go_wp2
          refine bodyPost_ret (v := .tuple #[.agg #[.string ⟨#[]⟩, .slice none 0 0, .string ⟨#[]⟩], .bool false]) (by simp (maxDischargeDepth := 9) [results, Try.results17, go_sem, a0, a1, a2]) rfl ?_
          rw [HZ.out]
          exact pl_zero _ _ (by repeat (first | with_reducible exact HB.out | with_reducible refine Below.setCell ?_ (by first | exact Nat.le_refl _ | (show w.heap.size ≤ w.heap.size + 2; omega)) _))
        subst h58
        obtain ⟨k1, hk1⟩ : ∃ a, a = k + 1 := ⟨_, rfl⟩
        have ek1 : (k : Int) + 1 = (k1 : Int) := by omega
        have hk1s : k1 ≤ s.size := by omega
        have q1 : (k1 : Int) ≤ (s.size : Int) := by omega
        rw [← hk1] at HO2
        have HVL : Hid (s.extract k1 s.size = ⟨(S.drop k1).toArray⟩) := Lib.hid (Rws.ba_eq (by rw [dtE, hS.out]))
        have hVl : (S.drop k1).length ≤ 1000000 := by rw [List.length_drop]; omega
        clear hk1
        obtain ⟨pa, pc, rfl⟩ := HPR.out.form
        have g1 : w.heap.size ≠ w.heap.size + 2 := by omega
        have g2' : w.heap.size + 1 ≠ w.heap.size + 2 := by omega
        have D2 := H5.out.set 2 (by simp) (.string (s.extract k1 s.size))
        simp only [List.set_cons_succ, List.set_cons_zero] at D2
        have D2 := Lib.hid D2
        have E2 := Lib.hid (H2.out.other (b := w.heap.size + 2) (i := 2) (by omega) (.string (s.extract k1 s.size)))
        have E4 := Lib.hid (H4.out.other (b := w.heap.size + 2) (i := 2) (by omega) (.string (s.extract k1 s.size)))
        have PR := Lib.hid (HPR.out.set (g := w.heap.size + 2) (by omega) 2 (.string (s.extract k1 s.size)))
        have B3 := Lib.hid (HB.out.setCell (p := ⟨w.heap.size + 2, 2, none⟩) (by show w.heap.size ≤ w.heap.size + 2; omega) (.string (s.extract k1 s.size)))
        have z0 := (H5.out.2 0 _ rfl).1
        have z1 := (H5.out.2 1 _ rfl).1
        have y2 := (H5.out.2 2 _ rfl).2
        have z2 := (H5.out.2 2 _ rfl).1
        obtain ⟨rb, hrb⟩ : ∃ r, lnB ⟨hdT [58, 59, 61] S, acc, S.drop k1⟩ = r := ⟨_, rfl⟩
        have HRB := Lib.hid hrb
        have hnl : (hdT [58, 59, 61] S).length ≤ 1000000 := by have := hd_len [58, 59, 61] S; omega
        clear hrb H2 H4 H5 HPR HB
        go_wp2_with fail
        refine (rln_v _ _ (hdT [58, 59, 61] S) (S.drop k1) _ acc rb _ HN.out.1 HVL.out hnl hVl PR.out.pars (by omega) hsm.out HRB).mono ?_
        rintro e w4 ⟨rfl, b4⟩
        have C4 := Lib.hid (E2.out.below b4)
        have E4' := Lib.hid (E4.out.below b4)
        have D4 := Lib.hid (D2.out.below b4)
        have R4 := Lib.hid (PR.out.below b4)
        have B4 := Lib.hid (bstep B3.out b4)
        clear b4 z0 z1 y2 z2 D2 E2 E4 PR B3
        cases rb with
        | false =>
          have HZ : Hid (rlO (hdT [58, 59, 61] S) o = (false, LV.zero)) := Lib.hid (by rw [← HO2.out, rlO, if_neg (fun q => by rw [HRB.out] at q; exact absurd q.2 (by decide))])
          have a0 := (C4.out.2 0 _ rfl).1
          have b0 := (C4.out.2 0 _ rfl).2
          have a1 := (C4.out.2 1 _ rfl).1
          have b1 := (C4.out.2 1 _ rfl).2
          have a2 := (C4.out.2 2 _ rfl).1
          have b2 := (C4.out.2 2 _ rfl).2
          have d0 := (E4'.out.2 0 _ rfl).1
          have d1 := (E4'.out.2 1 _ rfl).1
          have d2 := (E4'.out.2 2 _ rfl).1
          have g2 : w.heap.size ≠ w.heap.size + 1 := by omega
          have g3 : w.heap.size + 1 ≠ w.heap.size := by omega
          go_wp2
          refine bodyPost_ret (v := .tuple #[.agg #[.string ⟨#[]⟩, .slice none 0 0, .string ⟨#[]⟩], .bool false]) (by simp (maxDischargeDepth := 9) [results, Try.results17, go_sem, a0, a1, a2]) rfl ?_
          rw [HZ.out]
          exact pl_zero _ _ (by repeat (first | with_reducible exact B4.out | with_reducible refine Below.setCell ?_ (by first | exact Nat.le_refl _ | (show w.heap.size ≤ w.heap.size + 2; omega)) _))
        | true =>
          have HZ : Hid (rlO (hdT [58, 59, 61] S) o = (true, ⟨hdT [58, 59, 61] S, acc, S.drop k1⟩)) := Lib.hid (by rw [← HO2.out, rlO, if_pos ⟨rfl, HRB.out⟩])
          have u0 := (D4.out.2 0 _ rfl).1
          have u1 := (D4.out.2 1 _ rfl).1
          have u2 := (D4.out.2 2 _ rfl).1
          have a0 := (C4.out.2 0 _ rfl).1
          have b0 := (C4.out.2 0 _ rfl).2
          have a1 := (C4.out.2 1 _ rfl).1
          have b1 := (C4.out.2 1 _ rfl).2
          have a2 := (C4.out.2 2 _ rfl).1
          have b2 := (C4.out.2 2 _ rfl).2
          go_wp2
          refine bodyPost_ret (v := .tuple #[.agg #[.string V0, .slice pa acc.length pc, .string (s.extract k1 s.size)], .bool true]) (by simp (maxDischargeDepth := 9) [results, Try.results17, go_sem, a0, a1, a2]) rfl ?_
          rw [HZ.out]
          exact ⟨_, by rw [HN.out.1, HVL.out], Lib.hid ⟨ParR.pars (B := w.heap.size + 3) (by repeat (first | with_reducible exact R4.out | with_reducible refine ParR.set ?_ (by omega) _ _)), by show acc.length ≤ _; omega, hsm.out, parLow (B := w.heap.size + 3) (by omega) (by repeat (first | with_reducible exact R4.out | with_reducible refine ParR.set ?_ (by omega) _ _))⟩, by repeat (first | with_reducible exact B4.out | with_reducible refine Below.setCell ?_ (by exact Nat.le_refl _) _)⟩
    ·
      have HZ : Hid (rlO (hdT [58, 59, 61] S) o = (false, LV.zero)) := Lib.hid (by
        have hnil : S.drop k = [] := List.drop_of_length_le (by rw [HL.out]; omega)
        rw [← hG.out, hnil]
        rfl)
      have hx2 : decide ((k : Int) < (s.size : Int)) = false := decide_eq_false (by omega)
      have hx3 : (s.size : Int) ≤ (k : Int) := by omega
      clear hG
      have a0 := (H2.out.2 0 _ rfl).1
      have b0 := (H2.out.2 0 _ rfl).2
      have a1 := (H2.out.2 1 _ rfl).1
      have b1 := (H2.out.2 1 _ rfl).2
      have a2 := (H2.out.2 2 _ rfl).1
      have b2 := (H2.out.2 2 _ rfl).2
      have d0 := (H4.out.2 0 _ rfl).1
      have d1 := (H4.out.2 1 _ rfl).1
      have d2 := (H4.out.2 2 _ rfl).1
      have g2 : w.heap.size ≠ w.heap.size + 1 := by omega
      have g3 : w.heap.size + 1 ≠ w.heap.size := by omega
      go_wp2
      refine bodyPost_ret (v := .tuple #[.agg #[.string ⟨#[]⟩, .slice none 0 0, .string ⟨#[]⟩], .bool false]) (by simp (maxDischargeDepth := 9) [results, Try.results17, go_sem, a0, a1, a2]) rfl ?_
      rw [HZ.out]
      exact pl_zero _ _ (by repeat (first | with_reducible exact HB.out | with_reducible refine Below.setCell ?_ (by first | exact Nat.le_refl _ | (show w.heap.size ≤ w.heap.size + 2; omega)) _))
end Lin
end Go.Proofs.Ytdakpncfophjnaa
