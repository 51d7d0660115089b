/-
  Contracts of package onset: Letter; of its laws: Heavy, Right. (Written by gen/gen_onsc.py.)
-/
import Derived.Test.YthefgagmjamdkaaDoorOnsB
import Derived.Test.YthefgagmjamdkaaDoorRRul
namespace Go.Proofs.YthefgagmjamdkaaDoor
open Go.RowKit
namespace Ons
open Rul Rs Cel
theorem chk_n {nm lt : List UInt8} {fr tu mo kk vv dd nn cc sv : Int} (h : chkB ⟨nm, fr, tu, mo, kk, vv, dd, nn, cc, sv, lt⟩ = true) : 1 ≤ fr ∧ fr ≤ tu ∧ tu ≤ 9999 ∧ -1000000 ≤ nn ∧ nn ≤ 1000000 := by
  obtain ⟨_, _, h1, h2, h3, _, _, _, _, h4, _⟩ := chk_parts h
  have h4 : Atf.atOk nn cc = true := h4
  rw [Atf.atOk, Bool.and_eq_true, Atf.inS] at h4
  have := of_decide_eq_true h4.1
  exact ⟨h1, h2, h3, by omega, by omega⟩
theorem okE_0 {L : List RV} (h : okE L = 0) : L.length ≤ 200 ∧ L.all chkB = true := by
  rw [okE] at h
  split at h
  · exact absurd h (by decide)
  · rename_i h1
    split at h
    · rename_i h2; exact ⟨by omega, h2⟩
    · exact absurd h (by decide)
theorem ock_slice (a : Option Addr) (n c : Nat) (L : List RV) (e : Int) (w : World) (hv : RulV w (.slice a n c) L) (hsm : Hid (∀ r ∈ L, r.nm.length ≤ 1000000 ∧ r.lt.length ≤ 1000000)) (hlen : L.length ≤ 1000000000) (hE : Hid (okE L = e)) :
    Calls Tryd.prog 19 #[.slice a n c] w fun x w' => x = .returned (.int .i64 e) ∧ Below w.heap.size w w' := ock_to _ L e w hv hsm.out hlen hE
theorem str_ne {x y : List UInt8} (h : x ≠ y) : ((⟨x.toArray⟩ : ByteArray).toList == (⟨y.toArray⟩ : ByteArray).toList) = false := by
  rw [Lib.toList_data, Lib.toList_data]; exact beq_eq_false_iff_ne.2 h
theorem str_eq (x : List UInt8) : ((⟨x.toArray⟩ : ByteArray).toList == (⟨x.toArray⟩ : ByteArray).toList) = true := beq_self_eq_true _
/-! ### Letter -/
set_option maxHeartbeats 6400000 in
set_option maxRecDepth 100000 in
theorem let_bad (a : Option Addr) (n c : Nat) (NM : List UInt8) (L : List RV) (e : Int) (w : World) (hv : RulV w (.slice a n c) L) (hsm : Hid (∀ r ∈ L, r.nm.length ≤ 1000000 ∧ r.lt.length ≤ 1000000)) (hlen : L.length ≤ 1000000000) (hE : Hid (okE L = e)) (he : e ≠ 0) :
    Calls Tryd.prog 9 #[.slice a n c, .string ⟨NM.toArray⟩] w fun x w' => x = .returned (.tuple #[.string ⟨[].toArray⟩, .int .i64 e]) ∧ Below w.heap.size w w' := by
  have h1 : (e == 0) = false := beq_eq_false_iff_ne.2 he
  go_enter Tryd.func9, Tryd.ntmps9
  go_wp2_with fail
  refine (ock_slice a n c L e _ hv hsm hlen hE).mono ?_
  rintro e2 w1 ⟨rfl, hb1⟩
  go_wp2
  go_ret2
  exact ⟨rfl, hb1⟩
set_option maxHeartbeats 6400000 in
set_option maxRecDepth 100000 in
theorem let_nil (a : Option Addr) (c : Nat) (NM : List UInt8) (w : World) (hv : RulV w (.slice a 0 c) []) :
    Calls Tryd.prog 9 #[.slice a 0 c, .string ⟨NM.toArray⟩] w fun x w' => x = .returned (.tuple #[.string ⟨[].toArray⟩, .int .i64 0]) ∧ Below w.heap.size w w' := by
  go_enter Tryd.func9, Tryd.ntmps9
  go_wp2_with fail
  refine (ock_slice a 0 c [] 0 _ hv (Lib.hid (by simp)) (by simp) (Lib.hid rfl)).mono ?_
  rintro e2 w1 ⟨rfl, hb1⟩
  go_wp2
  go_loopw [7, 21] (fun lv i wr => lv = .string ⟨#[]⟩ ∧ i = .int .i64 0 ∧ Below w.heap.size w wr) (fun _ _ _ => 0)
  case atStart => exact ⟨rfl, rfl, hb1⟩
  case round =>
    obtain ⟨rfl, rfl, hb⟩ := hrel
    go_wp2
    go_ret2
    exact ⟨rfl, hb⟩
set_option maxHeartbeats 12800000 in
set_option maxRecDepth 100000 in
theorem let_row (b off c : Nat) (NM : List UInt8) (L : List RV) (T : List UInt8) (w : World) (hA : Civ.Ahead w) (hbl : b < w.heap.size) (hp : Hid (∀ (j : Nat) (hj : j < L.length), w.rangeAt b (off + j * 11) (rvC L[j]))) (hv : RulV w (.slice (some ⟨b, off, none⟩) L.length c) L) (hlen : L.length ≤ 200) (hsm : Hid (∀ r ∈ L, r.nm.length ≤ 1000000 ∧ r.lt.length ≤ 1000000))
    (hE : Hid (okE L = 0)) (hT : Hid (ltS NM L = T)) :
    Calls Tryd.prog 9 #[.slice (some ⟨b, off, none⟩) L.length c, .string ⟨NM.toArray⟩] w fun x w' => x = .returned (.tuple #[.string ⟨T.toArray⟩, .int .i64 0]) ∧ Below w.heap.size w w' := by
  have HC := fun (W : World) (hb : Below w.heap.size w W) => ock_slice (some ⟨b, off, none⟩) L.length c L 0 W (hv.below hb) hsm (by omega) hE
  have HCK := Lib.hid HC
  have HA := Lib.hid hA
  obtain ⟨N, hN⟩ : ∃ N, L.length = N := ⟨_, rfl⟩
  rw [hN] at hlen HCK ⊢
  have HN := Lib.hid hN
  clear hN hv HC hA
  go_enter Tryd.func9, Tryd.ntmps9
  go_wp2_with fail
  refine (HCK.out _ (Below.refl _ _)).mono ?_
  rintro e2 w1 ⟨rfl, hb1⟩
  have B1 := Lib.hid hb1
  clear hb1 HCK
  go_wp2
  go_loopw [7, 8, 9, 21] (fun lv ev fv i wr => ∃ (k : Nat) (s : List UInt8) (t : Int) (f : Bool), k ≤ N ∧ lv = .string ⟨s.toArray⟩ ∧ ev = .int .i64 t ∧ fv = .bool f ∧ i = .int .i64 k ∧ Hid (ltG NM L k = ⟨s, t, f⟩) ∧ Hid (Below w.heap.size w wr)) (fun _ _ _ i _ => N - (intOf i).toNat)
  case atStart => exact ⟨0, [], 0, false, Nat.zero_le _, rfl, rfl, rfl, rfl, Lib.hid rfl, B1⟩
  case round =>
    obtain ⟨k, s, t, f, hk, rfl, rfl, rfl, rfl, HG, HB⟩ := hrel
    obtain ⟨wo, rfl⟩ : ∃ wo : World, wo = wr := ⟨_, rfl⟩
    clear B1
    by_cases hlt : k < N
    · have hkp : k < L.length := by rw [HN.out]; exact hlt
      have r0 := range_below hbl (hp.out k hkp) HB.out
      obtain ⟨r, hr⟩ : ∃ r, L[k]'hkp = r := ⟨_, rfl⟩
      rw [hr] at r0
      have HX : Hid (ltG NM L (k + 1) = ltO NM ⟨s, t, f⟩ r) := Lib.hid (by rw [ltG_succ hkp, HG.out, hr])
      have hck : chkB r = true := by rw [← hr]; exact all_at (okE_0 hE.out).2 hkp
      clear hr hkp
      obtain ⟨nm, fr, tu, mo, kk, vv, dd, nn, cc, sv, lt⟩ := r
      obtain ⟨f1, f2, f3, f4, f5⟩ := chk_n hck
      have C0 : Hid (wo.rangeAt b (off + k * 11) [.string ⟨nm.toArray⟩, .int .i64 fr, .int .i64 tu, .int .i64 mo, .int .i64 kk, .int .i64 vv, .int .i64 dd, .int .i64 nn, .int .i64 cc, .int .i64 sv, .string ⟨lt.toArray⟩]) := Lib.hid r0
      have hC1 := Cs.new wo [.string ⟨nm.toArray⟩, .int .i64 fr, .int .i64 tu, .int .i64 mo, .int .i64 kk, .int .i64 vv, .int .i64 dd, .int .i64 nn, .int .i64 cc, .int .i64 sv, .string ⟨lt.toArray⟩] 43
      have C1 := Lib.hid hC1.range
      have K1 := Lib.hid hC1
      have B1 := Lib.hid (HB.out.alloc HB.out.size (Obj.cells #[.string ⟨nm.toArray⟩, .int .i64 fr, .int .i64 tu, .int .i64 mo, .int .i64 kk, .int .i64 vv, .int .i64 dd, .int .i64 nn, .int .i64 cc, .int .i64 sv, .string ⟨lt.toArray⟩] 43))
      clear r0 hck hC1
      by_cases e1 : NM = nm
      · subst e1
        by_cases e2 : sv = 0
        · subst e2
          obtain ⟨ln, lb, hf⟩ : ∃ ln lb, (firstO ⟨NM, fr, tu, mo, kk, vv, dd, nn, cc, 0, lt⟩ = some ln ∧ lb = true) ∨ (firstO ⟨NM, fr, tu, mo, kk, vv, dd, nn, cc, 0, lt⟩ = none ∧ ln = 0 ∧ lb = false) := by
            cases q : firstO ⟨NM, fr, tu, mo, kk, vv, dd, nn, cc, 0, lt⟩ with
            | some x => exact ⟨x, true, Or.inl ⟨rfl, rfl⟩⟩
            | none => exact ⟨0, false, Or.inr ⟨rfl, rfl, rfl⟩⟩
          have HF := Lib.hid hf
          clear hf
          have A1 := Lib.hid (HA.out.stays B1.out)
          have hx := HX.out
          rw [ltO, if_pos ⟨rfl, rfl⟩] at hx
          have HF1 : Hid (∀ x, firstO ⟨NM, fr, tu, mo, kk, vv, dd, nn, cc, 0, lt⟩ = some x → (if f = false ∨ x < t then (⟨lt, x, true⟩ : LS) else ⟨s, t, f⟩) = ltG NM L (k + 1)) := Lib.hid (fun x q => by rw [hx, q])
          have HF2 : Hid (firstO ⟨NM, fr, tu, mo, kk, vv, dd, nn, cc, 0, lt⟩ = none → (⟨s, t, f⟩ : LS) = ltG NM L (k + 1)) := Lib.hid (fun q => by rw [hx, q])
          clear hx HX HG
          go_wp2_with (first | (refine ldV C0.out rfl (by rfl) (by rfl) (by rfl) ?_; intro K2 hK2; go_simp) | (refine ldV C1.out rfl (by rfl) (by rfl) (by rfl) ?_; intro K2 hK2; go_simp))
          refine (fst_to NM lt fr tu mo kk vv dd nn cc 0 ln lb _ A1.out f4 f5 f1 f3 HF).mono ?_
          rintro e2 w1 ⟨rfl, hb1⟩
          have B2 := Lib.hid (bstep B1.out hb1)
          have K2 := Lib.hid (K1.out.below hb1)
          clear hb1 K1 C1
          have z10 := (K2.out.2 10 _ rfl).1
          rcases HF.out with ⟨q, rfl⟩ | ⟨q, rfl, rfl⟩
          · have HG2 := Lib.hid (HF1.out ln q)
            clear q HF1 HF2 HF
            cases f with
            | false =>
              have HG3 : Hid (ltG NM L (k + 1) = ⟨lt, ln, true⟩) := Lib.hid (by rw [← HG2.out, if_pos (Or.inl rfl)])
              clear HG2
              go_wp2
              go_roundw
              case rel => exact ⟨k + 1, lt, ln, true, by omega, rfl, rfl, rfl, by go_num, HG3, B2⟩
              case measure => simp [intOf]; omega
            | true =>
              by_cases hl : ln < t
              · have HG3 : Hid (ltG NM L (k + 1) = ⟨lt, ln, true⟩) := Lib.hid (by rw [← HG2.out, if_pos (Or.inr hl)])
                clear HG2
                go_wp2
                go_roundw
                case rel => exact ⟨k + 1, lt, ln, true, by omega, rfl, rfl, rfl, by go_num, HG3, B2⟩
                case measure => simp [intOf]; omega
              · have HG3 : Hid (ltG NM L (k + 1) = ⟨s, t, true⟩) := Lib.hid (by rw [← HG2.out, if_neg (by simp [hl])])
                clear HG2
                go_wp2
                go_roundw
                case rel => exact ⟨k + 1, s, t, true, by omega, rfl, rfl, rfl, by go_num, HG3, B2⟩
                case measure => simp [intOf]; omega
          · have HG2 := Lib.hid (HF2.out q).symm
            clear q HF1 HF2 HF
            go_wp2
            go_roundw
            case rel => exact ⟨k + 1, s, t, f, by omega, rfl, rfl, rfl, by go_num, HG2, B2⟩
            case measure => simp [intOf]; omega
        · have HG2 : Hid (ltG NM L (k + 1) = ⟨s, t, f⟩) := Lib.hid (by rw [HX.out, ltO, if_neg (fun q => e2 q.2)])
          have x4 : (sv == 0) = false := beq_eq_false_iff_ne.2 e2
          have x3 : (sv != 0) = true := by rw [bne, x4]; rfl
          clear e2 HX HG
          go_wp2_with (first | (refine ldV C0.out rfl (by rfl) (by rfl) (by rfl) ?_; intro K2 hK2; go_simp) | (refine ldV C1.out rfl (by rfl) (by rfl) (by rfl) ?_; intro K2 hK2; go_simp))
          go_roundw
          case rel => exact ⟨k + 1, s, t, f, by omega, rfl, rfl, rfl, by go_num, HG2, B1⟩
          case measure => simp [intOf]; omega
      · have HG2 : Hid (ltG NM L (k + 1) = ⟨s, t, f⟩) := Lib.hid (by rw [HX.out, ltO, if_neg (fun q => e1 q.1.symm)])
        have e1' : ¬ nm = NM := fun q => e1 q.symm
        clear HX HG
        go_wp2_with (first | (refine ldV C0.out rfl (by rfl) (by rfl) (by rfl) ?_; intro K2 hK2; go_simp) | (refine ldV C1.out rfl (by rfl) (by rfl) (by rfl) ?_; intro K2 hK2; go_simp))
        go_roundw
        case rel => exact ⟨k + 1, s, t, f, by omega, rfl, rfl, rfl, by go_num, HG2, B1⟩
        case measure => simp [intOf]; omega
    · have HR : Hid (s = T) := Lib.hid (by
        have q := HG.out
        rw [show k = L.length by rw [HN.out]; omega] at q
        rw [← hT.out, ltS, q])
      obtain rfl := HR.out
      go_wp2
      go_ret2
      exact ⟨rfl, HB.out⟩
/-- Letter of whatever rules. -/
theorem let_to (v : Value) (NM : List UInt8) (L : List RV) (e : Int) (T : List UInt8) (w : World) (hA : Civ.Ahead w) (hv : RulV w v L) (hsm : Hid (∀ r ∈ L, r.nm.length ≤ 1000000 ∧ r.lt.length ≤ 1000000)) (hlen : L.length ≤ 1000000000) (hE : Hid (okE L = e)) (hT : Hid ((if e = 0 then ltS NM L else []) = T)) :
    Calls Tryd.prog 9 #[v, .string ⟨NM.toArray⟩] w fun x w' => x = .returned (.tuple #[.string ⟨T.toArray⟩, .int .i64 e]) ∧ Below w.heap.size w w' := by
  have hT := hT.out
  by_cases he : e = 0
  · rw [if_pos he] at hT
    subst he
    by_cases h0 : L.length = 0
    · obtain ⟨a, c, rfl⟩ := hv.slice
      have : L = [] := List.eq_nil_of_length_eq_zero h0
      subst this
      obtain rfl : [] = T := hT
      exact let_nil a c NM w hv
    · have hv2 := hv
      obtain ⟨b, off, c, rfl, hb, hp⟩ := RowV.form hv (by omega)
      exact let_row b off c NM L T w hA hb (Lib.hid hp) hv2 (okE_0 hE.out).1 hsm hE (Lib.hid hT)
  · rw [if_neg he] at hT
    subst hT
    obtain ⟨a, c, rfl⟩ := hv.slice
    exact let_bad a _ c NM L e w hv hsm hlen hE he
end Ons
end Go.Proofs.YthefgagmjamdkaaDoor
