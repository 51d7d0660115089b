/-
  The reference's FirstLetter. (Written by gen/gen_onse.py.)
-/
import Derived.Test.YthefgagmjamdkaaDoorOnsU2
namespace Go.Proofs.YthefgagmjamdkaaDoor
open Go.RowKit
namespace Ons
open Rul Rs Cel
set_option maxHeartbeats 25600000 in
set_option maxRecDepth 100000 in
theorem rfl_row (b off c : Nat) (NM : List UInt8) (L : List RV) (N : Nat) (T : List UInt8) (w : World) (hN : L.length = N) (hbl : b < w.heap.size) (hp : Hid (∀ (j : Nat) (hj : j < L.length), w.rangeAt b (off + j * 11) (rvC L[j]))) (hlen : N ≤ 200) (RB : Hid (L.all chkB = true)) (hT : Hid (ltS NM L = T)) :
    Calls Tryd.prog 13 #[.slice (some ⟨b, off, none⟩) N c, .string ⟨NM.toArray⟩] w fun x w' => x = .returned (.string ⟨T.toArray⟩) ∧ Below w.heap.size w w' := by
  have hb0 := Lib.hid hbl
  have HN := Lib.hid hN
  clear hN hbl
  go_enter Tryd.func13, Tryd.ntmps13
  go_wp2_with fail
  go_loopw [5, 6, 7, 8] (fun ev lv fv i wr => ∃ (k : Nat) (s : List UInt8) (t : Int) (f : Bool), k ≤ N ∧ lv = .string ⟨s.toArray⟩ ∧ ev = .int .i64 t ∧ fv = .bool f ∧ i = .int .i64 k ∧ Hid (ltG NM L k = ⟨s, t, f⟩) ∧ Hid (Below w.heap.size w wr)) (fun _ _ _ i _ => N - (intOf i).toNat)
  case atStart => exact ⟨0, [], 0, false, Nat.zero_le _, rfl, rfl, rfl, rfl, Lib.hid rfl, Lib.hid (Below.refl _ _)⟩
  case round =>
    obtain ⟨k, s, t, f, hk, rfl, rfl, rfl, rfl, HG, HB⟩ := hrel
    obtain ⟨wo, rfl⟩ : ∃ wo : World, wo = wr := ⟨_, rfl⟩
    by_cases hlt : k < N
    · have hkp : k < L.length := by rw [HN.out]; exact hlt
      have r0 := range_below hb0.out (hp.out k hkp) HB.out
      obtain ⟨r, hr⟩ : ∃ r, L[k]'hkp = r := ⟨_, rfl⟩
      rw [hr] at r0
      have HX : Hid (ltG NM L (k + 1) = ltO NM ⟨s, t, f⟩ r) := Lib.hid (by rw [ltG_succ hkp, HG.out, hr])
      have hck : chkB r = true := by rw [← hr]; exact all_at RB.out hkp
      clear hr hkp
      obtain ⟨nm, fr, tu, mo, kk, vv, dd, nn, cc, sv, lt⟩ := r
      obtain ⟨f1, f2, f3, f4, f5⟩ := chk_n hck
      have ON := Lib.hid (chk_on hck)
      have C0 : Hid (wo.rangeAt b (off + k * 11) [.string ⟨nm.toArray⟩, .int .i64 fr, .int .i64 tu, .int .i64 mo, .int .i64 kk, .int .i64 vv, .int .i64 dd, .int .i64 nn, .int .i64 cc, .int .i64 sv, .string ⟨lt.toArray⟩]) := Lib.hid r0
      have hC1 := Cs.new wo [.string ⟨nm.toArray⟩, .int .i64 fr, .int .i64 tu, .int .i64 mo, .int .i64 kk, .int .i64 vv, .int .i64 dd, .int .i64 nn, .int .i64 cc, .int .i64 sv, .string ⟨lt.toArray⟩] 43
      have K1 := Lib.hid hC1
      have B1 := Lib.hid (HB.out.alloc HB.out.size (Obj.cells #[.string ⟨nm.toArray⟩, .int .i64 fr, .int .i64 tu, .int .i64 mo, .int .i64 kk, .int .i64 vv, .int .i64 dd, .int .i64 nn, .int .i64 cc, .int .i64 sv, .string ⟨lt.toArray⟩] 43))
      clear r0 hck hC1
      by_cases e1 : NM = nm
      · subst e1
        by_cases e2 : sv = 0
        · subst e2
          have hx := HX.out
          rw [ltO, if_pos ⟨rfl, rfl⟩] at hx
          have HF1 : Hid (∀ x, firstO ⟨NM, fr, tu, mo, kk, vv, dd, nn, cc, 0, lt⟩ = some x → (if f = false ∨ x < t then (⟨lt, x, true⟩ : LS) else ⟨s, t, f⟩) = ltG NM L (k + 1)) := Lib.hid (fun x q => by rw [hx, q])
          have HF2 : Hid (firstO ⟨NM, fr, tu, mo, kk, vv, dd, nn, cc, 0, lt⟩ = none → (⟨s, t, f⟩ : LS) = ltG NM L (k + 1)) := Lib.hid (fun q => by rw [hx, q])
          clear hx HX HG
          go_wp2_with (refine ldV C0.out rfl (by rfl) (by rfl) (by rfl) ?_; intro K2 hK2; go_simp)
          go_loopw [5, 6, 7, 10] (fun ev lv fv yv wr => ∃ j : Nat, ev = .int .i64 t ∧ lv = .string ⟨s.toArray⟩ ∧ fv = .bool f ∧ yv = .int .i64 (fr + j) ∧ Hid (∀ i : Nat, i < j → Wk.resE (fr + i) mo kk vv dd ≠ 0) ∧ Hid (Cs wo.heap.size wr [.string ⟨NM.toArray⟩, .int .i64 fr, .int .i64 tu, .int .i64 mo, .int .i64 kk, .int .i64 vv, .int .i64 dd, .int .i64 nn, .int .i64 cc, .int .i64 0, .string ⟨lt.toArray⟩]) ∧ Hid (Below w.heap.size w wr)) (fun _ _ _ y _ => (10001 - intOf y).toNat)
          case atStart => exact ⟨0, rfl, rfl, rfl, by simp, Lib.hid (fun i hi => by omega), K1, B1⟩
          case round =>
            obtain ⟨j, rfl, rfl, rfl, rfl, HNO, HC, HBI⟩ := hrel
            obtain ⟨wi, rfl⟩ : ∃ wi : World, wi = wr := ⟨_, rfl⟩
            clear K1 B1
            have z2 := (HC.out.2 2 _ rfl).1
            by_cases hl2 : fr + (j : Int) ≤ tu
            · obtain ⟨y, hy⟩ : ∃ y, fr + (j : Int) = y := ⟨_, rfl⟩
              rw [hy] at hl2 ⊢
              have HY2 := Lib.hid hy
              have y1 : 1 ≤ y := by omega
              have y9 : y ≤ 9999 := by omega
              have hjt : fr + (j : Int) ≤ tu := by omega
              have HJT := Lib.hid hjt
              clear hy
              obtain ⟨D, hD⟩ : ∃ D, Wk.rsV y mo kk vv dd = D := ⟨_, rfl⟩
              obtain ⟨ok, hok⟩ : ∃ ok, decide (Wk.resE y mo kk vv dd = 0) = ok := ⟨_, rfl⟩
              have HD := Lib.hid (And.intro hD hok)
              have HDV : Hid (ok = true → Wk.resE y mo kk vv dd = 0 ∧ Wk.resV y mo kk vv dd = D ∧ -800000 ≤ D ∧ D ≤ 3000000) := Lib.hid (fun q => by
                have e0 : Wk.resE y mo kk vv dd = 0 := of_decide_eq_true (hok.trans q)
                have e : Wk.resE y mo kk vv dd = Civ.numE y mo (Wk.rday y mo kk dd) := by rw [Wk.resE, if_pos ON.out, if_pos ⟨y1, y9⟩]
                have e1 : Wk.resV y mo kk vv dd = D := by rw [← hD, Wk.rsV, if_pos (by rw [← e]; exact e0)]
                have := res_bd y mo kk vv dd
                exact ⟨e0, e1, by omega, by omega⟩)
              have HYB : Hid (1 ≤ y ∧ y ≤ 9999) := Lib.hid ⟨y1, y9⟩
              have z3 := (HC.out.2 3 _ rfl).1
              have z4 := (HC.out.2 4 _ rfl).1
              have z5 := (HC.out.2 5 _ rfl).1
              have z6 := (HC.out.2 6 _ rfl).1
              clear hD hok hjt
              go_wp2_with fail
              refine (rres_to y mo kk vv dd D ok _ ON.out y1 y9 HD).mono ?_
              rintro e w5 ⟨rfl, k5⟩
              have HC2 := Lib.hid (HC.out.below k5)
              have HB2 := Lib.hid (bstep HBI.out k5)
              clear k5 HC HBI z2 z3 z4 z5 z6
              cases ok with
              | false =>
                have HNO2 : Hid (∀ i : Nat, i < j + 1 → Wk.resE (fr + i) mo kk vv dd ≠ 0) := Lib.hid (fun i hi => by
                  by_cases q : i = j
                  · subst q; rw [HY2.out]; exact of_decide_eq_false HD.out.2
                  · exact HNO.out i (by omega))
                go_wp2
                go_roundw
                case rel => exact ⟨j + 1, rfl, rfl, rfl, by have := HY2.out; go_num, HNO2, HC2, HB2⟩
                case measure => simp [intOf]; have := HYB.out; have := HY2.out; omega
              | true =>
                obtain ⟨E0, EV, d1, d2⟩ := HDV.out rfl
                have HFX0 : Hid (firstO ⟨NM, fr, tu, mo, kk, vv, dd, nn, cc, 0, lt⟩ = some (D * 86400 + nn)) := Lib.hid (by
                  have q : firstO ⟨NM, fr, tu, mo, kk, vv, dd, nn, cc, 0, lt⟩ = some (loc ⟨NM, fr, tu, mo, kk, vv, dd, nn, cc, 0, lt⟩ (fr + j)) := first_at (r := ⟨NM, fr, tu, mo, kk, vv, dd, nn, cc, 0, lt⟩) HNO.out (by show fr + (j : Int) ≤ tu; exact HJT.out) (by show Wk.resE (fr + j) mo kk vv dd = 0; rw [HY2.out]; exact E0)
                  rw [q, loc, HY2.out]
                  show some (Wk.resV y mo kk vv dd * 86400 + nn) = _
                  rw [EV])
                obtain ⟨tt, htt⟩ : ∃ tt, D * 86400 + nn = tt := ⟨_, rfl⟩
                have HFX : Hid (firstO ⟨NM, fr, tu, mo, kk, vv, dd, nn, cc, 0, lt⟩ = some tt) := Lib.hid (by rw [HFX0.out, htt])
                have wm1 : IntKind.i64.wrap (D * 86400) = D * 86400 := by rw [IntKind.wrap_i64]; omega
                have wm2 : IntKind.i64.wrap (D * 86400 + nn) = tt := by rw [IntKind.wrap_i64]; omega
                have z7 := (HC2.out.2 7 _ rfl).1
                have z10 := (HC2.out.2 10 _ rfl).1
                have HX2 := Lib.hid (HF1.out tt HFX.out)
                clear E0 EV HFX0 htt HF1 HF2
                cases f with
                | false =>
                  have HG3 : Hid (ltG NM L (k + 1) = ⟨lt, tt, true⟩) := Lib.hid (by rw [← HX2.out, if_pos (Or.inl rfl)])
                  clear HFX HX2
                  go_upto_region 14 with fail
                  go_region
                  have BD := Lib.hid (below_drewN HB2.out 1)
                  change Hid (Below _ _ w5.drew) at BD
                  go_wp2
                  go_roundw
                  case rel => exact ⟨k + 1, lt, tt, true, by omega, rfl, rfl, rfl, by go_num, HG3, BD⟩
                  case measure => simp [intOf]; omega
                | true =>
                  by_cases hl : tt < t
                  · have HLT := Lib.hid hl
                    have HG3 : Hid (ltG NM L (k + 1) = ⟨lt, tt, true⟩) := Lib.hid (by rw [← HX2.out, if_pos (Or.inr HLT.out)])
                    clear HFX HX2
                    go_upto_region 14 with fail
                    go_region
                    have BD := Lib.hid (below_drewN HB2.out 1)
                    change Hid (Below _ _ w5.drew) at BD
                    go_wp2
                    go_roundw
                    case rel => exact ⟨k + 1, lt, tt, true, by omega, rfl, rfl, rfl, by go_num, HG3, BD⟩
                    case measure => simp [intOf]; omega
                  · have HG3 : Hid (ltG NM L (k + 1) = ⟨s, t, true⟩) := Lib.hid (by rw [← HX2.out, if_neg (by simp [hl])])
                    clear HFX HX2
                    go_wp2
                    go_roundw
                    case rel => exact ⟨k + 1, s, t, true, by omega, rfl, rfl, rfl, by go_num, HG3, HB2⟩
                    case measure => simp [intOf]; omega
            · have HG2 : Hid (ltG NM L (k + 1) = ⟨s, t, f⟩) := Lib.hid (HF2.out (first_none (r := ⟨NM, fr, tu, mo, kk, vv, dd, nn, cc, 0, lt⟩) (fun i hi => HNO.out i (by have hi' : i < (tu + 1 - fr).toNat := hi; omega)))).symm
              clear HF1 HF2
              go_wp2
              go_roundw
              case rel => exact ⟨k + 1, s, t, f, by omega, rfl, rfl, rfl, by go_num, HG2, HBI⟩
              case measure => simp [intOf]; omega
        · have HG2 : Hid (ltG NM L (k + 1) = ⟨s, t, f⟩) := Lib.hid (by rw [HX.out, ltO, if_neg (fun q => e2 q.2)])
          have x4 : (sv == 0) = false := beq_eq_false_iff_ne.2 e2
          have x3 : (sv != 0) = true := by rw [bne, x4]; rfl
          clear e2 HX HG
          go_wp2_with (refine ldV C0.out rfl (by rfl) (by rfl) (by rfl) ?_; intro K2 hK2; go_simp)
          go_roundw
          case rel => exact ⟨k + 1, s, t, f, by omega, rfl, rfl, rfl, by go_num, HG2, B1⟩
          case measure => simp [intOf]; omega
      · have HG2 : Hid (ltG NM L (k + 1) = ⟨s, t, f⟩) := Lib.hid (by rw [HX.out, ltO, if_neg (fun q => e1 q.1.symm)])
        have e1' : ¬ nm = NM := fun q => e1 q.symm
        have e2' : (nm == NM) = false := beq_eq_false_iff_ne.2 e1'
        clear HX HG
        go_wp2_with (refine ldV C0.out rfl (by rfl) (by rfl) (by rfl) ?_; intro K2 hK2; go_simp)
        go_roundw
        case rel => exact ⟨k + 1, s, t, f, by omega, rfl, rfl, rfl, by go_num, HG2, B1⟩
        case measure => simp [intOf]; omega
    · have HR : Hid (s = T) := Lib.hid (by
        have q := HG.out
        rw [show k = L.length by rw [HN.out]; omega] at q
        rw [← hT.out, ltS, q])
      obtain rfl := HR.out
      go_wp2
      go_ret
      exact ⟨rfl, HB.out⟩
set_option maxHeartbeats 3200000 in
set_option maxRecDepth 100000 in
theorem rfl_nil (a : Option Addr) (c : Nat) (NM : List UInt8) (w : World) :
    Calls Tryd.prog 13 #[.slice a 0 c, .string ⟨NM.toArray⟩] w fun x w' => x = .returned (.string ⟨[].toArray⟩) ∧ Below w.heap.size w w' := by
  go_enter Tryd.func13, Tryd.ntmps13
  go_wp2_with fail
  go_loopw [6, 8] (fun lv iv wr => lv = .string ⟨#[]⟩ ∧ iv = .int .i64 0 ∧ Hid (Below w.heap.size w wr)) (fun _ _ _ => 0)
  case atStart => exact ⟨rfl, rfl, Lib.hid (Below.refl _ _)⟩
  case round =>
    obtain ⟨rfl, rfl, HB⟩ := hrel
    go_wp2
    go_ret
    exact ⟨rfl, HB.out⟩
theorem rfirst_to (v : Value) (NM : List UInt8) (L : List RV) (T : List UInt8) (w : World) (hv : RulV w v L) (hlen : L.length ≤ 200) (RB : Hid (L.all chkB = true)) (hT : Hid (ltS NM L = T)) :
    Calls Tryd.prog 13 #[v, .string ⟨NM.toArray⟩] w fun x w' => x = .returned (.string ⟨T.toArray⟩) ∧ Below w.heap.size w w' := by
  by_cases h0 : L.length = 0
  · obtain ⟨a, c, rfl⟩ := hv.slice
    have : L = [] := List.eq_nil_of_length_eq_zero h0
    subst this
    obtain rfl : [] = T := hT.out
    exact rfl_nil a c NM w
  · obtain ⟨b, off, c, rfl, hb, hp⟩ := RowV.form hv (by omega)
    exact rfl_row b off c NM L L.length T w rfl hb (Lib.hid hp) hlen RB hT
end Ons
end Go.Proofs.YthefgagmjamdkaaDoor
