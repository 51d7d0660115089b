/-
  The reference's Onsets. (Written by gen/gen_onse.py.)
-/
import Derived.Test.YthefgagmjamdkaaDoorOnsE2
import Derived.Test.YthefgagmjamdkaaDoorOnsU2
namespace Go.Proofs.YthefgagmjamdkaaDoor
open Go.RowKit
namespace Ons
open Rul Rs Cel
open Ap (Grew)
set_option maxHeartbeats 25600000 in
set_option maxRecDepth 100000 in
theorem ron_row (b off c : Nat) (NM : List UInt8) (last : Int) (L : List RV) (N : Nat) (w : World) (hN : L.length = N) (hbl : b < w.heap.size) (hp : Hid (∀ (j : Nat) (hj : j < L.length), w.rangeAt b (off + j * 11) (rvC L[j]))) (hlen : N ≤ 200) (RB : Hid (L.all chkB = true)) (l1 : 1 ≤ last) (l2 : last ≤ 9999) :
    Calls Tryd.prog 15 #[.slice (some ⟨b, off, none⟩) N c, .string ⟨NM.toArray⟩, .int .i64 last] w fun x w' => ∃ lv, x = .returned lv ∧ RowV ovC 3 w' lv (onS NM last L) ∧ Below w.heap.size w w' := by
  have YR : ∀ r ∈ L, 1 ≤ r.fr ∧ r.tu ≤ 9999 := fun r hr => by
    obtain ⟨nm, fr, tu, mo, kk, vv, dd, nn, cc, sv, lt⟩ := r
    obtain ⟨f1, f2, f3, _, _⟩ := chk_n (List.all_eq_true.1 RB.out _ hr)
    exact ⟨f1, f3⟩
  have HLN : Hid (∀ k : Nat, k ≤ L.length → (onG NM last L k).length ≤ k * 9999) := Lib.hid (fun k hk => onG_len YR k hk)
  have hb0 := Lib.hid hbl
  have HN := Lib.hid hN
  clear YR hN hbl
  go_enter Tryd.func15, Tryd.ntmps15
  go_wp2_with fail
  go_loopw [7, 8] (fun lv iv wr => ∃ (k : Nat) (sv9 : Value), k ≤ N ∧ sv9 = lv ∧ iv = .int .i64 k ∧ Hid (RowO w.heap.size wr sv9 (onG NM last L k)) ∧ Hid (Below w.heap.size w wr)) (fun _ i _ => N - (intOf i).toNat)
  case atStart => exact ⟨0, _, Nat.zero_le _, rfl, rfl, Lib.hid (RowO.nil _ _), Lib.hid (Below.refl _ _)⟩
  case round =>
    obtain ⟨k, sv9, hk, rfl, rfl, HR, HB⟩ := hrel
    obtain ⟨wo, rfl⟩ : ∃ wo : World, wo = wr := ⟨_, rfl⟩
    have HGL : Hid ((onG NM last L k).length ≤ 1999800) := Lib.hid (by have := HLN.out k (by have := HN.out; omega); omega)
    by_cases hlt : k < N
    · have hkp : k < L.length := by rw [HN.out]; exact hlt
      have r0 := range_below hb0.out (hp.out k hkp) HB.out
      have hbo := Nat.lt_of_lt_of_le hb0.out HB.out.size
      obtain ⟨r, hr⟩ : ∃ r, L[k]'hkp = r := ⟨_, rfl⟩
      rw [hr] at r0
      have HX : Hid (onG NM last L (k + 1) = onG NM last L k ++ onR NM last k r) := Lib.hid (by rw [onG_succ hkp, hr])
      have hck : chkB r = true := by rw [← hr]; exact all_at RB.out hkp
      clear hr hkp
      obtain ⟨nm, fr, tu, mo, kk, vv, dd, nn, cc, sv, lt⟩ := r
      obtain ⟨f1, f2, f3, f4, f5⟩ := chk_n hck
      have ON := Lib.hid (chk_on hck)
      have S0 : Hid (HwS w b (off + k * 11) [.string ⟨nm.toArray⟩, .int .i64 fr, .int .i64 tu, .int .i64 mo, .int .i64 kk, .int .i64 vv, .int .i64 dd, .int .i64 nn, .int .i64 cc, .int .i64 sv, .string ⟨lt.toArray⟩] wo) := Lib.hid ⟨r0, hbo, HB.out⟩
      clear r0 hck hbo
      have c0 : wo.cell? ⟨b, off + k * 11, none⟩ = some (.string ⟨nm.toArray⟩) := S0.out.r 0 _ rfl
      have c1 := S0.out.r 1 _ rfl
      have c2' := S0.out.r 2 _ rfl
      by_cases e1 : NM = nm
      · subst e1
        have HY : Hid (onG NM last L (k + 1) = onG NM last L k ++ onY k ⟨NM, fr, tu, mo, kk, vv, dd, nn, cc, sv, lt⟩ (yrN ⟨NM, fr, tu, mo, kk, vv, dd, nn, cc, sv, lt⟩ last)) := Lib.hid (by rw [HX.out, onR, if_pos rfl])
        have YN : Hid (yrN ⟨NM, fr, tu, mo, kk, vv, dd, nn, cc, sv, lt⟩ last = (min tu last + 1 - fr).toNat) := Lib.hid rfl
        clear HX
        by_cases hle : tu ≤ last
        · go_wp2_with fail
          go_loopw [7, 9] (fun lv yv wr => ∃ (j : Nat) (sv9 : Value), sv9 = lv ∧ yv = .int .i64 (fr + j) ∧ j ≤ (min tu last + 1 - fr).toNat ∧ Hid (RowO w.heap.size wr sv9 (onG NM last L k ++ onY k ⟨NM, fr, tu, mo, kk, vv, dd, nn, cc, sv, lt⟩ j)) ∧ Hid (HwS w b (off + k * 11) [.string ⟨NM.toArray⟩, .int .i64 fr, .int .i64 tu, .int .i64 mo, .int .i64 kk, .int .i64 vv, .int .i64 dd, .int .i64 nn, .int .i64 cc, .int .i64 sv, .string ⟨lt.toArray⟩] wr)) (fun _ y _ => (10001 - intOf y).toNat)
          case atStart => exact ⟨0, _, rfl, by simp, Nat.zero_le _, Lib.hid (by rw [show onY (k : Int) ⟨NM, fr, tu, mo, kk, vv, dd, nn, cc, sv, lt⟩ 0 = [] from rfl, List.append_nil]; exact HR.out), S0⟩
          case round =>
            obtain ⟨j, sv9, rfl, rfl, hj, HRI, HS⟩ := hrel
            obtain ⟨wi, rfl⟩ : ∃ wi : World, wi = wr := ⟨_, rfl⟩
            clear c0 c1 c2' S0 HR
            have c2' := HS.out.r 2 _ rfl
            obtain ⟨A8, c8, hf8⟩ := RowT.forms HRI.out
            obtain ⟨M, hM⟩ : ∃ M, (onG NM last L k ++ onY k ⟨NM, fr, tu, mo, kk, vv, dd, nn, cc, sv, lt⟩ j).length = M := ⟨_, rfl⟩
            rw [hM] at hf8
            subst hf8
            have HM := Lib.hid hM
            have hM8 : M ≤ 100000000 := by
              have q1 := HGL.out
              have q2 := onY_len k ⟨NM, fr, tu, mo, kk, vv, dd, nn, cc, sv, lt⟩ j
              rw [← hM, List.length_append]; omega
            clear hM
            by_cases hl2 : fr + (j : Int) ≤ min tu last
            · obtain ⟨y, hy⟩ : ∃ y, fr + (j : Int) = y := ⟨_, rfl⟩
              rw [hy] at hl2 ⊢
              have HY2 := Lib.hid hy
              have y1 : 1 ≤ y := by omega
              have y9 : y ≤ 9999 := by omega
              clear hy
              obtain ⟨D, hD⟩ : ∃ D, Wk.rsV y mo kk vv dd = D := ⟨_, rfl⟩
              obtain ⟨ok, hok⟩ : ∃ ok, decide (Wk.resE y mo kk vv dd = 0) = ok := ⟨_, rfl⟩
              have HD := Lib.hid (And.intro hD hok)
              have HDV : Hid (ok = true → Wk.resE y mo kk vv dd = 0 ∧ Wk.resV y mo kk vv dd = D ∧ -800000 ≤ D ∧ D ≤ 3000000) := Lib.hid (fun q => by
                have e0 : Wk.resE y mo kk vv dd = 0 := of_decide_eq_true (hok.trans q)
                have e : Wk.resE y mo kk vv dd = Civ.numE y mo (Wk.rday y mo kk dd) := by rw [Wk.resE, if_pos ON.out, if_pos ⟨y1, y9⟩]
                have e1 : Wk.resV y mo kk vv dd = D := by rw [← hD, Wk.rsV, if_pos (by rw [← e]; exact e0)]
                have := res_bd y mo kk vv dd
                exact ⟨e0, e1, by omega, by omega⟩)
              have HJB : Hid (j + 1 ≤ (min tu last + 1 - fr).toNat) := Lib.hid (by have := HY2.out; omega)
              have HYB : Hid (1 ≤ y ∧ y ≤ 9999) := Lib.hid ⟨y1, y9⟩
              clear hD hok
              go_upto_region 9 with fail
              clear c2'
              refine Hr.Walk.region (R := fun _ x => HwS w b (off + k * 11) [.string ⟨NM.toArray⟩, .int .i64 fr, .int .i64 tu, .int .i64 mo, .int .i64 kk, .int .i64 vv, .int .i64 dd, .int .i64 nn, .int .i64 cc, .int .i64 sv, .string ⟨lt.toArray⟩] x) (by kernel_rfl) ?_
              obtain ⟨w1, hw1⟩ : ∃ z, wi.drew = z := ⟨_, rfl⟩
              have S1 : Hid (HwS w b (off + k * 11) [.string ⟨NM.toArray⟩, .int .i64 fr, .int .i64 tu, .int .i64 mo, .int .i64 kk, .int .i64 vv, .int .i64 dd, .int .i64 nn, .int .i64 cc, .int .i64 sv, .string ⟨lt.toArray⟩] w1) := Lib.hid (by rw [← hw1]; exact HS.out.drew)
              have RB1 : Hid (RowO w.heap.size w1 (.slice A8 M c8) (onG NM last L k ++ onY k ⟨NM, fr, tu, mo, kk, vv, dd, nn, cc, sv, lt⟩ j)) := Lib.hid (by rw [← hw1]; exact HRI.out.below (below_drewN (Below.refl _ _) 1))
              rw [hw1]
              clear hw1 HS HRI
              refine Hr.Walk.take (i := 0) (v := ?vp0) (fun x => HwS w b (off + k * 11) [.string ⟨NM.toArray⟩, .int .i64 fr, .int .i64 tu, .int .i64 mo, .int .i64 kk, .int .i64 vv, .int .i64 dd, .int .i64 nn, .int .i64 cc, .int .i64 sv, .string ⟨lt.toArray⟩] x) (fun _ => True) rfl (by kernel_rfl) (by kernel_rfl) (by kernel_rfl) (fun _ _ _ h => h) (fun _ _ _ _ _ _ => trivial) (fun _ _ _ h => h) (fun _ _ h => h) trivial (Or.inl ⟨by rfl, ?hyp0⟩) S1.out S1.out ?restp0
              case hyp0 => intro x hx; have e3 := hx.r 3 _ rfl; have e4 := hx.r 4 _ rfl; have e5 := hx.r 5 _ rfl; have e6 := hx.r 6 _ rfl; clear hx; go_simp; try with_reducible rfl
              (try go_simp)
              refine Hr.Walk.take (i := 1) (v := ?vp1) (fun x => HwS w b (off + k * 11) [.string ⟨NM.toArray⟩, .int .i64 fr, .int .i64 tu, .int .i64 mo, .int .i64 kk, .int .i64 vv, .int .i64 dd, .int .i64 nn, .int .i64 cc, .int .i64 sv, .string ⟨lt.toArray⟩] x) (fun _ => True) rfl (by kernel_rfl) (by kernel_rfl) (by kernel_rfl) (fun _ _ _ h => h) (fun _ _ _ _ _ _ => trivial) (fun _ _ _ h => h) (fun _ _ h => h) trivial (Or.inl ⟨by rfl, ?hyp1⟩) S1.out S1.out ?restp1
              case hyp1 => intro x hx; have e3 := hx.r 3 _ rfl; have e4 := hx.r 4 _ rfl; have e5 := hx.r 5 _ rfl; have e6 := hx.r 6 _ rfl; clear hx; go_simp; try with_reducible rfl
              (try go_simp)
              refine Hr.Walk.take (i := 2) (v := ?vp2) (fun x => HwS w b (off + k * 11) [.string ⟨NM.toArray⟩, .int .i64 fr, .int .i64 tu, .int .i64 mo, .int .i64 kk, .int .i64 vv, .int .i64 dd, .int .i64 nn, .int .i64 cc, .int .i64 sv, .string ⟨lt.toArray⟩] x) (fun _ => True) rfl (by kernel_rfl) (by kernel_rfl) (by kernel_rfl) (fun _ _ _ h => h) (fun _ _ _ _ _ _ => trivial) (fun _ _ _ h => h) (fun _ _ h => h) trivial (Or.inl ⟨by rfl, ?hyp2⟩) S1.out S1.out ?restp2
              case hyp2 => intro x hx; have e3 := hx.r 3 _ rfl; have e4 := hx.r 4 _ rfl; have e5 := hx.r 5 _ rfl; have e6 := hx.r 6 _ rfl; clear hx; go_simp; try with_reducible rfl
              (try go_simp)
              refine Hr.Walk.take (i := 3) (v := ?vp3) (fun x => HwS w b (off + k * 11) [.string ⟨NM.toArray⟩, .int .i64 fr, .int .i64 tu, .int .i64 mo, .int .i64 kk, .int .i64 vv, .int .i64 dd, .int .i64 nn, .int .i64 cc, .int .i64 sv, .string ⟨lt.toArray⟩] x) (fun _ => True) rfl (by kernel_rfl) (by kernel_rfl) (by kernel_rfl) (fun _ _ _ h => h) (fun _ _ _ _ _ _ => trivial) (fun _ _ _ h => h) (fun _ _ h => h) trivial (Or.inl ⟨by rfl, ?hyp3⟩) S1.out S1.out ?restp3
              case hyp3 => intro x hx; have e3 := hx.r 3 _ rfl; have e4 := hx.r 4 _ rfl; have e5 := hx.r 5 _ rfl; have e6 := hx.r 6 _ rfl; clear hx; go_simp; try with_reducible rfl
              (try go_simp)
              refine Hr.Walk.take (i := 4) (v := ?vp4) (fun x => HwS w b (off + k * 11) [.string ⟨NM.toArray⟩, .int .i64 fr, .int .i64 tu, .int .i64 mo, .int .i64 kk, .int .i64 vv, .int .i64 dd, .int .i64 nn, .int .i64 cc, .int .i64 sv, .string ⟨lt.toArray⟩] x) (fun _ => True) rfl (by kernel_rfl) (by kernel_rfl) (by kernel_rfl) (fun _ _ _ h => h) (fun _ _ _ _ _ _ => trivial) (fun _ _ _ h => h) (fun _ _ h => h) trivial (Or.inl ⟨by rfl, ?hyp4⟩) S1.out S1.out ?restp4
              case hyp4 => intro x hx; have e3 := hx.r 3 _ rfl; have e4 := hx.r 4 _ rfl; have e5 := hx.r 5 _ rfl; have e6 := hx.r 6 _ rfl; clear hx; go_simp; try with_reducible rfl
              (try go_simp)
              refine Hr.Walk.take (i := 5) (v := ?vp5) (fun x => HwS w b (off + k * 11) [.string ⟨NM.toArray⟩, .int .i64 fr, .int .i64 tu, .int .i64 mo, .int .i64 kk, .int .i64 vv, .int .i64 dd, .int .i64 nn, .int .i64 cc, .int .i64 sv, .string ⟨lt.toArray⟩] x) (fun _ => True) rfl (by kernel_rfl) (by kernel_rfl) (by kernel_rfl) (fun _ _ _ h => h) (fun _ _ _ _ _ _ => trivial) (fun _ _ _ h => h) (fun _ _ h => h) trivial (Or.inl ⟨by rfl, ?hyp5⟩) S1.out S1.out ?restp5
              case hyp5 => intro x hx; have e3 := hx.r 3 _ rfl; have e4 := hx.r 4 _ rfl; have e5 := hx.r 5 _ rfl; have e6 := hx.r 6 _ rfl; clear hx; go_simp; try with_reducible rfl
              (try go_simp)
              refine Hr.Walk.take (i := 6) (v := ?vp6) (fun x => HwS w b (off + k * 11) [.string ⟨NM.toArray⟩, .int .i64 fr, .int .i64 tu, .int .i64 mo, .int .i64 kk, .int .i64 vv, .int .i64 dd, .int .i64 nn, .int .i64 cc, .int .i64 sv, .string ⟨lt.toArray⟩] x) (fun _ => True) rfl (by kernel_rfl) (by kernel_rfl) (by kernel_rfl) (fun _ _ _ h => h) (fun _ _ _ _ _ _ => trivial) (fun _ _ _ h => h) (fun _ _ h => h) trivial (Or.inl ⟨by rfl, ?hyp6⟩) S1.out S1.out ?restp6
              case hyp6 => intro x hx; have e3 := hx.r 3 _ rfl; have e4 := hx.r 4 _ rfl; have e5 := hx.r 5 _ rfl; have e6 := hx.r 6 _ rfl; clear hx; go_simp; try with_reducible rfl
              (try go_simp)
              refine Hr.Walk.one (i := 7) (by kernel_rfl) rfl (fun K hK => ?_)
              have hx := S1.out; have e3 := hx.r 3 _ rfl; have e4 := hx.r 4 _ rfl; have e5 := hx.r 5 _ rfl; have e6 := hx.r 6 _ rfl; clear hx
              go_simp
              refine hK.out _ _ S1.out ?_
              clear hK K
              refine Hr.Walk.one (i := 8) (by kernel_rfl) rfl (fun K hK => ?_)
              have hx := S1.out; have e3 := hx.r 3 _ rfl; have e4 := hx.r 4 _ rfl; have e5 := hx.r 5 _ rfl; have e6 := hx.r 6 _ rfl; clear hx
              go_simp
              refine hK.out _ _ S1.out ?_
              clear hK K
              refine Hr.Walk.one (i := 9) (by kernel_rfl) rfl (fun K hK => ?_)
              have hx := S1.out; have e3 := hx.r 3 _ rfl; have e4 := hx.r 4 _ rfl; have e5 := hx.r 5 _ rfl; have e6 := hx.r 6 _ rfl; clear hx
              go_simp
              refine hK.out _ _ S1.out ?_
              clear hK K
              refine Hr.Walk.one (i := 10) (by kernel_rfl) rfl (fun K hK => ?_)
              have hx := S1.out; have e3 := hx.r 3 _ rfl; have e4 := hx.r 4 _ rfl; have e5 := hx.r 5 _ rfl; have e6 := hx.r 6 _ rfl; clear hx
              go_simp
              refine hK.out _ _ S1.out ?_
              clear hK K
              refine Hr.Walk.one (i := 11) (by kernel_rfl) rfl (fun K hK => ?_)
              go_simp
              refine (rres_to y mo kk vv dd D ok _ ON.out y1 y9 HD).mono ?_
              rintro e w5 ⟨rfl, k5⟩
              have S2 := Lib.hid (S1.out.below k5)
              have RB2 := Lib.hid (RB1.out.below k5)
              clear k5
              go_simp
              refine hK.out _ _ S2.out ?_
              clear hK K
              refine Hr.Walk.one (i := 12) (by kernel_rfl) rfl (fun K hK => ?_)
              skip
              go_simp
              refine hK.out _ _ S2.out ?_
              clear hK K
              refine Hr.Walk.take (i := 13) (v := ?vp13) (fun x => HwS w b (off + k * 11) [.string ⟨NM.toArray⟩, .int .i64 fr, .int .i64 tu, .int .i64 mo, .int .i64 kk, .int .i64 vv, .int .i64 dd, .int .i64 nn, .int .i64 cc, .int .i64 sv, .string ⟨lt.toArray⟩] x) (fun _ => True) rfl (by kernel_rfl) (by kernel_rfl) (by kernel_rfl) (fun _ _ _ h => h) (fun _ _ _ _ _ _ => trivial) (fun _ _ _ h => h) (fun _ _ h => h) trivial (Or.inl ⟨by rfl, ?hyp13⟩) S2.out S2.out ?restp13
              case hyp13 => intro x hx; have e3 := hx.r 3 _ rfl; have e4 := hx.r 4 _ rfl; have e5 := hx.r 5 _ rfl; have e6 := hx.r 6 _ rfl; clear hx; go_simp; try with_reducible rfl
              (try go_simp)
              refine Hr.Walk.take (i := 14) (v := ?vp14) (fun x => HwS w b (off + k * 11) [.string ⟨NM.toArray⟩, .int .i64 fr, .int .i64 tu, .int .i64 mo, .int .i64 kk, .int .i64 vv, .int .i64 dd, .int .i64 nn, .int .i64 cc, .int .i64 sv, .string ⟨lt.toArray⟩] x) (fun _ => True) rfl (by kernel_rfl) (by kernel_rfl) (by kernel_rfl) (fun _ _ _ h => h) (fun _ _ _ _ _ _ => trivial) (fun _ _ _ h => h) (fun _ _ h => h) trivial (Or.inl ⟨by rfl, ?hyp14⟩) S2.out S2.out ?restp14
              case hyp14 => intro x hx; have e3 := hx.r 3 _ rfl; have e4 := hx.r 4 _ rfl; have e5 := hx.r 5 _ rfl; have e6 := hx.r 6 _ rfl; clear hx; go_simp; try with_reducible rfl
              (try go_simp)
              refine Hr.Walk.one (i := 15) (by kernel_rfl) rfl (fun K hK => ?_)
              skip
              go_simp
              refine hK.out _ _ S2.out ?_
              clear hK K
              refine Hr.Walk.one (i := 16) (by kernel_rfl) rfl (fun K hK => ?_)
              skip
              go_simp
              refine hK.out _ _ S2.out ?_
              clear hK K
              refine Hr.Walk.done (by kernel_rfl) ?_ _
              clear hj hl2 hle f1 f2 f3
              cases ok with
              | true =>
                obtain ⟨E0, EV, d1, d2⟩ := HDV.out rfl
                have HST : Hid (onY k ⟨NM, fr, tu, mo, kk, vv, dd, nn, cc, sv, lt⟩ (j + 1) = onY k ⟨NM, fr, tu, mo, kk, vv, dd, nn, cc, sv, lt⟩ j ++ [((k : Int), y, D * 86400 + nn)]) := Lib.hid (by
                  rw [onY_succ, onO]
                  show _ ++ (if Wk.resE (fr + j) mo kk vv dd = 0 then _ else _) = _
                  rw [HY2.out, if_pos E0]
                  show _ ++ [((k : Int), y, Wk.resV y mo kk vv dd * 86400 + nn)] = _
                  rw [EV])
                have wm1 : IntKind.i64.wrap (D * 86400) = D * 86400 := by rw [IntKind.wrap_i64]; omega
                have wm2 : IntKind.i64.wrap (D * 86400 + nn) = D * 86400 + nn := by rw [IntKind.wrap_i64]; omega
                have c7 := S2.out.r 7 _ rfl
                have hsz := S2.out.g.size
                clear E0 EV
                go_wp2_with (at_builtin; refine appO rfl _ _ rfl w.heap.size _ (onG NM last L k ++ onY k ⟨NM, fr, tu, mo, kk, vv, dd, nn, cc, sv, lt⟩ j) M HM.out rfl RB2.out k y (D * 86400 + nn) rfl hM8 hsz ?_)
                intro wn gg gcap r5 g5 k5
                have S5 : Hid (HwS w b (off + k * 11) [.string ⟨NM.toArray⟩, .int .i64 fr, .int .i64 tu, .int .i64 mo, .int .i64 kk, .int .i64 vv, .int .i64 dd, .int .i64 nn, .int .i64 cc, .int .i64 sv, .string ⟨lt.toArray⟩] wn) := Lib.hid ⟨fun i u hu => (g5.cell (p := ⟨b, off + k * 11 + i, none⟩) S2.out.l (fun q => by have h8 : w.heap.size ≤ b := (World.ownsRow.lt RB2.out _ q.symm).1; have := hb0.out; omega)).trans (S2.out.r i u hu), Nat.lt_of_lt_of_le S2.out.l g5.size, g5.below w.heap.size w (Nat.le_refl _) S2.out.g hsz⟩
                have R5 : Hid (RowO w.heap.size wn _ (onG NM last L k ++ onY k ⟨NM, fr, tu, mo, kk, vv, dd, nn, cc, sv, lt⟩ (j + 1))) := Lib.hid (by rw [HST.out]; exact r5)
                clear r5 g5 k5 hsz c7 wm1 wm2 d1 d2
                go_wp2
                go_roundw
                case rel => exact ⟨j + 1, _, rfl, by have := HY2.out; go_num, HJB.out, R5, S5⟩
                case measure => simp [intOf]; have := HYB.out; have := HY2.out; omega
              | false =>
                have HST : Hid (onY k ⟨NM, fr, tu, mo, kk, vv, dd, nn, cc, sv, lt⟩ (j + 1) = onY k ⟨NM, fr, tu, mo, kk, vv, dd, nn, cc, sv, lt⟩ j) := Lib.hid (by
                  rw [onY_succ, onO]
                  show _ ++ (if Wk.resE (fr + j) mo kk vv dd = 0 then _ else _) = _
                  rw [HY2.out, if_neg (of_decide_eq_false HD.out.2), List.append_nil])
                have R5 : Hid (RowO w.heap.size w5 (.slice A8 M c8) (onG NM last L k ++ onY k ⟨NM, fr, tu, mo, kk, vv, dd, nn, cc, sv, lt⟩ (j + 1))) := Lib.hid (by rw [HST.out]; exact RB2.out)
                go_wp2
                go_roundw
                case rel => exact ⟨j + 1, _, rfl, by have := HY2.out; go_num, HJB.out, R5, S2⟩
                case measure => simp [intOf]; have := HYB.out; have := HY2.out; omega
            · have hje : j = (min tu last + 1 - fr).toNat := by omega
              have HGX : Hid (RowO w.heap.size wi (.slice A8 M c8) (onG NM last L (k + 1))) := Lib.hid (by rw [HY.out, YN.out, ← hje]; exact HRI.out)
              have HBX := Lib.hid HS.out.g
              clear hje
              go_wp2
              go_roundw
              case rel => exact ⟨k + 1, _, by omega, rfl, by go_num, HGX, HBX⟩
              case measure => simp [intOf]; omega
        · go_wp2_with fail
          go_loopw [7, 9] (fun lv yv wr => ∃ (j : Nat) (sv9 : Value), sv9 = lv ∧ yv = .int .i64 (fr + j) ∧ j ≤ (min tu last + 1 - fr).toNat ∧ Hid (RowO w.heap.size wr sv9 (onG NM last L k ++ onY k ⟨NM, fr, tu, mo, kk, vv, dd, nn, cc, sv, lt⟩ j)) ∧ Hid (HwS w b (off + k * 11) [.string ⟨NM.toArray⟩, .int .i64 fr, .int .i64 tu, .int .i64 mo, .int .i64 kk, .int .i64 vv, .int .i64 dd, .int .i64 nn, .int .i64 cc, .int .i64 sv, .string ⟨lt.toArray⟩] wr)) (fun _ y _ => (10001 - intOf y).toNat)
          case atStart => exact ⟨0, _, rfl, by simp, Nat.zero_le _, Lib.hid (by rw [show onY (k : Int) ⟨NM, fr, tu, mo, kk, vv, dd, nn, cc, sv, lt⟩ 0 = [] from rfl, List.append_nil]; exact HR.out), S0⟩
          case round =>
            obtain ⟨j, sv9, rfl, rfl, hj, HRI, HS⟩ := hrel
            obtain ⟨wi, rfl⟩ : ∃ wi : World, wi = wr := ⟨_, rfl⟩
            clear c0 c1 c2' S0 HR
            have c2' := HS.out.r 2 _ rfl
            obtain ⟨A8, c8, hf8⟩ := RowT.forms HRI.out
            obtain ⟨M, hM⟩ : ∃ M, (onG NM last L k ++ onY k ⟨NM, fr, tu, mo, kk, vv, dd, nn, cc, sv, lt⟩ j).length = M := ⟨_, rfl⟩
            rw [hM] at hf8
            subst hf8
            have HM := Lib.hid hM
            have hM8 : M ≤ 100000000 := by
              have q1 := HGL.out
              have q2 := onY_len k ⟨NM, fr, tu, mo, kk, vv, dd, nn, cc, sv, lt⟩ j
              rw [← hM, List.length_append]; omega
            clear hM
            by_cases hl2 : fr + (j : Int) ≤ min tu last
            · obtain ⟨y, hy⟩ : ∃ y, fr + (j : Int) = y := ⟨_, rfl⟩
              rw [hy] at hl2 ⊢
              have HY2 := Lib.hid hy
              have y1 : 1 ≤ y := by omega
              have y9 : y ≤ 9999 := by omega
              clear hy
              obtain ⟨D, hD⟩ : ∃ D, Wk.rsV y mo kk vv dd = D := ⟨_, rfl⟩
              obtain ⟨ok, hok⟩ : ∃ ok, decide (Wk.resE y mo kk vv dd = 0) = ok := ⟨_, rfl⟩
              have HD := Lib.hid (And.intro hD hok)
              have HDV : Hid (ok = true → Wk.resE y mo kk vv dd = 0 ∧ Wk.resV y mo kk vv dd = D ∧ -800000 ≤ D ∧ D ≤ 3000000) := Lib.hid (fun q => by
                have e0 : Wk.resE y mo kk vv dd = 0 := of_decide_eq_true (hok.trans q)
                have e : Wk.resE y mo kk vv dd = Civ.numE y mo (Wk.rday y mo kk dd) := by rw [Wk.resE, if_pos ON.out, if_pos ⟨y1, y9⟩]
                have e1 : Wk.resV y mo kk vv dd = D := by rw [← hD, Wk.rsV, if_pos (by rw [← e]; exact e0)]
                have := res_bd y mo kk vv dd
                exact ⟨e0, e1, by omega, by omega⟩)
              have HJB : Hid (j + 1 ≤ (min tu last + 1 - fr).toNat) := Lib.hid (by have := HY2.out; omega)
              have HYB : Hid (1 ≤ y ∧ y ≤ 9999) := Lib.hid ⟨y1, y9⟩
              clear hD hok
              go_upto_region 9 with fail
              clear c2'
              refine Hr.Walk.region (R := fun _ x => HwS w b (off + k * 11) [.string ⟨NM.toArray⟩, .int .i64 fr, .int .i64 tu, .int .i64 mo, .int .i64 kk, .int .i64 vv, .int .i64 dd, .int .i64 nn, .int .i64 cc, .int .i64 sv, .string ⟨lt.toArray⟩] x) (by kernel_rfl) ?_
              obtain ⟨w1, hw1⟩ : ∃ z, wi.drew = z := ⟨_, rfl⟩
              have S1 : Hid (HwS w b (off + k * 11) [.string ⟨NM.toArray⟩, .int .i64 fr, .int .i64 tu, .int .i64 mo, .int .i64 kk, .int .i64 vv, .int .i64 dd, .int .i64 nn, .int .i64 cc, .int .i64 sv, .string ⟨lt.toArray⟩] w1) := Lib.hid (by rw [← hw1]; exact HS.out.drew)
              have RB1 : Hid (RowO w.heap.size w1 (.slice A8 M c8) (onG NM last L k ++ onY k ⟨NM, fr, tu, mo, kk, vv, dd, nn, cc, sv, lt⟩ j)) := Lib.hid (by rw [← hw1]; exact HRI.out.below (below_drewN (Below.refl _ _) 1))
              rw [hw1]
              clear hw1 HS HRI
              refine Hr.Walk.take (i := 0) (v := ?vq0) (fun x => HwS w b (off + k * 11) [.string ⟨NM.toArray⟩, .int .i64 fr, .int .i64 tu, .int .i64 mo, .int .i64 kk, .int .i64 vv, .int .i64 dd, .int .i64 nn, .int .i64 cc, .int .i64 sv, .string ⟨lt.toArray⟩] x) (fun _ => True) rfl (by kernel_rfl) (by kernel_rfl) (by kernel_rfl) (fun _ _ _ h => h) (fun _ _ _ _ _ _ => trivial) (fun _ _ _ h => h) (fun _ _ h => h) trivial (Or.inl ⟨by rfl, ?hyq0⟩) S1.out S1.out ?restq0
              case hyq0 => intro x hx; have e3 := hx.r 3 _ rfl; have e4 := hx.r 4 _ rfl; have e5 := hx.r 5 _ rfl; have e6 := hx.r 6 _ rfl; clear hx; go_simp; try with_reducible rfl
              (try go_simp)
              refine Hr.Walk.take (i := 1) (v := ?vq1) (fun x => HwS w b (off + k * 11) [.string ⟨NM.toArray⟩, .int .i64 fr, .int .i64 tu, .int .i64 mo, .int .i64 kk, .int .i64 vv, .int .i64 dd, .int .i64 nn, .int .i64 cc, .int .i64 sv, .string ⟨lt.toArray⟩] x) (fun _ => True) rfl (by kernel_rfl) (by kernel_rfl) (by kernel_rfl) (fun _ _ _ h => h) (fun _ _ _ _ _ _ => trivial) (fun _ _ _ h => h) (fun _ _ h => h) trivial (Or.inl ⟨by rfl, ?hyq1⟩) S1.out S1.out ?restq1
              case hyq1 => intro x hx; have e3 := hx.r 3 _ rfl; have e4 := hx.r 4 _ rfl; have e5 := hx.r 5 _ rfl; have e6 := hx.r 6 _ rfl; clear hx; go_simp; try with_reducible rfl
              (try go_simp)
              refine Hr.Walk.take (i := 2) (v := ?vq2) (fun x => HwS w b (off + k * 11) [.string ⟨NM.toArray⟩, .int .i64 fr, .int .i64 tu, .int .i64 mo, .int .i64 kk, .int .i64 vv, .int .i64 dd, .int .i64 nn, .int .i64 cc, .int .i64 sv, .string ⟨lt.toArray⟩] x) (fun _ => True) rfl (by kernel_rfl) (by kernel_rfl) (by kernel_rfl) (fun _ _ _ h => h) (fun _ _ _ _ _ _ => trivial) (fun _ _ _ h => h) (fun _ _ h => h) trivial (Or.inl ⟨by rfl, ?hyq2⟩) S1.out S1.out ?restq2
              case hyq2 => intro x hx; have e3 := hx.r 3 _ rfl; have e4 := hx.r 4 _ rfl; have e5 := hx.r 5 _ rfl; have e6 := hx.r 6 _ rfl; clear hx; go_simp; try with_reducible rfl
              (try go_simp)
              refine Hr.Walk.take (i := 3) (v := ?vq3) (fun x => HwS w b (off + k * 11) [.string ⟨NM.toArray⟩, .int .i64 fr, .int .i64 tu, .int .i64 mo, .int .i64 kk, .int .i64 vv, .int .i64 dd, .int .i64 nn, .int .i64 cc, .int .i64 sv, .string ⟨lt.toArray⟩] x) (fun _ => True) rfl (by kernel_rfl) (by kernel_rfl) (by kernel_rfl) (fun _ _ _ h => h) (fun _ _ _ _ _ _ => trivial) (fun _ _ _ h => h) (fun _ _ h => h) trivial (Or.inl ⟨by rfl, ?hyq3⟩) S1.out S1.out ?restq3
              case hyq3 => intro x hx; have e3 := hx.r 3 _ rfl; have e4 := hx.r 4 _ rfl; have e5 := hx.r 5 _ rfl; have e6 := hx.r 6 _ rfl; clear hx; go_simp; try with_reducible rfl
              (try go_simp)
              refine Hr.Walk.take (i := 4) (v := ?vq4) (fun x => HwS w b (off + k * 11) [.string ⟨NM.toArray⟩, .int .i64 fr, .int .i64 tu, .int .i64 mo, .int .i64 kk, .int .i64 vv, .int .i64 dd, .int .i64 nn, .int .i64 cc, .int .i64 sv, .string ⟨lt.toArray⟩] x) (fun _ => True) rfl (by kernel_rfl) (by kernel_rfl) (by kernel_rfl) (fun _ _ _ h => h) (fun _ _ _ _ _ _ => trivial) (fun _ _ _ h => h) (fun _ _ h => h) trivial (Or.inl ⟨by rfl, ?hyq4⟩) S1.out S1.out ?restq4
              case hyq4 => intro x hx; have e3 := hx.r 3 _ rfl; have e4 := hx.r 4 _ rfl; have e5 := hx.r 5 _ rfl; have e6 := hx.r 6 _ rfl; clear hx; go_simp; try with_reducible rfl
              (try go_simp)
              refine Hr.Walk.take (i := 5) (v := ?vq5) (fun x => HwS w b (off + k * 11) [.string ⟨NM.toArray⟩, .int .i64 fr, .int .i64 tu, .int .i64 mo, .int .i64 kk, .int .i64 vv, .int .i64 dd, .int .i64 nn, .int .i64 cc, .int .i64 sv, .string ⟨lt.toArray⟩] x) (fun _ => True) rfl (by kernel_rfl) (by kernel_rfl) (by kernel_rfl) (fun _ _ _ h => h) (fun _ _ _ _ _ _ => trivial) (fun _ _ _ h => h) (fun _ _ h => h) trivial (Or.inl ⟨by rfl, ?hyq5⟩) S1.out S1.out ?restq5
              case hyq5 => intro x hx; have e3 := hx.r 3 _ rfl; have e4 := hx.r 4 _ rfl; have e5 := hx.r 5 _ rfl; have e6 := hx.r 6 _ rfl; clear hx; go_simp; try with_reducible rfl
              (try go_simp)
              refine Hr.Walk.take (i := 6) (v := ?vq6) (fun x => HwS w b (off + k * 11) [.string ⟨NM.toArray⟩, .int .i64 fr, .int .i64 tu, .int .i64 mo, .int .i64 kk, .int .i64 vv, .int .i64 dd, .int .i64 nn, .int .i64 cc, .int .i64 sv, .string ⟨lt.toArray⟩] x) (fun _ => True) rfl (by kernel_rfl) (by kernel_rfl) (by kernel_rfl) (fun _ _ _ h => h) (fun _ _ _ _ _ _ => trivial) (fun _ _ _ h => h) (fun _ _ h => h) trivial (Or.inl ⟨by rfl, ?hyq6⟩) S1.out S1.out ?restq6
              case hyq6 => intro x hx; have e3 := hx.r 3 _ rfl; have e4 := hx.r 4 _ rfl; have e5 := hx.r 5 _ rfl; have e6 := hx.r 6 _ rfl; clear hx; go_simp; try with_reducible rfl
              (try go_simp)
              refine Hr.Walk.one (i := 7) (by kernel_rfl) rfl (fun K hK => ?_)
              have hx := S1.out; have e3 := hx.r 3 _ rfl; have e4 := hx.r 4 _ rfl; have e5 := hx.r 5 _ rfl; have e6 := hx.r 6 _ rfl; clear hx
              go_simp
              refine hK.out _ _ S1.out ?_
              clear hK K
              refine Hr.Walk.one (i := 8) (by kernel_rfl) rfl (fun K hK => ?_)
              have hx := S1.out; have e3 := hx.r 3 _ rfl; have e4 := hx.r 4 _ rfl; have e5 := hx.r 5 _ rfl; have e6 := hx.r 6 _ rfl; clear hx
              go_simp
              refine hK.out _ _ S1.out ?_
              clear hK K
              refine Hr.Walk.one (i := 9) (by kernel_rfl) rfl (fun K hK => ?_)
              have hx := S1.out; have e3 := hx.r 3 _ rfl; have e4 := hx.r 4 _ rfl; have e5 := hx.r 5 _ rfl; have e6 := hx.r 6 _ rfl; clear hx
              go_simp
              refine hK.out _ _ S1.out ?_
              clear hK K
              refine Hr.Walk.one (i := 10) (by kernel_rfl) rfl (fun K hK => ?_)
              have hx := S1.out; have e3 := hx.r 3 _ rfl; have e4 := hx.r 4 _ rfl; have e5 := hx.r 5 _ rfl; have e6 := hx.r 6 _ rfl; clear hx
              go_simp
              refine hK.out _ _ S1.out ?_
              clear hK K
              refine Hr.Walk.one (i := 11) (by kernel_rfl) rfl (fun K hK => ?_)
              go_simp
              refine (rres_to y mo kk vv dd D ok _ ON.out y1 y9 HD).mono ?_
              rintro e w5 ⟨rfl, k5⟩
              have S2 := Lib.hid (S1.out.below k5)
              have RB2 := Lib.hid (RB1.out.below k5)
              clear k5
              go_simp
              refine hK.out _ _ S2.out ?_
              clear hK K
              refine Hr.Walk.one (i := 12) (by kernel_rfl) rfl (fun K hK => ?_)
              skip
              go_simp
              refine hK.out _ _ S2.out ?_
              clear hK K
              refine Hr.Walk.take (i := 13) (v := ?vq13) (fun x => HwS w b (off + k * 11) [.string ⟨NM.toArray⟩, .int .i64 fr, .int .i64 tu, .int .i64 mo, .int .i64 kk, .int .i64 vv, .int .i64 dd, .int .i64 nn, .int .i64 cc, .int .i64 sv, .string ⟨lt.toArray⟩] x) (fun _ => True) rfl (by kernel_rfl) (by kernel_rfl) (by kernel_rfl) (fun _ _ _ h => h) (fun _ _ _ _ _ _ => trivial) (fun _ _ _ h => h) (fun _ _ h => h) trivial (Or.inl ⟨by rfl, ?hyq13⟩) S2.out S2.out ?restq13
              case hyq13 => intro x hx; have e3 := hx.r 3 _ rfl; have e4 := hx.r 4 _ rfl; have e5 := hx.r 5 _ rfl; have e6 := hx.r 6 _ rfl; clear hx; go_simp; try with_reducible rfl
              (try go_simp)
              refine Hr.Walk.take (i := 14) (v := ?vq14) (fun x => HwS w b (off + k * 11) [.string ⟨NM.toArray⟩, .int .i64 fr, .int .i64 tu, .int .i64 mo, .int .i64 kk, .int .i64 vv, .int .i64 dd, .int .i64 nn, .int .i64 cc, .int .i64 sv, .string ⟨lt.toArray⟩] x) (fun _ => True) rfl (by kernel_rfl) (by kernel_rfl) (by kernel_rfl) (fun _ _ _ h => h) (fun _ _ _ _ _ _ => trivial) (fun _ _ _ h => h) (fun _ _ h => h) trivial (Or.inl ⟨by rfl, ?hyq14⟩) S2.out S2.out ?restq14
              case hyq14 => intro x hx; have e3 := hx.r 3 _ rfl; have e4 := hx.r 4 _ rfl; have e5 := hx.r 5 _ rfl; have e6 := hx.r 6 _ rfl; clear hx; go_simp; try with_reducible rfl
              (try go_simp)
              refine Hr.Walk.one (i := 15) (by kernel_rfl) rfl (fun K hK => ?_)
              skip
              go_simp
              refine hK.out _ _ S2.out ?_
              clear hK K
              refine Hr.Walk.one (i := 16) (by kernel_rfl) rfl (fun K hK => ?_)
              skip
              go_simp
              refine hK.out _ _ S2.out ?_
              clear hK K
              refine Hr.Walk.done (by kernel_rfl) ?_ _
              clear hj hl2 hle f1 f2 f3
              cases ok with
              | true =>
                obtain ⟨E0, EV, d1, d2⟩ := HDV.out rfl
                have HST : Hid (onY k ⟨NM, fr, tu, mo, kk, vv, dd, nn, cc, sv, lt⟩ (j + 1) = onY k ⟨NM, fr, tu, mo, kk, vv, dd, nn, cc, sv, lt⟩ j ++ [((k : Int), y, D * 86400 + nn)]) := Lib.hid (by
                  rw [onY_succ, onO]
                  show _ ++ (if Wk.resE (fr + j) mo kk vv dd = 0 then _ else _) = _
                  rw [HY2.out, if_pos E0]
                  show _ ++ [((k : Int), y, Wk.resV y mo kk vv dd * 86400 + nn)] = _
                  rw [EV])
                have wm1 : IntKind.i64.wrap (D * 86400) = D * 86400 := by rw [IntKind.wrap_i64]; omega
                have wm2 : IntKind.i64.wrap (D * 86400 + nn) = D * 86400 + nn := by rw [IntKind.wrap_i64]; omega
                have c7 := S2.out.r 7 _ rfl
                have hsz := S2.out.g.size
                clear E0 EV
                go_wp2_with (at_builtin; refine appO rfl _ _ rfl w.heap.size _ (onG NM last L k ++ onY k ⟨NM, fr, tu, mo, kk, vv, dd, nn, cc, sv, lt⟩ j) M HM.out rfl RB2.out k y (D * 86400 + nn) rfl hM8 hsz ?_)
                intro wn gg gcap r5 g5 k5
                have S5 : Hid (HwS w b (off + k * 11) [.string ⟨NM.toArray⟩, .int .i64 fr, .int .i64 tu, .int .i64 mo, .int .i64 kk, .int .i64 vv, .int .i64 dd, .int .i64 nn, .int .i64 cc, .int .i64 sv, .string ⟨lt.toArray⟩] wn) := Lib.hid ⟨fun i u hu => (g5.cell (p := ⟨b, off + k * 11 + i, none⟩) S2.out.l (fun q => by have h8 : w.heap.size ≤ b := (World.ownsRow.lt RB2.out _ q.symm).1; have := hb0.out; omega)).trans (S2.out.r i u hu), Nat.lt_of_lt_of_le S2.out.l g5.size, g5.below w.heap.size w (Nat.le_refl _) S2.out.g hsz⟩
                have R5 : Hid (RowO w.heap.size wn _ (onG NM last L k ++ onY k ⟨NM, fr, tu, mo, kk, vv, dd, nn, cc, sv, lt⟩ (j + 1))) := Lib.hid (by rw [HST.out]; exact r5)
                clear r5 g5 k5 hsz c7 wm1 wm2 d1 d2
                go_wp2
                go_roundw
                case rel => exact ⟨j + 1, _, rfl, by have := HY2.out; go_num, HJB.out, R5, S5⟩
                case measure => simp [intOf]; have := HYB.out; have := HY2.out; omega
              | false =>
                have HST : Hid (onY k ⟨NM, fr, tu, mo, kk, vv, dd, nn, cc, sv, lt⟩ (j + 1) = onY k ⟨NM, fr, tu, mo, kk, vv, dd, nn, cc, sv, lt⟩ j) := Lib.hid (by
                  rw [onY_succ, onO]
                  show _ ++ (if Wk.resE (fr + j) mo kk vv dd = 0 then _ else _) = _
                  rw [HY2.out, if_neg (of_decide_eq_false HD.out.2), List.append_nil])
                have R5 : Hid (RowO w.heap.size w5 (.slice A8 M c8) (onG NM last L k ++ onY k ⟨NM, fr, tu, mo, kk, vv, dd, nn, cc, sv, lt⟩ (j + 1))) := Lib.hid (by rw [HST.out]; exact RB2.out)
                go_wp2
                go_roundw
                case rel => exact ⟨j + 1, _, rfl, by have := HY2.out; go_num, HJB.out, R5, S2⟩
                case measure => simp [intOf]; have := HYB.out; have := HY2.out; omega
            · have hje : j = (min tu last + 1 - fr).toNat := by omega
              have HGX : Hid (RowO w.heap.size wi (.slice A8 M c8) (onG NM last L (k + 1))) := Lib.hid (by rw [HY.out, YN.out, ← hje]; exact HRI.out)
              have HBX := Lib.hid HS.out.g
              clear hje
              go_wp2
              go_roundw
              case rel => exact ⟨k + 1, _, by omega, rfl, by go_num, HGX, HBX⟩
              case measure => simp [intOf]; omega
      · have HGX : Hid (RowO w.heap.size wo sv9 (onG NM last L (k + 1))) := Lib.hid (by rw [HX.out, onR_no (fun q => e1 q.symm), List.append_nil]; exact HR.out)
        have e1' : ¬ nm = NM := fun q => e1 q.symm
        have e2' : (nm == NM) = false := beq_eq_false_iff_ne.2 e1'
        clear HX
        go_wp2
        go_roundw
        case rel => exact ⟨k + 1, _, by omega, rfl, by go_num, HGX, HB⟩
        case measure => simp [intOf]; omega
    · have hke : k = L.length := by have := HN.out; omega
      have HR2 : Hid (RowO w.heap.size wo sv9 (onG NM last L L.length)) := Lib.hid (by rw [← hke]; exact HR.out)
      have h39 : (onG NM last L L.length).length ≤ 3000000 := by rw [← hke]; have := HGL.out; omega
      have hpw := onG_pair NM last L L.length (Nat.le_refl _)
      clear hke HR
      go_wp2_with fail
      refine (rsorted_to w.heap.size sv9 _ _ HR2.out h39 hpw).mono ?_
      rintro e w7 ⟨lv, rfl, hr7, k7⟩
      have B7 := Lib.hid (bstep HB.out k7)
      have R7 : Hid (RowV ovC 3 w7 lv (onS NM last L)) := Lib.hid hr7
      clear k7 hr7 h39 hpw
      go_wp2
      go_ret
      exact ⟨_, rfl, R7.out, B7.out⟩

set_option maxHeartbeats 3200000 in
set_option maxRecDepth 100000 in
theorem ron_nil (a : Option Addr) (c : Nat) (NM : List UInt8) (last : Int) (w : World) :
    Calls Tryd.prog 15 #[.slice a 0 c, .string ⟨NM.toArray⟩, .int .i64 last] w fun x w' => ∃ lv, x = .returned lv ∧ RowV ovC 3 w' lv [] ∧ Below w.heap.size w w' := by
  go_enter Tryd.func15, Tryd.ntmps15
  go_wp2_with fail
  go_loopw [7, 8] (fun lv iv wr => lv = .slice none 0 0 ∧ iv = .int .i64 0 ∧ Hid (Below w.heap.size w wr)) (fun _ _ _ => 0)
  case atStart => exact ⟨rfl, rfl, Lib.hid (Below.refl _ _)⟩
  case round =>
    obtain ⟨rfl, rfl, HB⟩ := hrel
    go_wp2_with fail
    refine (rso_short none 0 0 _ (by decide)).mono ?_
    rintro e w7 ⟨rfl, k7⟩
    have B7 := Lib.hid (bstep HB.out k7)
    clear k7
    go_wp2
    go_ret
    exact ⟨_, rfl, RowV.nil _ _ _, B7.out⟩
theorem ronsets_to (v : Value) (NM : List UInt8) (last : Int) (L : List RV) (K : List OV) (w : World) (hv : RulV w v L) (hlen : L.length ≤ 200) (RB : Hid (L.all chkB = true)) (l1 : 1 ≤ last) (l2 : last ≤ 9999) (hK : Hid (onS NM last L = K)) :
    Calls Tryd.prog 15 #[v, .string ⟨NM.toArray⟩, .int .i64 last] w fun x w' => ∃ lv, x = .returned lv ∧ RowV ovC 3 w' lv K ∧ Below w.heap.size w w' := by
  have hK' := hK.out
  subst hK'
  by_cases h0 : L.length = 0
  · obtain ⟨a, c, rfl⟩ := hv.slice
    have : L = [] := List.eq_nil_of_length_eq_zero h0
    subst this
    have hs : onS NM last [] = [] := List.eq_nil_of_length_eq_zero (by rw [onS, sortO_len]; rfl)
    rw [hs]
    exact ron_nil a c NM last w
  · obtain ⟨b, off, c, rfl, hb, hp⟩ := RowV.form hv (by omega)
    exact ron_row b off c NM last L L.length w rfl hb (Lib.hid hp) hlen RB l1 l2
end Ons
end Go.Proofs.YthefgagmjamdkaaDoor
