/-
  Contracts of package onset: the sort, Of. (Written by gen/gen_onsr.py.)
-/
import Derived.Test.YthefgagmjamdkaaDoorOnsQ
import Derived.Test.YthefgagmjamdkaaDoorOnsC
import Derived.Test.YthefgagmjamdkaaDoorRsS
import Derived.Test.YthefgagmjamdkaaDoorShelfB
namespace Go.Proofs.YthefgagmjamdkaaDoor
open Go.RowKit
namespace Ons
open Rul Rs Cel
open Ap (Grew)
theorem cmpL (blk off size : Nat) (w : World) : CmpLays Tryd.prog 22 #[] ovC 3 oCf blk off size w := fun m os dk _ x y => by
  obtain ⟨x1, x2, x3⟩ := x
  obtain ⟨y1, y2, y3⟩ := y
  exact ord_to x1 x2 x3 y1 y2 y3 _ _ (Lib.hid rfl)
theorem srt_to (B : Nat) (v : Value) (L : List OV) (w : World) (h : RowO B w v L) (hn : L.length ≤ 1000000000) :
    Calls Tryd.prog 21 #[v, .func (.func 22) #[] #[]] w fun e w' => e = .returned (.tuple #[]) ∧ RowO B w' v (sortO L) ∧ Below B w w' := by
  by_cases h0 : L.length = 0
  · have hL : L = [] := List.eq_nil_of_length_eq_zero h0
    subst hL
    obtain ⟨A, c, rfl⟩ := RowT.forms h
    refine (AnyF.slices_SortFunc_none { Tryd.sortOv with } A c _ w).mono ?_
    rintro e w' ⟨rfl, rfl⟩
    have hs : sortO [] = [] := List.eq_nil_of_length_eq_zero (sortO_len [])
    exact ⟨rfl, by rw [hs]; exact h, Below.refl _ _⟩
  · obtain ⟨g, c, rfl, hb, hg, _, _⟩ := RowT.form ovC_len h (by omega)
    have eg : ∀ args w, (callFunc 22 args).run Tryd.prog w = .ok (.enter 22 args) w := enters_of Tryd.func22 (by kernel_rfl) rfl
    have hH := holds_row ovC_len (by decide) h
    have hcon := AnyQ.slices_SortFunc_total Tryd.sortOv 3 Tryd.isAgg37 Tryd.sizeOf37 ovC ovC_len ovC_one oCf olt_swo 22 #[] g 0 c L.toArray w eg (cmpL g 0 _ w) hH hg (by simp; omega) olt_tot
    rw [List.size_toArray] at hcon
    refine hcon.mono ?_
    rintro e w' ⟨rfl, n, os, rfl⟩
    have hs : (L.mergeSort fun x y => !Go.Proofs.ltOf oCf y x) = sortO L := by rw [sortO, olt_fun]; rfl
    have hs' : (L.toArray.toList.mergeSort fun x y => !Go.Proofs.ltOf oCf y x) = sortO L := hs
    rw [hs']
    obtain ⟨r, k⟩ := row_sorted ovC_len (by decide) h n os (sortO L) (sortO_len L)
    exact ⟨rfl, r, k⟩
/-- Which error Of tells. -/
def ofE (last : Int) (L : List RV) : Int := if okE L = 0 then (if 1 ≤ last ∧ last ≤ 9999 then 0 else 23) else okE L
def ofO (NM : List UInt8) (last : Int) (L : List RV) : List OV := if ofE last L = 0 then onS NM last L else []
theorem ofE_0 {last : Int} {L : List RV} (h : ofE last L = 0) : okE L = 0 ∧ 1 ≤ last ∧ last ≤ 9999 := by
  rw [ofE] at h
  by_cases h1 : okE L = 0
  · rw [if_pos h1] at h
    by_cases h2 : 1 ≤ last ∧ last ≤ 9999
    · exact ⟨h1, h2⟩
    · rw [if_neg h2] at h; exact absurd h (by decide)
  · rw [if_neg h1] at h; exact absurd h h1
set_option maxHeartbeats 6400000 in
set_option maxRecDepth 100000 in
theorem of_bad (a : Option Addr) (n c : Nat) (NM : List UInt8) (last : Int) (L : List RV) (e : Int) (w : World) (hv : RulV w (.slice a n c) L) (hsm : Hid (∀ r ∈ L, r.nm.length ≤ 1000000 ∧ r.lt.length ≤ 1000000)) (hlen : L.length ≤ 1000000000) (hE : Hid (okE L = e)) (he : e ≠ 0) :
    Calls Tryd.prog 8 #[.slice a n c, .string ⟨NM.toArray⟩, .int .i64 last] w fun x w' => x = .returned (.tuple #[.slice none 0 0, .int .i64 e]) ∧ Below w.heap.size w w' := by
  have h1 : (e == 0) = false := beq_eq_false_iff_ne.2 he
  go_enter Tryd.func8, Tryd.ntmps8
  go_wp2_with fail
  refine (ock_slice a n c L e _ hv hsm hlen hE).mono ?_
  rintro e2 w1 ⟨rfl, hb1⟩
  go_wp2
  go_ret2
  exact ⟨rfl, hb1⟩
set_option maxHeartbeats 6400000 in
set_option maxRecDepth 100000 in
theorem of_year (a : Option Addr) (n c : Nat) (NM : List UInt8) (last : Int) (L : List RV) (w : World) (hv : RulV w (.slice a n c) L) (hsm : Hid (∀ r ∈ L, r.nm.length ≤ 1000000 ∧ r.lt.length ≤ 1000000)) (hlen : L.length ≤ 1000000000) (hE : Hid (okE L = 0)) (hl : ¬ (1 ≤ last ∧ last ≤ 9999)) :
    Calls Tryd.prog 8 #[.slice a n c, .string ⟨NM.toArray⟩, .int .i64 last] w fun x w' => x = .returned (.tuple #[.slice none 0 0, .int .i64 23]) ∧ Below w.heap.size w w' := by
  by_cases h1 : last < 1
  · go_enter Tryd.func8, Tryd.ntmps8
    go_wp2_with fail
    refine (ock_slice a n c L 0 _ hv hsm hlen hE).mono ?_
    rintro e2 w1 ⟨rfl, hb1⟩
    go_wp2
    go_ret2
    exact ⟨rfl, hb1⟩
  · have h2 : 9999 < last := by omega
    go_enter Tryd.func8, Tryd.ntmps8
    go_wp2_with fail
    refine (ock_slice a n c L 0 _ hv hsm hlen hE).mono ?_
    rintro e2 w1 ⟨rfl, hb1⟩
    go_wp2
    go_ret2
    exact ⟨rfl, hb1⟩
set_option maxHeartbeats 6400000 in
set_option maxRecDepth 100000 in
theorem of_nil (a : Option Addr) (c : Nat) (NM : List UInt8) (last : Int) (w : World) (hv : RulV w (.slice a 0 c) []) (l1 : 1 ≤ last) (l2 : last ≤ 9999) :
    Calls Tryd.prog 8 #[.slice a 0 c, .string ⟨NM.toArray⟩, .int .i64 last] w fun x w' => ∃ lv, x = .returned (.tuple #[lv, .int .i64 0]) ∧ RowO w.heap.size w' lv [] ∧ Below w.heap.size w w' := by
  have SR := Lib.hid (fun W => srt_to w.heap.size (.slice none 0 0) [] W (RowO.nil _ _) (by simp))
  go_enter Tryd.func8, Tryd.ntmps8
  go_wp2_with fail
  refine (ock_slice a 0 c [] 0 _ hv (Lib.hid (by simp)) (by simp) (Lib.hid rfl)).mono ?_
  rintro e2 w1 ⟨rfl, hb1⟩
  have B1 := Lib.hid hb1
  clear hb1
  go_wp2
  go_loopw [9, 28] (fun lv i wr => lv = .slice none 0 0 ∧ i = .int .i64 0 ∧ Hid (Below w.heap.size w wr)) (fun _ _ _ => 0)
  case atStart => exact ⟨rfl, rfl, B1⟩
  case round =>
    obtain ⟨rfl, rfl, HB⟩ := hrel
    go_wp2_with fail
    refine (SR.out _).mono ?_
    rintro e2 w2 ⟨rfl, hr, hb2⟩
    have HB2 := Lib.hid (HB.out.trans hb2)
    clear hb2 hr
    go_wp2
    go_ret2
    exact ⟨_, rfl, RowO.nil _ _, HB2.out⟩
theorem onY_succ (i : Int) (r : RV) (m : Nat) : onY i r (m + 1) = onY i r m ++ onO i r (r.fr + m) := rfl
theorem own_lt {B : Nat} {w : World} {v : Value} {L : List OV} (h : RowO B w v L) : v.ownBlock ≠ some w.heap.size := fun q => by
  have := (World.ownsRow.lt h _ q).2
  omega
theorem own_ne {h0 g N c : Nat} {v : Value} {W : World} (h1 : v.ownBlock ≠ some h0) (h2 : v.ownBlock = some g ∨ g = W.heap.size + 1) (h3 : h0 < W.heap.size) : (Value.slice (some ⟨g, 0, none⟩) N c).ownBlock ≠ some h0 := fun q => by
  have q' : some g = some h0 := q
  injection q' with q'
  subst q'
  rcases h2 with h2 | h2
  · exact h1 h2
  · omega
theorem cs_grew {g B : Nat} {v : Value} {w w' : World} {vs : List Value} (h : Cs g w vs) (k : Grew B v w w') (hne : v.ownBlock ≠ some g) : Cs g w' vs :=
  ⟨Nat.lt_of_lt_of_le h.1 k.size, fun i u hu => ⟨(k.cell (p := ⟨g, i, none⟩) h.1 (fun q => hne q.symm)).trans (h.2 i u hu).1, (k.frozen (p := ⟨g, i, none⟩) h.1 (fun q => hne q.symm)).trans (h.2 i u hu).2⟩⟩

set_option maxHeartbeats 25600000 in
set_option maxRecDepth 100000 in
theorem of_row (b off c : Nat) (NM : List UInt8) (last : Int) (L : List RV) (w : World) (hA : Civ.Ahead w) (hbl : b < w.heap.size) (hp : Hid (∀ (j : Nat) (hj : j < L.length), w.rangeAt b (off + j * 11) (rvC L[j]))) (hv : RulV w (.slice (some ⟨b, off, none⟩) L.length c) L) (hlen : L.length ≤ 200) (hsm : Hid (∀ r ∈ L, r.nm.length ≤ 1000000 ∧ r.lt.length ≤ 1000000))
    (hE : Hid (okE L = 0)) (l1 : 1 ≤ last) (l2 : last ≤ 9999) :
    Calls Tryd.prog 8 #[.slice (some ⟨b, off, none⟩) L.length c, .string ⟨NM.toArray⟩, .int .i64 last] w fun x w' => ∃ lv, x = .returned (.tuple #[lv, .int .i64 0]) ∧ RowO w.heap.size w' lv (onS NM last L) ∧ Below w.heap.size w w' := by
  have HC := fun (W : World) (hb : Below w.heap.size w W) => ock_slice (some ⟨b, off, none⟩) L.length c L 0 W (hv.below hb) hsm (by omega) hE
  have HCK := Lib.hid HC
  have HA := Lib.hid hA
  have hYR : ∀ r ∈ L, 1 ≤ r.fr ∧ r.tu ≤ 9999 := fun r hr => by
    obtain ⟨nm, fr, tu, mo, kk, vv, dd, nn, cc, sv, lt⟩ := r
    obtain ⟨f1, f2, f3, _, _⟩ := chk_n (List.all_eq_true.1 (okE_0 hE.out).2 _ hr)
    exact ⟨f1, f3⟩
  have HLN : Hid (∀ k : Nat, k ≤ L.length → (onG NM last L k).length ≤ k * 9999) := Lib.hid (fun k hk => onG_len hYR k hk)
  clear hYR
  obtain ⟨N, hN⟩ : ∃ N, L.length = N := ⟨_, rfl⟩
  rw [hN] at hlen HCK ⊢
  have HN := Lib.hid hN
  clear hN hv HC hA
  go_enter Tryd.func8, Tryd.ntmps8
  go_wp2_with fail
  refine (HCK.out _ (Below.refl _ _)).mono ?_
  rintro e2 w1 ⟨rfl, hb1⟩
  have B1 := Lib.hid hb1
  clear hb1 HCK
  go_wp2
  go_loopw [9, 28] (fun lv i wr => ∃ (k : Nat) (sv9 : Value), k ≤ N ∧ sv9 = lv ∧ i = .int .i64 k ∧ Hid (RowO w.heap.size wr sv9 (onG NM last L k)) ∧ Hid (Below w.heap.size w wr)) (fun _ i _ => N - (intOf i).toNat)
  case atStart => exact ⟨0, _, Nat.zero_le _, rfl, rfl, Lib.hid (RowO.nil _ _), B1⟩
  case round =>
    obtain ⟨k, sv9, hk, rfl, rfl, HR, HB⟩ := hrel
    obtain ⟨wo, rfl⟩ : ∃ wo : World, wo = wr := ⟨_, rfl⟩
    clear B1
    by_cases hlt : k < N
    · have hkp : k < L.length := by rw [HN.out]; exact hlt
      have r0 := range_below hbl (hp.out k hkp) HB.out
      obtain ⟨r, hr⟩ : ∃ r, L[k]'hkp = r := ⟨_, rfl⟩
      rw [hr] at r0
      have HX : Hid (onG NM last L (k + 1) = onG NM last L k ++ onR NM last k r) := Lib.hid (by rw [onG_succ hkp, hr])
      have hck : chkB r = true := by rw [← hr]; exact all_at (okE_0 hE.out).2 hkp
      have HL0 : Hid ((onG NM last L k).length ≤ 1999800) := Lib.hid (by have := HLN.out k (by omega); omega)
      clear hr hkp
      obtain ⟨nm, fr, tu, mo, kk, vv, dd, nn, cc, sv, lt⟩ := r
      obtain ⟨f1, f2, f3, f4, f5⟩ := chk_n hck
      have C0 : Hid (wo.rangeAt b (off + k * 11) [.string ⟨nm.toArray⟩, .int .i64 fr, .int .i64 tu, .int .i64 mo, .int .i64 kk, .int .i64 vv, .int .i64 dd, .int .i64 nn, .int .i64 cc, .int .i64 sv, .string ⟨lt.toArray⟩]) := Lib.hid r0
      have hC1 := Cs.new wo [.string ⟨nm.toArray⟩, .int .i64 fr, .int .i64 tu, .int .i64 mo, .int .i64 kk, .int .i64 vv, .int .i64 dd, .int .i64 nn, .int .i64 cc, .int .i64 sv, .string ⟨lt.toArray⟩] 43
      have K1 := Lib.hid hC1
      have B1 := Lib.hid (HB.out.alloc HB.out.size (Obj.cells #[.string ⟨nm.toArray⟩, .int .i64 fr, .int .i64 tu, .int .i64 mo, .int .i64 kk, .int .i64 vv, .int .i64 dd, .int .i64 nn, .int .i64 cc, .int .i64 sv, .string ⟨lt.toArray⟩] 43))
      have R1 := Lib.hid (HR.out.below ((Below.refl wo.heap.size wo).alloc (Nat.le_refl _) (Obj.cells #[.string ⟨nm.toArray⟩, .int .i64 fr, .int .i64 tu, .int .i64 mo, .int .i64 kk, .int .i64 vv, .int .i64 dd, .int .i64 nn, .int .i64 cc, .int .i64 sv, .string ⟨lt.toArray⟩] 43)))
      clear r0 hck hC1
      by_cases e1 : NM = nm
      · subst e1
        have HY : Hid (onG NM last L (k + 1) = onG NM last L k ++ onY k ⟨NM, fr, tu, mo, kk, vv, dd, nn, cc, sv, lt⟩ (yrN ⟨NM, fr, tu, mo, kk, vv, dd, nn, cc, sv, lt⟩ last)) := Lib.hid (by rw [HX.out, onR, if_pos rfl])
        clear HX
        have mt9 : min tu last ≤ 9999 := by omega
        have YN : Hid (yrN ⟨NM, fr, tu, mo, kk, vv, dd, nn, cc, sv, lt⟩ last = (min tu last + 1 - fr).toNat) := Lib.hid rfl
        obtain ⟨mt, hmt⟩ : ∃ mt, min tu last = mt := ⟨_, rfl⟩
        rw [hmt] at YN mt9
        obtain ⟨A9, c9, rfl⟩ := RowT.forms HR.out
        have O1 := Lib.hid (own_lt HR.out)
        clear HR
        go_wp2_with (refine ldV C0.out rfl (by rfl) (by rfl) (by rfl) ?_; intro K2 hK2; go_simp)
        by_cases hle : tu ≤ last
        · go_loopw [9, 12] (fun lv yv wr => ∃ (j : Nat) (sv9 : Value), sv9 = lv ∧ yv = .int .i64 (fr + j) ∧ fr + j ≤ mt + 1 + 9999 ∧ j ≤ (mt + 1 - fr).toNat ∧ Hid (RowO w.heap.size wr sv9 (onG NM last L k ++ onY k ⟨NM, fr, tu, mo, kk, vv, dd, nn, cc, sv, lt⟩ j)) ∧ Hid (sv9.ownBlock ≠ some wo.heap.size) ∧ Hid (Cs wo.heap.size wr [.string ⟨NM.toArray⟩, .int .i64 fr, .int .i64 tu, .int .i64 mo, .int .i64 kk, .int .i64 vv, .int .i64 dd, .int .i64 nn, .int .i64 cc, .int .i64 sv, .string ⟨lt.toArray⟩]) ∧ Hid (Below w.heap.size w wr)) (fun _ y _ => (10001 - intOf y).toNat)
          case atStart => exact ⟨0, _, rfl, by simp, by omega, Nat.zero_le _, Lib.hid (by rw [show onY (k : Int) ⟨NM, fr, tu, mo, kk, vv, dd, nn, cc, sv, lt⟩ 0 = [] from rfl, List.append_nil]; exact R1.out), O1, K1, B1⟩
          case round =>
            obtain ⟨j, sv9, rfl, rfl, hj1, hj2, HR, HO, HC, HB2⟩ := hrel
            obtain ⟨wi, rfl⟩ : ∃ wi : World, wi = wr := ⟨_, rfl⟩
            clear K1 B1 R1 O1
            have z2 := (HC.out.2 2 _ rfl).1
            obtain ⟨A8, c8, hf8⟩ := RowT.forms HR.out
            obtain ⟨M, hM⟩ : ∃ M, (onG NM last L k ++ onY k ⟨NM, fr, tu, mo, kk, vv, dd, nn, cc, sv, lt⟩ j).length = M := ⟨_, rfl⟩
            rw [hM] at hf8
            subst hf8
            have HM := Lib.hid hM
            have LEN : Hid (M ≤ 100000000) := Lib.hid (by
              have q1 := HL0.out
              have q2 := onY_len k ⟨NM, fr, tu, mo, kk, vv, dd, nn, cc, sv, lt⟩ j
              rw [← hM, List.length_append]; omega)
            clear hM
            by_cases hlt2 : fr + j ≤ mt
            · obtain ⟨y, hy⟩ : ∃ y, fr + (j : Int) = y := ⟨_, rfl⟩
              have hlt3 : y ≤ min tu last := by omega
              rw [hy] at hlt2 ⊢
              have HY := Lib.hid hy
              have y1 : 1 ≤ y := by omega
              clear hy
              obtain ⟨V, hV⟩ : ∃ V, Wk.resV y mo kk vv dd = V := ⟨_, rfl⟩
              obtain ⟨E, hE2⟩ : ∃ E, Wk.resE y mo kk vv dd = E := ⟨_, rfl⟩
              have HV := Lib.hid (And.intro hV hE2)
              clear hV hE2
              obtain ⟨ln, lb, hl⟩ := loc_case E V nn
              have HL := Lib.hid hl
              clear hl
              have A1 := Lib.hid (HA.out.stays HB2.out)
              have C2 := Lib.hid HC.out.range
              go_wp2_with (refine ldV C2.out rfl (by rfl) (by rfl) (by rfl) ?_; intro K2 hK2; go_simp)
              refine (loc_to NM lt fr tu mo kk vv dd nn cc sv y V E ln lb _ A1.out f4 f5 HV HL).mono ?_
              rintro e2 w1 ⟨rfl, hb1⟩
              have B2 := Lib.hid (bstep HB2.out hb1)
              have C3 := Lib.hid (HC.out.below hb1)
              have R3 := Lib.hid (HR.out.below hb1)
              clear hb1 C2 HR HC HB2 A1
              rcases HL.out with ⟨rfl, hln, rfl⟩ | ⟨hE2, hln, rfl⟩
              · have HS : Hid (onY k ⟨NM, fr, tu, mo, kk, vv, dd, nn, cc, sv, lt⟩ (j + 1) = onY k ⟨NM, fr, tu, mo, kk, vv, dd, nn, cc, sv, lt⟩ j ++ [((k : Int), y, ln)]) := Lib.hid (by
                  rw [onY_succ, onO]
                  show _ ++ (if Wk.resE (fr + j) mo kk vv dd = 0 then _ else _) = _
                  rw [HY.out, if_pos HV.out.2, hln]
                  show _ ++ [((k : Int), y, Wk.resV y mo kk vv dd * 86400 + nn)] = _
                  rw [HV.out.1])
                have hsz : w.heap.size ≤ w1.heap.size := B2.out.size
                have hl8 := LEN.out
                clear hln
                go_wp2_with (at_builtin; refine appO rfl _ _ rfl w.heap.size _ (onG NM last L k ++ onY k ⟨NM, fr, tu, mo, kk, vv, dd, nn, cc, sv, lt⟩ j) M HM.out rfl R3.out k y ln rfl hl8 hsz ?_)
                intro wn gg gcap r5 g5 k5
                have B4 := Lib.hid (g5.below w.heap.size w (Nat.le_refl _) B2.out hsz)
                have C4 := Lib.hid (cs_grew C3.out g5 HO.out)
                have O4 := Lib.hid (own_ne (N := M + 1) (c := gcap) HO.out k5 C3.out.1)
                have R4 : Hid (RowO w.heap.size wn _ (onG NM last L k ++ onY k ⟨NM, fr, tu, mo, kk, vv, dd, nn, cc, sv, lt⟩ (j + 1))) := Lib.hid (by rw [HS.out]; exact r5)
                clear r5 g5 k5 hsz hl8 R3 C3 B2
                go_wp2
                go_roundw
                case rel => exact ⟨j + 1, _, rfl, by have := HY.out; go_num, by have := HY.out; omega, by have := HY.out; omega, R4, O4, C4, B4⟩
                case measure => simp [intOf]; omega
              · have HS : Hid (onY k ⟨NM, fr, tu, mo, kk, vv, dd, nn, cc, sv, lt⟩ (j + 1) = onY k ⟨NM, fr, tu, mo, kk, vv, dd, nn, cc, sv, lt⟩ j) := Lib.hid (by
                  rw [onY_succ, onO]
                  show _ ++ (if Wk.resE (fr + j) mo kk vv dd = 0 then _ else _) = _
                  rw [HY.out, if_neg (by rw [HV.out.2]; exact hE2), List.append_nil])
                have R4 : Hid (RowO w.heap.size w1 _ (onG NM last L k ++ onY k ⟨NM, fr, tu, mo, kk, vv, dd, nn, cc, sv, lt⟩ (j + 1))) := Lib.hid (by rw [HS.out]; exact R3.out)
                clear hln
                go_wp2
                go_roundw
                case rel => exact ⟨j + 1, _, rfl, by have := HY.out; go_num, by have := HY.out; omega, by have := HY.out; omega, R4, HO, C3, B2⟩
                case measure => simp [intOf]; omega
            · have hlt3 : ¬ fr + (j : Int) ≤ min tu last := by omega
              have hje : j = (mt + 1 - fr).toNat := by omega
              have HRR : Hid (RowO w.heap.size wi (.slice A8 M c8) (onG NM last L (k + 1))) := Lib.hid (by
                rw [HY.out, YN.out, ← hje]; exact HR.out)
              clear hje
              go_wp2
              go_roundw
              case rel => exact ⟨k + 1, _, by omega, rfl, by go_num, HRR, HB2⟩
              case measure => simp [intOf]; omega
        · go_loopw [9, 12] (fun lv yv wr => ∃ (j : Nat) (sv9 : Value), sv9 = lv ∧ yv = .int .i64 (fr + j) ∧ fr + j ≤ mt + 1 + 9999 ∧ j ≤ (mt + 1 - fr).toNat ∧ Hid (RowO w.heap.size wr sv9 (onG NM last L k ++ onY k ⟨NM, fr, tu, mo, kk, vv, dd, nn, cc, sv, lt⟩ j)) ∧ Hid (sv9.ownBlock ≠ some wo.heap.size) ∧ Hid (Cs wo.heap.size wr [.string ⟨NM.toArray⟩, .int .i64 fr, .int .i64 tu, .int .i64 mo, .int .i64 kk, .int .i64 vv, .int .i64 dd, .int .i64 nn, .int .i64 cc, .int .i64 sv, .string ⟨lt.toArray⟩]) ∧ Hid (Below w.heap.size w wr)) (fun _ y _ => (10001 - intOf y).toNat)
          case atStart => exact ⟨0, _, rfl, by simp, by omega, Nat.zero_le _, Lib.hid (by rw [show onY (k : Int) ⟨NM, fr, tu, mo, kk, vv, dd, nn, cc, sv, lt⟩ 0 = [] from rfl, List.append_nil]; exact R1.out), O1, K1, B1⟩
          case round =>
            obtain ⟨j, sv9, rfl, rfl, hj1, hj2, HR, HO, HC, HB2⟩ := hrel
            obtain ⟨wi, rfl⟩ : ∃ wi : World, wi = wr := ⟨_, rfl⟩
            clear K1 B1 R1 O1
            have z2 := (HC.out.2 2 _ rfl).1
            obtain ⟨A8, c8, hf8⟩ := RowT.forms HR.out
            obtain ⟨M, hM⟩ : ∃ M, (onG NM last L k ++ onY k ⟨NM, fr, tu, mo, kk, vv, dd, nn, cc, sv, lt⟩ j).length = M := ⟨_, rfl⟩
            rw [hM] at hf8
            subst hf8
            have HM := Lib.hid hM
            have LEN : Hid (M ≤ 100000000) := Lib.hid (by
              have q1 := HL0.out
              have q2 := onY_len k ⟨NM, fr, tu, mo, kk, vv, dd, nn, cc, sv, lt⟩ j
              rw [← hM, List.length_append]; omega)
            clear hM
            by_cases hlt2 : fr + j ≤ mt
            · obtain ⟨y, hy⟩ : ∃ y, fr + (j : Int) = y := ⟨_, rfl⟩
              have hlt3 : y ≤ min tu last := by omega
              rw [hy] at hlt2 ⊢
              have HY := Lib.hid hy
              have y1 : 1 ≤ y := by omega
              clear hy
              obtain ⟨V, hV⟩ : ∃ V, Wk.resV y mo kk vv dd = V := ⟨_, rfl⟩
              obtain ⟨E, hE2⟩ : ∃ E, Wk.resE y mo kk vv dd = E := ⟨_, rfl⟩
              have HV := Lib.hid (And.intro hV hE2)
              clear hV hE2
              obtain ⟨ln, lb, hl⟩ := loc_case E V nn
              have HL := Lib.hid hl
              clear hl
              have A1 := Lib.hid (HA.out.stays HB2.out)
              have C2 := Lib.hid HC.out.range
              go_wp2_with (refine ldV C2.out rfl (by rfl) (by rfl) (by rfl) ?_; intro K2 hK2; go_simp)
              refine (loc_to NM lt fr tu mo kk vv dd nn cc sv y V E ln lb _ A1.out f4 f5 HV HL).mono ?_
              rintro e2 w1 ⟨rfl, hb1⟩
              have B2 := Lib.hid (bstep HB2.out hb1)
              have C3 := Lib.hid (HC.out.below hb1)
              have R3 := Lib.hid (HR.out.below hb1)
              clear hb1 C2 HR HC HB2 A1
              rcases HL.out with ⟨rfl, hln, rfl⟩ | ⟨hE2, hln, rfl⟩
              · have HS : Hid (onY k ⟨NM, fr, tu, mo, kk, vv, dd, nn, cc, sv, lt⟩ (j + 1) = onY k ⟨NM, fr, tu, mo, kk, vv, dd, nn, cc, sv, lt⟩ j ++ [((k : Int), y, ln)]) := Lib.hid (by
                  rw [onY_succ, onO]
                  show _ ++ (if Wk.resE (fr + j) mo kk vv dd = 0 then _ else _) = _
                  rw [HY.out, if_pos HV.out.2, hln]
                  show _ ++ [((k : Int), y, Wk.resV y mo kk vv dd * 86400 + nn)] = _
                  rw [HV.out.1])
                have hsz : w.heap.size ≤ w1.heap.size := B2.out.size
                have hl8 := LEN.out
                clear hln
                go_wp2_with (at_builtin; refine appO rfl _ _ rfl w.heap.size _ (onG NM last L k ++ onY k ⟨NM, fr, tu, mo, kk, vv, dd, nn, cc, sv, lt⟩ j) M HM.out rfl R3.out k y ln rfl hl8 hsz ?_)
                intro wn gg gcap r5 g5 k5
                have B4 := Lib.hid (g5.below w.heap.size w (Nat.le_refl _) B2.out hsz)
                have C4 := Lib.hid (cs_grew C3.out g5 HO.out)
                have O4 := Lib.hid (own_ne (N := M + 1) (c := gcap) HO.out k5 C3.out.1)
                have R4 : Hid (RowO w.heap.size wn _ (onG NM last L k ++ onY k ⟨NM, fr, tu, mo, kk, vv, dd, nn, cc, sv, lt⟩ (j + 1))) := Lib.hid (by rw [HS.out]; exact r5)
                clear r5 g5 k5 hsz hl8 R3 C3 B2
                go_wp2
                go_roundw
                case rel => exact ⟨j + 1, _, rfl, by have := HY.out; go_num, by have := HY.out; omega, by have := HY.out; omega, R4, O4, C4, B4⟩
                case measure => simp [intOf]; omega
              · have HS : Hid (onY k ⟨NM, fr, tu, mo, kk, vv, dd, nn, cc, sv, lt⟩ (j + 1) = onY k ⟨NM, fr, tu, mo, kk, vv, dd, nn, cc, sv, lt⟩ j) := Lib.hid (by
                  rw [onY_succ, onO]
                  show _ ++ (if Wk.resE (fr + j) mo kk vv dd = 0 then _ else _) = _
                  rw [HY.out, if_neg (by rw [HV.out.2]; exact hE2), List.append_nil])
                have R4 : Hid (RowO w.heap.size w1 _ (onG NM last L k ++ onY k ⟨NM, fr, tu, mo, kk, vv, dd, nn, cc, sv, lt⟩ (j + 1))) := Lib.hid (by rw [HS.out]; exact R3.out)
                clear hln
                go_wp2
                go_roundw
                case rel => exact ⟨j + 1, _, rfl, by have := HY.out; go_num, by have := HY.out; omega, by have := HY.out; omega, R4, HO, C3, B2⟩
                case measure => simp [intOf]; omega
            · have hlt3 : ¬ fr + (j : Int) ≤ min tu last := by omega
              have hje : j = (mt + 1 - fr).toNat := by omega
              have HRR : Hid (RowO w.heap.size wi (.slice A8 M c8) (onG NM last L (k + 1))) := Lib.hid (by
                rw [HY.out, YN.out, ← hje]; exact HR.out)
              clear hje
              go_wp2
              go_roundw
              case rel => exact ⟨k + 1, _, by omega, rfl, by go_num, HRR, HB2⟩
              case measure => simp [intOf]; omega
      · have HRR : Hid (RowO w.heap.size (wo.alloc (Obj.cells #[.string ⟨nm.toArray⟩, .int .i64 fr, .int .i64 tu, .int .i64 mo, .int .i64 kk, .int .i64 vv, .int .i64 dd, .int .i64 nn, .int .i64 cc, .int .i64 sv, .string ⟨lt.toArray⟩] 43)) sv9 (onG NM last L (k + 1))) := Lib.hid (by
          rw [HX.out, onR, if_neg (fun q => e1 q.symm), List.append_nil]; exact R1.out)
        have e1' : ¬ nm = NM := fun q => e1 q.symm
        have e2' : (nm == NM) = false := beq_eq_false_iff_ne.2 e1'
        clear HX
        go_wp2_with (refine ldV C0.out rfl (by rfl) (by rfl) (by rfl) ?_; intro K2 hK2; go_simp)
        go_roundw
        case rel => exact ⟨k + 1, _, by omega, rfl, by go_num, HRR, B1⟩
        case measure => simp [intOf]; omega
    · have HR2 : Hid (RowO w.heap.size wo sv9 (onG NM last L L.length)) := Lib.hid (by rw [show L.length = k by rw [HN.out]; omega]; exact HR.out)
      have hl9 : (onG NM last L L.length).length ≤ 1000000000 := by have := HLN.out L.length (Nat.le_refl _); have := HN.out; omega
      go_wp2_with fail
      refine (srt_to w.heap.size sv9 _ _ HR2.out hl9).mono ?_
      rintro e2 w2 ⟨rfl, hr, hb2⟩
      have HB3 := Lib.hid (HB.out.trans hb2)
      have HR3 := Lib.hid hr
      clear hb2 hr
      go_wp2
      go_ret2
      exact ⟨_, rfl, HR3.out, HB3.out⟩
/-- Of whatever rules. -/
theorem of_to (v : Value) (NM : List UInt8) (last : Int) (L : List RV) (e : Int) (K : List OV) (w : World) (hA : Civ.Ahead w) (hv : RulV w v L) (hsm : Hid (∀ r ∈ L, r.nm.length ≤ 1000000 ∧ r.lt.length ≤ 1000000)) (hlen : L.length ≤ 1000000000) (hE : Hid (ofE last L = e)) (hK : Hid (ofO NM last L = K)) :
    Calls Tryd.prog 8 #[v, .string ⟨NM.toArray⟩, .int .i64 last] w fun x w' => ∃ lv, x = .returned (.tuple #[lv, .int .i64 e]) ∧ RowO w.heap.size w' lv K ∧ Below w.heap.size w w' := by
  have hE' := hE.out
  have hK' := hK.out
  rw [ofO, hE'] at hK'
  by_cases he : e = 0
  · subst he
    rw [if_pos rfl] at hK'
    subst hK'
    obtain ⟨h1, h2, h3⟩ := ofE_0 hE'
    by_cases h0 : L.length = 0
    · obtain ⟨a, c, rfl⟩ := hv.slice
      have : L = [] := List.eq_nil_of_length_eq_zero h0
      subst this
      have hs : onS NM last [] = [] := List.eq_nil_of_length_eq_zero (by rw [onS, sortO_len]; rfl)
      rw [hs]
      exact of_nil a c NM last w hv h2 h3
    · have hv2 := hv
      obtain ⟨b, off, c, rfl, hb, hp⟩ := RowV.form hv (by omega)
      exact of_row b off c NM last L w hA hb (Lib.hid hp) hv2 (okE_0 h1).1 hsm (Lib.hid h1) h2 h3
  · rw [if_neg he] at hK'
    subst hK'
    obtain ⟨a, c, rfl⟩ := hv.slice
    by_cases h1 : okE L = 0
    · rw [ofE, if_pos h1] at hE'
      by_cases h2 : 1 ≤ last ∧ last ≤ 9999
      · rw [if_pos h2] at hE'; exact absurd hE'.symm he
      · rw [if_neg h2] at hE'
        subst hE'
        exact (of_year a _ c NM last L w hv hsm hlen (Lib.hid h1) h2).mono fun _ _ ⟨he, hb⟩ => ⟨_, he, RowO.nil _ _, hb⟩
    · rw [ofE, if_neg h1] at hE'
      exact (of_bad a _ c NM last L e w hv hsm hlen (Lib.hid hE') he).mono fun _ _ ⟨he, hb⟩ => ⟨_, he, RowO.nil _ _, hb⟩
end Ons
end Go.Proofs.YthefgagmjamdkaaDoor
