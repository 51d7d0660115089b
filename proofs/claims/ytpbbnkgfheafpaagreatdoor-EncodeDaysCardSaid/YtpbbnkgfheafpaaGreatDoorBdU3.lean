/-
  Several texts in one (RruH, RruI, RruJ).
-/
import Derived.Test.YtpbbnkgfheafpaaGreatDoorBdU1
import Derived.Test.YtpbbnkgfheafpaaGreatDoorRruE
import Derived.Test.YtpbbnkgfheafpaaGreatDoorBdCl
import Derived.Test.YtpbbnkgfheafpaaGreatDoorBdU2
import Derived.Test.YtpbbnkgfheafpaaGreatDoorBdFd
/-
  Package rrule: times.
-/
namespace Go.Proofs.YtpbbnkgfheafpaaGreatDoor
open Go.RowKit
namespace Rru
open Rcv (CV IntV DayV LisV)
open Ap (RowI Grew)
open Cel
/-- A period's times, of its bases and the seconds behind each. -/
def tiF (bs sc : List Int) (k : Int) : Int := bs.getD (k.toNat / sc.length) 0 + sc.getD (k.toNat % sc.length) 0
def tiL (x : CV) (bs sc : List Int) : List Int := if x.sp = [] then bs.flatMap fun b => sc.map (b + ·) else (plL x.sp ((bs.length * sc.length : Nat) : Int)).map (tiF bs sc)
theorem cs_grown {g : Nat} {w w' : World} {vs : List Value} (h : Cs g w vs) (k : w.grownBy w' none) : Cs g w' vs :=
  ⟨Nat.lt_of_lt_of_le h.1 k.size, fun i x hi => ⟨(World.cell?_of_block (a := ⟨g, i, none⟩) (k.block g h.1 (by simp))).trans (h.2 i x hi).1, (World.frozen?_of_block (a := ⟨g, i, none⟩) (k.block g h.1 (by simp))).trans (h.2 i x hi).2⟩⟩
theorem count_w {a b q : Nat} (h : a * b = q) (hq : q ≤ 100000000) : IntKind.i64.wrap ((a : Int) * (b : Int)) = (q : Int) := by
  rw [← Int.natCast_mul, h]
  exact IntWalk.i64_in _ (by omega)
set_option maxHeartbeats 12800000 in
set_option maxRecDepth 100000 in
theorem times_no (x : CV) (s6 s7 s8 s9 s10 s11 s12 s13 s14 : Value) (st : Int) (sb so ns sc nb q : Nat) (bv : Value) (bs sl : List Int) (w : World) (L : Hid (LisV w x s6 s7 s8 s9 s10 s11 s12 s13 s14)) (h0 : x.sp = []) (hv : IntV w bv bs) (hnb : bs.length = nb) (hns : sl.length = ns) (hs : ∀ (j : Nat) (hj : j < sl.length), w.cell? ⟨sb, so + j, none⟩ = some (.int .i64 sl[j])) (hsb : sb < w.heap.size) (hp : 0 < ns)
    (hq : nb * ns = q) (hq2 : q ≤ 50000000) (m1 : nb ≤ 1000000) (m2 : ns ≤ 1000000) (e1 : ∀ n ∈ bs, -1000000000000 ≤ n ∧ n ≤ 1000000000000) (e2 : ∀ n ∈ sl, 0 ≤ n ∧ n ≤ 1000000) :
    Calls Tryz.prog 33 #[.agg #[.int .i64 x.fq, .int .i64 x.iv, .int .i64 x.ct, .bool x.un, .int .i64 x.ua, .bool x.ut, s6, s7, s8, s9, s10, s11, s12, s13, s14, .int .i64 x.wk, .int .i64 st, .slice (some ⟨sb, so, none⟩) ns sc], bv] w fun e w' => ∃ lv, e = .returned lv ∧ RowI w.heap.size w' lv (bs.flatMap fun b => sl.map (b + ·)) ∧ Below w.heap.size w w' := by
  obtain ⟨ba, bc, rfl⟩ := hv.slice
  have V := Lib.hid hv
  have K3 := Lib.hid hs
  have E1 := Lib.hid e1
  have E2 := Lib.hid e2
  have NB := Lib.hid hnb
  have NS := Lib.hid hns
  have NZ := Lib.hid (show bs = [] ∨ ∃ b o, ba = some ⟨b, o, none⟩ ∧ b < w.heap.size ∧ ∀ (j : Nat) (hj : j < bs.length), w.cell? ⟨b, o + j, none⟩ = some (.int .i64 bs[j]) from by
    by_cases h : bs = []
    · exact Or.inl h
    · obtain ⟨b, o, c, e, hb, k⟩ := hv.form (Nat.pos_of_ne_zero (mt List.length_eq_zero_iff.1 h))
      injection e with e _ _
      exact Or.inr ⟨b, o, e, hb, k⟩)
  have cw := count_w hq (by omega)
  have z14 : x.sp.length = 0 := by rw [h0]; rfl
  obtain ⟨a14, c14, rfl⟩ := L.out.h14.slice
  rw [z14]
  rw [hnb] at V ⊢
  have HQ := Lib.hid hq
  clear hv hs e1 e2 hnb hns L h0 z14 hq
  obtain ⟨i0, hi0, hz0, hz1, hz2⟩ := info_parts Ap.infoI
  go_enter Tryz.func33, Tryz.ntmps33
  go_upto_region 0 with fail
  go_cut [2] (fun p wz => p = .pointer (some ⟨w.heap.size, 0, none⟩) ∧ Hid (Cs w.heap.size wz [.int .i64 x.fq, .int .i64 x.iv, .int .i64 x.ct, .bool x.un, .int .i64 x.ua, .bool x.ut, s6, s7, s8, s9, s10, s11, s12, s13, .slice a14 0 c14, .int .i64 x.wk, .int .i64 st, .slice (some ⟨sb, so, none⟩) ns sc]) ∧ Hid (Below w.heap.size w wz))
  case first =>
    go_wp2
    go_meet
    exact ⟨rfl, Lib.hid (Cs.new w _ _), Lib.hid ((Below.refl _ _).alloc (Nat.le_refl _) _)⟩
  case rest =>
  obtain ⟨w1, rfl⟩ : ∃ x : World, x = wc := ⟨_, rfl⟩
  obtain ⟨rfl, RB, B⟩ := hcut
  go_upto_region 1 with fail
  go_cut [5] (fun v wz => v = .int .i64 (q : Int) ∧ Hid (Cs w.heap.size wz [.int .i64 x.fq, .int .i64 x.iv, .int .i64 x.ct, .bool x.un, .int .i64 x.ua, .bool x.ut, s6, s7, s8, s9, s10, s11, s12, s13, .slice a14 0 c14, .int .i64 x.wk, .int .i64 st, .slice (some ⟨sb, so, none⟩) ns sc]) ∧ Hid (Below w.heap.size w wz))
  case first =>
    have l17 := (RB.out.2 17 _ rfl).1
    clear NZ V
    go_wp2
    go_meet
    exact ⟨by first | rfl | rw [cw], RB, B⟩
  case rest =>
  obtain ⟨w2, rfl⟩ : ∃ x : World, x = wc := ⟨_, rfl⟩
  clear RB B cw
  obtain ⟨rfl, RB, B⟩ := hcut
  have l14 := (RB.out.2 14 _ rfl).1
  go_upto_region 10 with fail
  go_cut [9] (fun l wz => Hid (some w.heap.size ≠ l.ownBlock) ∧ Hid (RowI w.heap.size wz l []) ∧ Hid (Cs w.heap.size wz [.int .i64 x.fq, .int .i64 x.iv, .int .i64 x.ct, .bool x.un, .int .i64 x.ua, .bool x.ut, s6, s7, s8, s9, s10, s11, s12, s13, .slice a14 0 c14, .int .i64 x.wk, .int .i64 st, .slice (some ⟨sb, so, none⟩) ns sc]) ∧ Hid (Below w.heap.size w wz))
  case first =>
    have hsz := B.out.size
    clear NZ V
    go_wp2_with (at_make; refine wpList_make_own _ rfl _ _ 26 rfl w.heap.size 3 i0 (.int .i64 0) 1 (by kernel_rfl) hi0 hz0 hz1 .i64 .i64 _ q rfl rfl (by first | rfl | omega | simp) (by rw [hz2]; omega) (by unfold maxLen; omega) hsz ?_)
    intro w3 r1 g1
    have B3 := Lib.hid (B.out.grown g1 hsz (by intro k hk; cases hk))
    have R3 := Lib.hid r1
    have RB3 := Lib.hid (cs_grown RB.out g1)
    have HNX : Hid (some w.heap.size ≠ (Value.slice (some ⟨w2.heap.size, 0, none⟩) 0 q).ownBlock) := Lib.hid (by
      intro e
      have e2 : w.heap.size = w2.heap.size := by simpa [Value.ownBlock] using e
      have := RB.out.1; omega)
    clear r1 g1
    go_wp2
    go_meet
    exact ⟨HNX, R3, RB3, B3⟩
  case rest =>
  obtain ⟨w3, rfl⟩ : ∃ x : World, x = wc := ⟨_, rfl⟩
  clear RB B l14
  obtain ⟨HNE0, HR, RB, B⟩ := hcut
  clear hz2 hz1 hz0 hi0 i0
  go_wp2_with fail
  go_loopw [9, 64] (fun l iv wr => ∃ (k : Nat) (lv : Value) (A : List Int), k ≤ nb ∧ lv = l ∧ iv = .int .i64 k ∧ Hid (A = (bs.take k).flatMap fun b => sl.map (b + ·)) ∧ Hid (A.length ≤ k * ns) ∧ Hid (RowI w.heap.size wr lv A) ∧ Hid (Cs w.heap.size wr [.int .i64 x.fq, .int .i64 x.iv, .int .i64 x.ct, .bool x.un, .int .i64 x.ua, .bool x.ut, s6, s7, s8, s9, s10, s11, s12, s13, .slice a14 0 c14, .int .i64 x.wk, .int .i64 st, .slice (some ⟨sb, so, none⟩) ns sc]) ∧ Hid (Below w.heap.size w wr) ∧ Hid (some w.heap.size ≠ lv.ownBlock)) (fun _ iv _ => nb - (intOf iv).toNat)
  case atStart => exact ⟨0, _, [], Nat.zero_le _, rfl, rfl, Lib.hid (by simp), Lib.hid (by simp), HR, RB, B, HNE0⟩
  case round =>
    clear HR RB B
    obtain ⟨k, lv, A, hk, rfl, rfl, HA, HAL, HR, RB, B, HNE⟩ := hrel
    obtain ⟨wo, rfl⟩ : ∃ wo : World, wo = wr := ⟨_, rfl⟩
    by_cases hlt : k < nb
    · have k1L : k < bs.length := by rw [NB.out]; exact hlt
      obtain ⟨b1, o1, hba, hb1, kc⟩ : ∃ b o, ba = some ⟨b, o, none⟩ ∧ b < w.heap.size ∧ ∀ (j : Nat) (hj : j < bs.length), w.cell? ⟨b, o + j, none⟩ = some (.int .i64 bs[j]) := by
        rcases NZ.out with h | h
        · rw [h] at k1L; exact absurd k1L (by simp)
        · exact h
      subst hba
      have g1 := (B.out.cell (p := ⟨b1, o1 + k, Option.none⟩) hb1).trans (kc k k1L)
      obtain ⟨H, hH⟩ : ∃ y, bs[k]'k1L = y := ⟨_, rfl⟩
      have eH := E1.out _ (List.getElem_mem k1L)
      have HA1 : Hid ((bs.take (k + 1)).flatMap (fun b => sl.map (b + ·)) = A ++ sl.map (H + ·)) := Lib.hid (by rw [take_flat k1L, HA.out, hH])
      rw [hH] at g1 eH
      have EH := Lib.hid eH
      have r1 : b1 < wo.heap.size := Nat.lt_of_lt_of_le hb1 B.out.size
      have l17 := (RB.out.2 17 _ rfl).1
      clear hH eH HA k1L kc
      go_wp2_with fail
      clear g1 r1 l17
      go_loopw [9, 71] (fun l iv wr => ∃ (j : Nat) (lv2 : Value) (A2 : List Int), j ≤ ns ∧ lv2 = l ∧ iv = .int .i64 j ∧ Hid (A2 = A ++ (sl.take j).map (H + ·)) ∧ Hid (RowI w.heap.size wr lv2 A2) ∧ Hid (Cs w.heap.size wr [.int .i64 x.fq, .int .i64 x.iv, .int .i64 x.ct, .bool x.un, .int .i64 x.ua, .bool x.ut, s6, s7, s8, s9, s10, s11, s12, s13, .slice a14 0 c14, .int .i64 x.wk, .int .i64 st, .slice (some ⟨sb, so, none⟩) ns sc]) ∧ Hid (Below w.heap.size w wr) ∧ Hid (some w.heap.size ≠ lv2.ownBlock)) (fun _ iv _ => ns - (intOf iv).toNat)
      case atStart => exact ⟨0, lv, A, Nat.zero_le _, rfl, rfl, Lib.hid (by simp), HR, RB, B, HNE⟩
      case round =>
        clear HR RB B HNE
        obtain ⟨j, lv2, A2, hj, rfl, rfl, HA2, HR, RB, B, HNE⟩ := hrel
        obtain ⟨wp, rfl⟩ : ∃ wo : World, wo = wr := ⟨_, rfl⟩
        by_cases hlt2 : j < ns
        · have k2L : j < sl.length := by rw [NS.out]; exact hlt2
          have g2 := (B.out.cell (p := ⟨sb, so + j, Option.none⟩) hsb).trans (K3.out j k2L)
          obtain ⟨M, hM⟩ : ∃ y, sl[j]'k2L = y := ⟨_, rfl⟩
          have eM := E2.out _ (List.getElem_mem k2L)
          have HB1 : Hid (A ++ (sl.take (j + 1)).map (H + ·) = A2 ++ [H + M]) := Lib.hid (by rw [take_map k2L, HA2.out, hM, List.append_assoc])
          rw [hM] at g2 eM
          obtain ⟨eM1, eM2⟩ := eM
          obtain ⟨eH1, eH2⟩ := EH.out
          have r2 : sb < wp.heap.size := Nat.lt_of_lt_of_le hsb B.out.size
          have hl : A2.length ≤ 100000000 := by
            have h1 := HAL.out
            have h2 : A2.length = A.length + j := by rw [HA2.out, List.length_append, List.length_map, List.length_take]; have := NS.out; omega
            have h3 : k * ns ≤ nb * ns := Nat.mul_le_mul_right _ hk
            have h4 := HQ.out
            have h5 : j ≤ nb * ns := Nat.le_trans hj (by have : 1 * ns ≤ nb * ns := Nat.mul_le_mul_right _ (by omega); omega)
            omega
          have hsz := B.out.size
          have hg0 := RB.out.1
          have r3 : IntKind.i64.wrap (H + M) = H + M := IntWalk.i64_in _ (by omega)
          obtain ⟨lA, lc, rfl⟩ := HR.out.forms
          clear hM k2L HA2
          go_wp2_with (at_builtin; refine appIH rfl _ _ rfl w.heap.size _ A2 rfl HR.out (H + M) rfl hl hsz ?_)
          intro wn gg gcap r5 g5 hat
          have RB2 := Lib.hid (Cs.grew RB.out g5 HNE.out)
          have B2 := Lib.hid (g5.below w.heap.size w (Nat.le_refl _) B.out hsz)
          have R5 := Lib.hid r5
          have HN2 : Hid (some w.heap.size ≠ (Value.slice (some ⟨gg, 0, none⟩) (A2.length + 1) gcap).ownBlock) := Lib.hid (by
            rcases hat with h | h
            · intro e
              exact HNE.out (e.trans h.symm)
            · intro e
              have e2 : w.heap.size = gg := by simpa [Value.ownBlock] using e
              omega)
          clear g5 r5 hat HR RB B HNE g2 r2 hg0
          go_wp2
          go_roundw
          case rel => exact ⟨j + 1, _, _, by omega, rfl, by go_num, Lib.hid HB1.out.symm, R5, RB2, B2, HN2⟩
          case measure => simp [intOf]; omega
        · obtain rfl : j = ns := by omega
          have HE : Hid (A2 = (bs.take (k + 1)).flatMap (fun b => sl.map (b + ·))) := Lib.hid (by rw [HA1.out, HA2.out, ← NS.out, List.take_length])
          have HF : Hid (A2.length ≤ (k + 1) * j) := Lib.hid (by
            have h1 := HAL.out
            have h2 : A2.length = A.length + j := by rw [HA2.out, List.length_append, List.length_map, List.length_take]; have := NS.out; omega
            rw [Nat.succ_mul]; omega)
          clear HA2 HA1
          go_wp2
          go_roundw
          case rel => exact ⟨k + 1, _, _, by omega, rfl, by go_num, HE, HF, HR, RB, B, HNE⟩
          case measure => simp [intOf]; omega
    · obtain rfl : k = nb := by omega
      have HE : Hid (A = bs.flatMap (fun b => sl.map (b + ·))) := Lib.hid (by rw [HA.out, ← NB.out, List.take_length])
      clear HA HAL
      go_wp2
      go_ret
      exact ⟨_, rfl, by rw [← HE.out]; exact HR.out, B.out⟩
theorem own_drew {w : World} {B : Nat} {e : TypeId} {v : Value} {n : Nat} {xs : List Value} {a : Addr} {u : Value} (h : (w.setCell a u).ownsRow B e 1 v n xs) : (w.drew.setCell a u).ownsRow B e 1 v n xs := h
theorem set_mix {P : List Int} {F : Int → Int} {i : Nat} (hi : i < P.length) : ((P.take i).map F ++ P.drop i).set i (F P[i]) = (P.take (i + 1)).map F ++ P.drop (i + 1) := by
  have hl : ((P.take i).map F).length = i := by rw [List.length_map, List.length_take]; omega
  rw [List.set_append, if_neg (by omega), hl, Nat.sub_self, List.take_succ_eq_append_getElem hi, List.map_append, List.drop_eq_getElem_cons hi, List.set_cons_zero, List.append_assoc]
  rfl
theorem mix_len {P : List Int} {F : Int → Int} {i : Nat} (hi : i ≤ P.length) : ((P.take i).map F ++ P.drop i).length = P.length := by
  rw [List.length_append, List.length_map, List.length_take, List.length_drop]; omega
theorem mix_at {P : List Int} {F : Int → Int} {i : Nat} (hi : i < P.length) : ((P.take i).map F ++ P.drop i)[i]? = some P[i] := by
  have hl : ((P.take i).map F).length = i := by rw [List.length_map, List.length_take]; omega
  rw [List.getElem?_append_right (by omega), hl, Nat.sub_self, List.getElem?_drop, Nat.add_zero, List.getElem?_eq_getElem hi]
theorem compact_sub (L : List Int) : ∀ k ∈ Lib.compact L, k ∈ L := fun k hk => by
  rw [Lib.compact, Lib.compactUpTo] at hk
  obtain ⟨j, hj, rfl⟩ := List.mem_map.1 hk
  have h1 := List.mem_range.1 (List.mem_filter.1 hj).1
  have e : L.toArray[j]! = L[j] := by simp [h1]
  rw [e]
  exact List.getElem_mem h1
theorem pl_mem {N : List Int} {c k : Int} (h : k ∈ plL N c) : 0 ≤ k ∧ k < c := by
  have h1 := compact_sub _ _ h
  rw [srt, List.mem_mergeSort, plK] at h1
  exact of_decide_eq_true (List.mem_filter.1 h1).2
theorem pl_len (N : List Int) (c : Int) : (plL N c).length ≤ N.length := by
  rw [plL]
  refine Nat.le_trans (Lib.compact_length_le _) ?_
  rw [srt_len]
  exact plK_len N c
set_option maxHeartbeats 25600000 in
set_option maxRecDepth 100000 in
theorem times_sp (x : CV) (s6 s7 s8 s9 s10 s11 s12 s13 s14 : Value) (st : Int) (sb so ns sc nb q : Nat) (bv : Value) (bs sl : List Int) (w : World) (L : Hid (LisV w x s6 s7 s8 s9 s10 s11 s12 s13 s14)) (h0 : x.sp ≠ []) (hsp : x.sp.length ≤ 1000000) (hspb : ∀ n ∈ x.sp, -1000 ≤ n ∧ n ≤ 1000) (hv : IntV w bv bs) (hnb : bs.length = nb) (hns : sl.length = ns) (hs : ∀ (j : Nat) (hj : j < sl.length), w.cell? ⟨sb, so + j, none⟩ = some (.int .i64 sl[j])) (hsb : sb < w.heap.size) (hp : 0 < ns)
    (hq : nb * ns = q) (hq2 : q ≤ 50000000) (m1 : nb ≤ 1000000) (m2 : ns ≤ 1000000) (e1 : ∀ n ∈ bs, -1000000000000 ≤ n ∧ n ≤ 1000000000000) (e2 : ∀ n ∈ sl, 0 ≤ n ∧ n ≤ 1000000) :
    Calls Tryz.prog 33 #[.agg #[.int .i64 x.fq, .int .i64 x.iv, .int .i64 x.ct, .bool x.un, .int .i64 x.ua, .bool x.ut, s6, s7, s8, s9, s10, s11, s12, s13, s14, .int .i64 x.wk, .int .i64 st, .slice (some ⟨sb, so, none⟩) ns sc], bv] w fun e w' => ∃ lv, e = .returned lv ∧ RowI w.heap.size w' lv ((plL x.sp (q : Int)).map (tiF bs sl)) ∧ Below w.heap.size w w' := by
  obtain ⟨ba, bc, rfl⟩ := hv.slice
  have K3 := Lib.hid hs
  have E1 := Lib.hid e1
  have E2 := Lib.hid e2
  have NB := Lib.hid hnb
  have NS := Lib.hid hns
  have NZ := Lib.hid (show bs = [] ∨ ∃ b o, ba = some ⟨b, o, none⟩ ∧ b < w.heap.size ∧ ∀ (j : Nat) (hj : j < bs.length), w.cell? ⟨b, o + j, none⟩ = some (.int .i64 bs[j]) from by
    by_cases h : bs = []
    · exact Or.inl h
    · obtain ⟨b, o, c, e, hb, k⟩ := hv.form (Nat.pos_of_ne_zero (mt List.length_eq_zero_iff.1 h))
      injection e with e _ _
      exact Or.inr ⟨b, o, e, hb, k⟩)
  have cw := count_w hq (by omega)
  have z14 := len_pos h0
  obtain ⟨a14, c14, rfl⟩ := L.out.h14.slice
  obtain ⟨n14, hn14⟩ : ∃ n, x.sp.length = n := ⟨_, rfl⟩
  have PLC := Lib.hid (fun W (hW : Below w.heap.size w W) => pl_to (.slice a14 x.sp.length c14) x.sp (q : Int) W (L.out.below hW).h14 hsp hspb (by omega) (by omega))
  have PN : Hid (x.sp.length = n14) := Lib.hid hn14
  rw [hn14] at z14 PLC ⊢
  rw [hnb]
  have z14n := Int.ofNat_lt.1 z14
  have z14d := decide_eq_true z14n
  have HQ := Lib.hid hq
  obtain ⟨P, hP⟩ : ∃ l, plL x.sp (q : Int) = l := ⟨_, rfl⟩
  have PM := Lib.hid (show ∀ k ∈ P, 0 ≤ k ∧ k < (q : Int) from fun k hk => pl_mem (hP ▸ hk))
  have PLN := Lib.hid (show P.length ≤ 1000000 from by rw [← hP]; exact Nat.le_trans (pl_len _ _) hsp)
  rw [hP] at PLC ⊢
  clear hv hs e1 e2 hns L h0 hq hn14 hsp hspb hP hnb
  go_enter Tryz.func33, Tryz.ntmps33
  go_upto_region 0 with fail
  go_cut [2] (fun p wz => p = .pointer (some ⟨w.heap.size, 0, none⟩) ∧ Hid (Cs w.heap.size wz [.int .i64 x.fq, .int .i64 x.iv, .int .i64 x.ct, .bool x.un, .int .i64 x.ua, .bool x.ut, s6, s7, s8, s9, s10, s11, s12, s13, .slice a14 n14 c14, .int .i64 x.wk, .int .i64 st, .slice (some ⟨sb, so, none⟩) ns sc]) ∧ Hid (Below w.heap.size w wz))
  case first =>
    go_wp2
    go_meet
    exact ⟨rfl, Lib.hid (Cs.new w _ _), Lib.hid ((Below.refl _ _).alloc (Nat.le_refl _) _)⟩
  case rest =>
  obtain ⟨w1, rfl⟩ : ∃ x : World, x = wc := ⟨_, rfl⟩
  obtain ⟨rfl, RB, B⟩ := hcut
  go_upto_region 1 with fail
  go_cut [5] (fun v wz => v = .int .i64 (q : Int) ∧ Hid (Cs w.heap.size wz [.int .i64 x.fq, .int .i64 x.iv, .int .i64 x.ct, .bool x.un, .int .i64 x.ua, .bool x.ut, s6, s7, s8, s9, s10, s11, s12, s13, .slice a14 n14 c14, .int .i64 x.wk, .int .i64 st, .slice (some ⟨sb, so, none⟩) ns sc]) ∧ Hid (Below w.heap.size w wz))
  case first =>
    have l17 := (RB.out.2 17 _ rfl).1
    clear NZ
    go_wp2
    go_meet
    exact ⟨by first | rfl | rw [cw], RB, B⟩
  case rest =>
  obtain ⟨w2, rfl⟩ : ∃ x : World, x = wc := ⟨_, rfl⟩
  clear RB B cw
  obtain ⟨rfl, RB, B⟩ := hcut
  have l14 := (RB.out.2 14 _ rfl).1
  go_upto_region 3 with fail
  go_cut [6] (fun l wz => Hid (some w.heap.size ≠ l.ownBlock) ∧ Hid (RowI w.heap.size wz l P) ∧ Hid (Cs w.heap.size wz [.int .i64 x.fq, .int .i64 x.iv, .int .i64 x.ct, .bool x.un, .int .i64 x.ua, .bool x.ut, s6, s7, s8, s9, s10, s11, s12, s13, .slice a14 n14 c14, .int .i64 x.wk, .int .i64 st, .slice (some ⟨sb, so, none⟩) ns sc]) ∧ Hid (Below w.heap.size w wz))
  case first =>
    clear NZ
    go_wp2_with fail
    refine (PLC.out _ B.out).mono ?_
    rintro e w3 ⟨v3, rfl, R3, k3⟩
    have HN : Hid (some w.heap.size ≠ v3.ownBlock) := Lib.hid (by
      intro e
      have := (World.ownsRow.lt R3 _ e.symm).1
      have := RB.out.1; omega)
    have RB := Lib.hid (RB.out.below k3)
    have R3 := Lib.hid (own_less2 R3 B.out.size)
    have B := Lib.hid (bstep B.out k3)
    clear k3 PLC
    go_wp2
    go_meet
    exact ⟨HN, R3, RB, B⟩
  case rest =>
  obtain ⟨w3, rfl⟩ : ∃ x : World, x = wc := ⟨_, rfl⟩
  clear RB B l14 PLC
  obtain ⟨HNE, HR, RB, B⟩ := hcut
  obtain ⟨m, hm⟩ : ∃ m, P.length = m := ⟨_, rfl⟩
  have HM := Lib.hid hm
  have m6 : m ≤ 1000000 := by rw [← hm]; exact PLN.out
  obtain ⟨pa, pc, hpv⟩ := HR.out.forms
  subst hpv
  rw [hm] at HR HNE ⊢
  clear hm PLN
  go_wp2_with fail
  go_loopw [32] (fun iv wr => ∃ (i : Nat), i ≤ m ∧ iv = .int .i64 i ∧ Hid (RowI w.heap.size wr (.slice pa m pc) ((P.take i).map (tiF bs sl) ++ P.drop i)) ∧ Hid (Cs w.heap.size wr [.int .i64 x.fq, .int .i64 x.iv, .int .i64 x.ct, .bool x.un, .int .i64 x.ua, .bool x.ut, s6, s7, s8, s9, s10, s11, s12, s13, .slice a14 n14 c14, .int .i64 x.wk, .int .i64 st, .slice (some ⟨sb, so, none⟩) ns sc]) ∧ Hid (Below w.heap.size w wr)) (fun iv _ => m - (intOf iv).toNat)
  case atStart => exact ⟨0, Nat.zero_le _, rfl, Lib.hid (by simpa using HR.out), RB, B⟩
  case round =>
    clear HR RB B
    obtain ⟨i, hi, rfl, HR, RB, B⟩ := hrel
    obtain ⟨wo, rfl⟩ : ∃ wo : World, wo = wr := ⟨_, rfl⟩
    by_cases hlt : i < m
    · have k1L : i < P.length := by rw [HM.out]; exact hlt
      have hml : ((P.take i).map (tiF bs sl) ++ P.drop i).length = m := by rw [mix_len (Nat.le_of_lt k1L), HM.out]
      obtain ⟨pg, pc2, hpf, hpb, hpg, hpc, hpz⟩ := HR.out.form (by rw [hml]; omega)
      rw [hml] at hpf
      injection hpf with hpf _ hpc2
      subst hpf hpc2
      have gi := hpc i (by rw [hml]; exact hlt)
      have e2i := mix_at (F := tiF bs sl) k1L
      rw [List.getElem?_eq_getElem (by rw [hml]; exact hlt)] at e2i
      injection e2i with e2i
      rw [e2i] at gi
      have pm := PM.out _ (List.getElem_mem k1L)
      obtain ⟨kk, hkk⟩ : ∃ n : Nat, P[i]'k1L = (n : Int) := ⟨(P[i]'k1L).toNat, by omega⟩
      have HSET := Lib.hid (set_mix (F := tiF bs sl) k1L)
      rw [hkk] at gi pm HSET
      have kq : kk < nb * ns := by rw [HQ.out]; omega
      obtain ⟨Qn, hQn⟩ : ∃ n, kk / ns = n := ⟨_, rfl⟩
      obtain ⟨Rn, hRn⟩ : ∃ n, kk % ns = n := ⟨_, rfl⟩
      have q1 : Qn < nb := by rw [← hQn]; exact Nat.div_lt_of_lt_mul (by rw [Nat.mul_comm]; exact kq)
      have q2 : Rn < ns := by rw [← hRn]; exact Nat.mod_lt _ hp
      have k1b : Qn < bs.length := by rw [NB.out]; exact q1
      have k2b : Rn < sl.length := by rw [NS.out]; exact q2
      obtain ⟨b1, o1, hba, hb1, kc⟩ : ∃ b o, ba = some ⟨b, o, none⟩ ∧ b < w.heap.size ∧ ∀ (j : Nat) (hj : j < bs.length), w.cell? ⟨b, o + j, none⟩ = some (.int .i64 bs[j]) := by
        rcases NZ.out with h | h
        · rw [h] at k1b; exact absurd k1b (by simp)
        · exact h
      subst hba
      have g1 := (B.out.cell (p := ⟨b1, o1 + Qn, Option.none⟩) hb1).trans (kc Qn k1b)
      have g2 := (B.out.cell (p := ⟨sb, so + Rn, Option.none⟩) hsb).trans (K3.out Rn k2b)
      obtain ⟨BV, hBV⟩ : ∃ y, bs[Qn]'k1b = y := ⟨_, rfl⟩
      obtain ⟨SVV, hSV⟩ : ∃ y, sl[Rn]'k2b = y := ⟨_, rfl⟩
      have eB := E1.out _ (List.getElem_mem k1b)
      have eS := E2.out _ (List.getElem_mem k2b)
      have HF : Hid (tiF bs sl (kk : Int) = BV + SVV) := Lib.hid (by
        rw [tiF, Int.toNat_natCast, NS.out, hQn, hRn, List.getD_eq_getElem?_getD, List.getD_eq_getElem?_getD, List.getElem?_eq_getElem k1b, List.getElem?_eq_getElem k2b, hBV, hSV]
        rfl)
      rw [hBV] at g1 eB
      rw [hSV] at g2 eS
      have t1 : ((kk : Nat) : Int).tdiv (ns : Int) = (Qn : Int) := by rw [← hQn]; rfl
      have t2 : ((kk : Nat) : Int).tmod (ns : Int) = (Rn : Int) := by rw [← hRn]; rfl
      obtain ⟨eB1, eB2⟩ := eB
      obtain ⟨eS1, eS2⟩ := eS
      have w4' : IntKind.i64.wrap (BV + SVV) = BV + SVV := IntWalk.i64_in _ (by omega)
      have q1i : (Qn : Int) < (nb : Int) := by omega
      have q2i : (Rn : Int) < (ns : Int) := by omega
      have ii : (i : Int) < (m : Int) := by omega
      have kb : (kk : Int) ≤ 50000000 := by have := HQ.out; omega
      have w5' : IntKind.i64.wrap (Qn : Int) = (Qn : Int) := IntWalk.i64_in _ (by omega)
      have w6' : IntKind.i64.wrap (Rn : Int) = (Rn : Int) := IntWalk.i64_in _ (by omega)
      have nsz : ¬ ((ns : Int) = 0) := by omega
      have nsn : ¬ ns = 0 := by omega
      have z17 := (RB.out.2 17 _ rfl).1
      have fz := hpz i
      have Sd : Hid (wo.drew.cell? ⟨w.heap.size, 17, Option.none⟩ = some (.slice (some ⟨sb, so, none⟩) ns sc) ∧ wo.drew.cell? ⟨b1, o1 + Qn, Option.none⟩ = some (.int .i64 BV) ∧ wo.drew.cell? ⟨sb, so + Rn, Option.none⟩ = some (.int .i64 SVV) ∧ wo.drew.cell? ⟨pg, i, Option.none⟩ = some (.int .i64 (kk : Int)) ∧ wo.drew.frozen? ⟨pg, i, Option.none⟩ = false) := Lib.hid ⟨z17, g1, g2, gi, fz⟩
      have HRQ : wo.ownsRow w.heap.size 3 1 (.slice (some ⟨pg, 0, none⟩) m pc) m (((P.take i).map (tiF bs sl) ++ P.drop i).map Ap.iv) := by
        have h := HR.out
        unfold RowI at h
        rw [hml] at h
        exact h
      have HRW := Lib.hid (World.ownsRow.stored HRQ i (.int .i64 (BV + SVV)))
      have hne : pg ≠ w.heap.size := fun e => HNE.out (by rw [e]; rfl)
      have HNG := Lib.hid hne
      have HPB := Lib.hid hpb
      have HML := Lib.hid hml
      clear HRQ hpc hpz e2i pm hkk kc hBV hSV hne hpb hml hQn hRn kq k1b k2b k1L hb1 hpg z17 g1 g2 fz
      go_upto_region 7 with fail
      refine Hr.Walk.region (R := fun up x => up.getD 21 false = false → x.cell? ⟨w.heap.size, 17, Option.none⟩ = some (.slice (some ⟨sb, so, none⟩) ns sc) ∧ x.cell? ⟨b1, o1 + Qn, Option.none⟩ = some (.int .i64 BV) ∧ x.cell? ⟨sb, so + Rn, Option.none⟩ = some (.int .i64 SVV) ∧ x.cell? ⟨pg, i, Option.none⟩ = some (.int .i64 (kk : Int)) ∧ x.frozen? ⟨pg, i, Option.none⟩ = false) (by kernel_rfl) ?_
      refine Hr.Walk.take (i := 0) (v := ?v0) (fun x => x.cell? ⟨w.heap.size, 17, Option.none⟩ = some (.slice (some ⟨sb, so, none⟩) ns sc) ∧ x.cell? ⟨b1, o1 + Qn, Option.none⟩ = some (.int .i64 BV) ∧ x.cell? ⟨sb, so + Rn, Option.none⟩ = some (.int .i64 SVV) ∧ x.cell? ⟨pg, i, Option.none⟩ = some (.int .i64 (kk : Int)) ∧ x.frozen? ⟨pg, i, Option.none⟩ = false) (fun up => up.getD 21 false = false) rfl (by kernel_rfl) (by kernel_rfl) (by kernel_rfl) (fun _ _ _ h => h) (Hr.keepI (s := 21) rfl (by kernel_rfl)) (fun _ _ hu hr => hr hu) (fun up y => Hr.keepR (s := 21) (i := 0) (S := fun x => x.cell? ⟨w.heap.size, 17, Option.none⟩ = some (.slice (some ⟨sb, so, none⟩) ns sc) ∧ x.cell? ⟨b1, o1 + Qn, Option.none⟩ = some (.int .i64 BV) ∧ x.cell? ⟨sb, so + Rn, Option.none⟩ = some (.int .i64 SVV) ∧ x.cell? ⟨pg, i, Option.none⟩ = some (.int .i64 (kk : Int)) ∧ x.frozen? ⟨pg, i, Option.none⟩ = false) (by decide) up y) rfl (Or.inl ⟨by rfl, ?hy0⟩) Sd.out (fun _ => Sd.out) ?rest0
      case hy0 => intro x hx; have e0 := hx.1; have e1 := hx.2.1; have e2 := hx.2.2.1; clear hx; go_simp; try with_reducible rfl
      refine Hr.Walk.take (i := 1) (v := ?v1) (fun x => x.cell? ⟨w.heap.size, 17, Option.none⟩ = some (.slice (some ⟨sb, so, none⟩) ns sc) ∧ x.cell? ⟨b1, o1 + Qn, Option.none⟩ = some (.int .i64 BV) ∧ x.cell? ⟨sb, so + Rn, Option.none⟩ = some (.int .i64 SVV) ∧ x.cell? ⟨pg, i, Option.none⟩ = some (.int .i64 (kk : Int)) ∧ x.frozen? ⟨pg, i, Option.none⟩ = false) (fun up => up.getD 21 false = false) rfl (by kernel_rfl) (by kernel_rfl) (by kernel_rfl) (fun _ _ _ h => h) (Hr.keepI (s := 21) rfl (by kernel_rfl)) (fun _ _ hu hr => hr hu) (fun up y => Hr.keepR (s := 21) (i := 1) (S := fun x => x.cell? ⟨w.heap.size, 17, Option.none⟩ = some (.slice (some ⟨sb, so, none⟩) ns sc) ∧ x.cell? ⟨b1, o1 + Qn, Option.none⟩ = some (.int .i64 BV) ∧ x.cell? ⟨sb, so + Rn, Option.none⟩ = some (.int .i64 SVV) ∧ x.cell? ⟨pg, i, Option.none⟩ = some (.int .i64 (kk : Int)) ∧ x.frozen? ⟨pg, i, Option.none⟩ = false) (by decide) up y) rfl (Or.inl ⟨by rfl, ?hy1⟩) Sd.out (fun _ => Sd.out) ?rest1
      case hy1 => intro x hx; have e0 := hx.1; have e1 := hx.2.1; have e2 := hx.2.2.1; clear hx; go_simp; try with_reducible rfl
      refine Hr.Walk.take (i := 2) (v := ?v2) (fun x => x.cell? ⟨w.heap.size, 17, Option.none⟩ = some (.slice (some ⟨sb, so, none⟩) ns sc) ∧ x.cell? ⟨b1, o1 + Qn, Option.none⟩ = some (.int .i64 BV) ∧ x.cell? ⟨sb, so + Rn, Option.none⟩ = some (.int .i64 SVV) ∧ x.cell? ⟨pg, i, Option.none⟩ = some (.int .i64 (kk : Int)) ∧ x.frozen? ⟨pg, i, Option.none⟩ = false) (fun up => up.getD 21 false = false) rfl (by kernel_rfl) (by kernel_rfl) (by kernel_rfl) (fun _ _ _ h => h) (Hr.keepI (s := 21) rfl (by kernel_rfl)) (fun _ _ hu hr => hr hu) (fun up y => Hr.keepR (s := 21) (i := 2) (S := fun x => x.cell? ⟨w.heap.size, 17, Option.none⟩ = some (.slice (some ⟨sb, so, none⟩) ns sc) ∧ x.cell? ⟨b1, o1 + Qn, Option.none⟩ = some (.int .i64 BV) ∧ x.cell? ⟨sb, so + Rn, Option.none⟩ = some (.int .i64 SVV) ∧ x.cell? ⟨pg, i, Option.none⟩ = some (.int .i64 (kk : Int)) ∧ x.frozen? ⟨pg, i, Option.none⟩ = false) (by decide) up y) rfl (Or.inl ⟨by rfl, ?hy2⟩) Sd.out (fun _ => Sd.out) ?rest2
      case hy2 => intro x hx; have e0 := hx.1; have e1 := hx.2.1; have e2 := hx.2.2.1; clear hx; go_simp; try with_reducible rfl
      refine Hr.Walk.take (i := 3) (v := ?v3) (fun x => x.cell? ⟨w.heap.size, 17, Option.none⟩ = some (.slice (some ⟨sb, so, none⟩) ns sc) ∧ x.cell? ⟨b1, o1 + Qn, Option.none⟩ = some (.int .i64 BV) ∧ x.cell? ⟨sb, so + Rn, Option.none⟩ = some (.int .i64 SVV) ∧ x.cell? ⟨pg, i, Option.none⟩ = some (.int .i64 (kk : Int)) ∧ x.frozen? ⟨pg, i, Option.none⟩ = false) (fun up => up.getD 21 false = false) rfl (by kernel_rfl) (by kernel_rfl) (by kernel_rfl) (fun _ _ _ h => h) (Hr.keepI (s := 21) rfl (by kernel_rfl)) (fun _ _ hu hr => hr hu) (fun up y => Hr.keepR (s := 21) (i := 3) (S := fun x => x.cell? ⟨w.heap.size, 17, Option.none⟩ = some (.slice (some ⟨sb, so, none⟩) ns sc) ∧ x.cell? ⟨b1, o1 + Qn, Option.none⟩ = some (.int .i64 BV) ∧ x.cell? ⟨sb, so + Rn, Option.none⟩ = some (.int .i64 SVV) ∧ x.cell? ⟨pg, i, Option.none⟩ = some (.int .i64 (kk : Int)) ∧ x.frozen? ⟨pg, i, Option.none⟩ = false) (by decide) up y) rfl (Or.inl ⟨by rfl, ?hy3⟩) Sd.out (fun _ => Sd.out) ?rest3
      case hy3 => intro x hx; have e0 := hx.1; have e1 := hx.2.1; have e2 := hx.2.2.1; clear hx; go_simp; try with_reducible rfl
      refine Hr.Walk.take (i := 4) (v := ?v4) (fun x => x.cell? ⟨w.heap.size, 17, Option.none⟩ = some (.slice (some ⟨sb, so, none⟩) ns sc) ∧ x.cell? ⟨b1, o1 + Qn, Option.none⟩ = some (.int .i64 BV) ∧ x.cell? ⟨sb, so + Rn, Option.none⟩ = some (.int .i64 SVV) ∧ x.cell? ⟨pg, i, Option.none⟩ = some (.int .i64 (kk : Int)) ∧ x.frozen? ⟨pg, i, Option.none⟩ = false) (fun up => up.getD 21 false = false) rfl (by kernel_rfl) (by kernel_rfl) (by kernel_rfl) (fun _ _ _ h => h) (Hr.keepI (s := 21) rfl (by kernel_rfl)) (fun _ _ hu hr => hr hu) (fun up y => Hr.keepR (s := 21) (i := 4) (S := fun x => x.cell? ⟨w.heap.size, 17, Option.none⟩ = some (.slice (some ⟨sb, so, none⟩) ns sc) ∧ x.cell? ⟨b1, o1 + Qn, Option.none⟩ = some (.int .i64 BV) ∧ x.cell? ⟨sb, so + Rn, Option.none⟩ = some (.int .i64 SVV) ∧ x.cell? ⟨pg, i, Option.none⟩ = some (.int .i64 (kk : Int)) ∧ x.frozen? ⟨pg, i, Option.none⟩ = false) (by decide) up y) rfl (Or.inl ⟨by rfl, ?hy4⟩) Sd.out (fun _ => Sd.out) ?rest4
      case hy4 => intro x hx; have e0 := hx.1; have e1 := hx.2.1; have e2 := hx.2.2.1; clear hx; go_simp; try with_reducible rfl
      refine Hr.Walk.take (i := 5) (v := ?v5) (fun x => x.cell? ⟨w.heap.size, 17, Option.none⟩ = some (.slice (some ⟨sb, so, none⟩) ns sc) ∧ x.cell? ⟨b1, o1 + Qn, Option.none⟩ = some (.int .i64 BV) ∧ x.cell? ⟨sb, so + Rn, Option.none⟩ = some (.int .i64 SVV) ∧ x.cell? ⟨pg, i, Option.none⟩ = some (.int .i64 (kk : Int)) ∧ x.frozen? ⟨pg, i, Option.none⟩ = false) (fun up => up.getD 21 false = false) rfl (by kernel_rfl) (by kernel_rfl) (by kernel_rfl) (fun _ _ _ h => h) (Hr.keepI (s := 21) rfl (by kernel_rfl)) (fun _ _ hu hr => hr hu) (fun up y => Hr.keepR (s := 21) (i := 5) (S := fun x => x.cell? ⟨w.heap.size, 17, Option.none⟩ = some (.slice (some ⟨sb, so, none⟩) ns sc) ∧ x.cell? ⟨b1, o1 + Qn, Option.none⟩ = some (.int .i64 BV) ∧ x.cell? ⟨sb, so + Rn, Option.none⟩ = some (.int .i64 SVV) ∧ x.cell? ⟨pg, i, Option.none⟩ = some (.int .i64 (kk : Int)) ∧ x.frozen? ⟨pg, i, Option.none⟩ = false) (by decide) up y) rfl (Or.inl ⟨by rfl, ?hy5⟩) Sd.out (fun _ => Sd.out) ?rest5
      case hy5 => intro x hx; have e0 := hx.1; have e1 := hx.2.1; have e2 := hx.2.2.1; clear hx; go_simp; try with_reducible rfl
      refine Hr.Walk.take (i := 6) (v := ?v6) (fun x => x.cell? ⟨w.heap.size, 17, Option.none⟩ = some (.slice (some ⟨sb, so, none⟩) ns sc) ∧ x.cell? ⟨b1, o1 + Qn, Option.none⟩ = some (.int .i64 BV) ∧ x.cell? ⟨sb, so + Rn, Option.none⟩ = some (.int .i64 SVV) ∧ x.cell? ⟨pg, i, Option.none⟩ = some (.int .i64 (kk : Int)) ∧ x.frozen? ⟨pg, i, Option.none⟩ = false) (fun up => up.getD 21 false = false) rfl (by kernel_rfl) (by kernel_rfl) (by kernel_rfl) (fun _ _ _ h => h) (Hr.keepI (s := 21) rfl (by kernel_rfl)) (fun _ _ hu hr => hr hu) (fun up y => Hr.keepR (s := 21) (i := 6) (S := fun x => x.cell? ⟨w.heap.size, 17, Option.none⟩ = some (.slice (some ⟨sb, so, none⟩) ns sc) ∧ x.cell? ⟨b1, o1 + Qn, Option.none⟩ = some (.int .i64 BV) ∧ x.cell? ⟨sb, so + Rn, Option.none⟩ = some (.int .i64 SVV) ∧ x.cell? ⟨pg, i, Option.none⟩ = some (.int .i64 (kk : Int)) ∧ x.frozen? ⟨pg, i, Option.none⟩ = false) (by decide) up y) rfl (Or.inl ⟨by rfl, ?hy6⟩) Sd.out (fun _ => Sd.out) ?rest6
      case hy6 => intro x hx; have e0 := hx.1; have e1 := hx.2.1; have e2 := hx.2.2.1; clear hx; go_simp; try with_reducible rfl
      refine Hr.Walk.take (i := 7) (v := ?v7) (fun x => x.cell? ⟨w.heap.size, 17, Option.none⟩ = some (.slice (some ⟨sb, so, none⟩) ns sc) ∧ x.cell? ⟨b1, o1 + Qn, Option.none⟩ = some (.int .i64 BV) ∧ x.cell? ⟨sb, so + Rn, Option.none⟩ = some (.int .i64 SVV) ∧ x.cell? ⟨pg, i, Option.none⟩ = some (.int .i64 (kk : Int)) ∧ x.frozen? ⟨pg, i, Option.none⟩ = false) (fun up => up.getD 21 false = false) rfl (by kernel_rfl) (by kernel_rfl) (by kernel_rfl) (fun _ _ _ h => h) (Hr.keepI (s := 21) rfl (by kernel_rfl)) (fun _ _ hu hr => hr hu) (fun up y => Hr.keepR (s := 21) (i := 7) (S := fun x => x.cell? ⟨w.heap.size, 17, Option.none⟩ = some (.slice (some ⟨sb, so, none⟩) ns sc) ∧ x.cell? ⟨b1, o1 + Qn, Option.none⟩ = some (.int .i64 BV) ∧ x.cell? ⟨sb, so + Rn, Option.none⟩ = some (.int .i64 SVV) ∧ x.cell? ⟨pg, i, Option.none⟩ = some (.int .i64 (kk : Int)) ∧ x.frozen? ⟨pg, i, Option.none⟩ = false) (by decide) up y) rfl (Or.inl ⟨by rfl, ?hy7⟩) Sd.out (fun _ => Sd.out) ?rest7
      case hy7 => intro x hx; have e0 := hx.1; have e1 := hx.2.1; have e2 := hx.2.2.1; clear hx; go_simp; try with_reducible rfl
      refine Hr.Walk.take (i := 8) (v := ?v8) (fun x => x.cell? ⟨w.heap.size, 17, Option.none⟩ = some (.slice (some ⟨sb, so, none⟩) ns sc) ∧ x.cell? ⟨b1, o1 + Qn, Option.none⟩ = some (.int .i64 BV) ∧ x.cell? ⟨sb, so + Rn, Option.none⟩ = some (.int .i64 SVV) ∧ x.cell? ⟨pg, i, Option.none⟩ = some (.int .i64 (kk : Int)) ∧ x.frozen? ⟨pg, i, Option.none⟩ = false) (fun up => up.getD 21 false = false) rfl (by kernel_rfl) (by kernel_rfl) (by kernel_rfl) (fun _ _ _ h => h) (Hr.keepI (s := 21) rfl (by kernel_rfl)) (fun _ _ hu hr => hr hu) (fun up y => Hr.keepR (s := 21) (i := 8) (S := fun x => x.cell? ⟨w.heap.size, 17, Option.none⟩ = some (.slice (some ⟨sb, so, none⟩) ns sc) ∧ x.cell? ⟨b1, o1 + Qn, Option.none⟩ = some (.int .i64 BV) ∧ x.cell? ⟨sb, so + Rn, Option.none⟩ = some (.int .i64 SVV) ∧ x.cell? ⟨pg, i, Option.none⟩ = some (.int .i64 (kk : Int)) ∧ x.frozen? ⟨pg, i, Option.none⟩ = false) (by decide) up y) rfl (Or.inl ⟨by rfl, ?hy8⟩) Sd.out (fun _ => Sd.out) ?rest8
      case hy8 => intro x hx; have e0 := hx.1; have e1 := hx.2.1; have e2 := hx.2.2.1; clear hx; go_simp; try with_reducible rfl
      refine Hr.Walk.take (i := 9) (v := ?v9) (fun x => x.cell? ⟨w.heap.size, 17, Option.none⟩ = some (.slice (some ⟨sb, so, none⟩) ns sc) ∧ x.cell? ⟨b1, o1 + Qn, Option.none⟩ = some (.int .i64 BV) ∧ x.cell? ⟨sb, so + Rn, Option.none⟩ = some (.int .i64 SVV) ∧ x.cell? ⟨pg, i, Option.none⟩ = some (.int .i64 (kk : Int)) ∧ x.frozen? ⟨pg, i, Option.none⟩ = false) (fun up => up.getD 21 false = false) rfl (by kernel_rfl) (by kernel_rfl) (by kernel_rfl) (fun _ _ _ h => h) (Hr.keepI (s := 21) rfl (by kernel_rfl)) (fun _ _ hu hr => hr hu) (fun up y => Hr.keepR (s := 21) (i := 9) (S := fun x => x.cell? ⟨w.heap.size, 17, Option.none⟩ = some (.slice (some ⟨sb, so, none⟩) ns sc) ∧ x.cell? ⟨b1, o1 + Qn, Option.none⟩ = some (.int .i64 BV) ∧ x.cell? ⟨sb, so + Rn, Option.none⟩ = some (.int .i64 SVV) ∧ x.cell? ⟨pg, i, Option.none⟩ = some (.int .i64 (kk : Int)) ∧ x.frozen? ⟨pg, i, Option.none⟩ = false) (by decide) up y) rfl (Or.inl ⟨by rfl, ?hy9⟩) Sd.out (fun _ => Sd.out) ?rest9
      case hy9 => intro x hx; have e0 := hx.1; have e1 := hx.2.1; have e2 := hx.2.2.1; clear hx; go_simp; try with_reducible rfl
      refine Hr.Walk.take (i := 10) (v := ?v10) (fun x => x.cell? ⟨w.heap.size, 17, Option.none⟩ = some (.slice (some ⟨sb, so, none⟩) ns sc) ∧ x.cell? ⟨b1, o1 + Qn, Option.none⟩ = some (.int .i64 BV) ∧ x.cell? ⟨sb, so + Rn, Option.none⟩ = some (.int .i64 SVV) ∧ x.cell? ⟨pg, i, Option.none⟩ = some (.int .i64 (kk : Int)) ∧ x.frozen? ⟨pg, i, Option.none⟩ = false) (fun up => up.getD 21 false = false) rfl (by kernel_rfl) (by kernel_rfl) (by kernel_rfl) (fun _ _ _ h => h) (Hr.keepI (s := 21) rfl (by kernel_rfl)) (fun _ _ hu hr => hr hu) (fun up y => Hr.keepR (s := 21) (i := 10) (S := fun x => x.cell? ⟨w.heap.size, 17, Option.none⟩ = some (.slice (some ⟨sb, so, none⟩) ns sc) ∧ x.cell? ⟨b1, o1 + Qn, Option.none⟩ = some (.int .i64 BV) ∧ x.cell? ⟨sb, so + Rn, Option.none⟩ = some (.int .i64 SVV) ∧ x.cell? ⟨pg, i, Option.none⟩ = some (.int .i64 (kk : Int)) ∧ x.frozen? ⟨pg, i, Option.none⟩ = false) (by decide) up y) rfl (Or.inl ⟨by rfl, ?hy10⟩) Sd.out (fun _ => Sd.out) ?rest10
      case hy10 => intro x hx; have e0 := hx.1; have e1 := hx.2.1; have e2 := hx.2.2.1; clear hx; go_simp; try with_reducible rfl
      refine Hr.Walk.take (i := 11) (v := ?v11) (fun x => x.cell? ⟨w.heap.size, 17, Option.none⟩ = some (.slice (some ⟨sb, so, none⟩) ns sc) ∧ x.cell? ⟨b1, o1 + Qn, Option.none⟩ = some (.int .i64 BV) ∧ x.cell? ⟨sb, so + Rn, Option.none⟩ = some (.int .i64 SVV) ∧ x.cell? ⟨pg, i, Option.none⟩ = some (.int .i64 (kk : Int)) ∧ x.frozen? ⟨pg, i, Option.none⟩ = false) (fun up => up.getD 21 false = false) rfl (by kernel_rfl) (by kernel_rfl) (by kernel_rfl) (fun _ _ _ h => h) (Hr.keepI (s := 21) rfl (by kernel_rfl)) (fun _ _ hu hr => hr hu) (fun up y => Hr.keepR (s := 21) (i := 11) (S := fun x => x.cell? ⟨w.heap.size, 17, Option.none⟩ = some (.slice (some ⟨sb, so, none⟩) ns sc) ∧ x.cell? ⟨b1, o1 + Qn, Option.none⟩ = some (.int .i64 BV) ∧ x.cell? ⟨sb, so + Rn, Option.none⟩ = some (.int .i64 SVV) ∧ x.cell? ⟨pg, i, Option.none⟩ = some (.int .i64 (kk : Int)) ∧ x.frozen? ⟨pg, i, Option.none⟩ = false) (by decide) up y) rfl (Or.inl ⟨by rfl, ?hy11⟩) Sd.out (fun _ => Sd.out) ?rest11
      case hy11 => intro x hx; have e0 := hx.1; have e1 := hx.2.1; have e2 := hx.2.2.1; clear hx; go_simp; try with_reducible rfl
      refine Hr.Walk.take (i := 12) (v := ?v12) (fun x => x.cell? ⟨w.heap.size, 17, Option.none⟩ = some (.slice (some ⟨sb, so, none⟩) ns sc) ∧ x.cell? ⟨b1, o1 + Qn, Option.none⟩ = some (.int .i64 BV) ∧ x.cell? ⟨sb, so + Rn, Option.none⟩ = some (.int .i64 SVV) ∧ x.cell? ⟨pg, i, Option.none⟩ = some (.int .i64 (kk : Int)) ∧ x.frozen? ⟨pg, i, Option.none⟩ = false) (fun up => up.getD 21 false = false) rfl (by kernel_rfl) (by kernel_rfl) (by kernel_rfl) (fun _ _ _ h => h) (Hr.keepI (s := 21) rfl (by kernel_rfl)) (fun _ _ hu hr => hr hu) (fun up y => Hr.keepR (s := 21) (i := 12) (S := fun x => x.cell? ⟨w.heap.size, 17, Option.none⟩ = some (.slice (some ⟨sb, so, none⟩) ns sc) ∧ x.cell? ⟨b1, o1 + Qn, Option.none⟩ = some (.int .i64 BV) ∧ x.cell? ⟨sb, so + Rn, Option.none⟩ = some (.int .i64 SVV) ∧ x.cell? ⟨pg, i, Option.none⟩ = some (.int .i64 (kk : Int)) ∧ x.frozen? ⟨pg, i, Option.none⟩ = false) (by decide) up y) rfl (Or.inl ⟨by rfl, ?hy12⟩) Sd.out (fun _ => Sd.out) ?rest12
      case hy12 => intro x hx; have e0 := hx.1; have e1 := hx.2.1; have e2 := hx.2.2.1; clear hx; go_simp; try with_reducible rfl
      have s0 := Sd.out.1
      have s2 := Sd.out.2.2.1
      refine Hr.Walk.one (i := 13) (by kernel_rfl) rfl (fun K hK => ?_)
      go_simp
      refine hK.out _ _ (fun _ => Sd.out) ?_
      clear hK K
      refine Hr.Walk.one (i := 14) (by kernel_rfl) rfl (fun K hK => ?_)
      go_simp
      refine hK.out _ _ (fun _ => Sd.out) ?_
      clear hK K
      refine Hr.Walk.one (i := 15) (by kernel_rfl) rfl (fun K hK => ?_)
      go_simp
      refine hK.out _ _ (fun _ => Sd.out) ?_
      clear hK K
      refine Hr.Walk.one (i := 16) (by kernel_rfl) rfl (fun K hK => ?_)
      go_simp
      refine hK.out _ _ (fun _ => Sd.out) ?_
      clear hK K
      refine Hr.Walk.one (i := 17) (by kernel_rfl) rfl (fun K hK => ?_)
      go_simp
      refine hK.out _ _ (fun _ => Sd.out) ?_
      clear hK K
      refine Hr.Walk.one (i := 18) (by kernel_rfl) rfl (fun K hK => ?_)
      go_simp
      refine hK.out _ _ (fun _ => Sd.out) ?_
      clear hK K
      refine Hr.Walk.one (i := 19) (by kernel_rfl) rfl (fun K hK => ?_)
      go_simp
      refine hK.out _ _ (fun _ => Sd.out) ?_
      clear hK K
      refine Hr.Walk.one (i := 20) (by kernel_rfl) rfl (fun K hK => ?_)
      go_simp
      refine hK.out _ _ (fun _ => Sd.out) ?_
      clear hK K
      have s3 := Sd.out.2.2.2.1
      have s4 := Sd.out.2.2.2.2
      refine Hr.Walk.one (i := 21) (by kernel_rfl) rfl (fun K hK => ?_)
      go_simp
      refine hK.out _ _ (fun h => absurd h (by decide)) ?_
      clear hK K
      refine Hr.Walk.done (by kernel_rfl) ?_ _
      have HR2 : Hid (RowI w.heap.size (wo.drew.setCell ⟨pg, i, Option.none⟩ (.int .i64 (BV + SVV))) (.slice (some ⟨pg, 0, none⟩) m pc) ((P.take (i + 1)).map (tiF bs sl) ++ P.drop (i + 1))) := Lib.hid (by
        have h := HRW.out.1
        rw [← HSET.out, HF.out]
        unfold RowI
        rw [List.length_set, HML.out, List.map_set]
        exact own_drew h)
      have RB2 := Lib.hid ((RB.out.drewN 1).other (i := i) HNG.out (.int .i64 (BV + SVV)))
      have B2 := Lib.hid ((bdrew B.out 1).setCell (p := ⟨pg, i, Option.none⟩) HPB.out (.int .i64 (BV + SVV)))
      clear HR RB B HRW HSET HF HML Sd s0 s2 s3 s4
      go_wp2
      go_roundw
      case rel => exact ⟨i + 1, by omega, by go_num, HR2, RB2, B2⟩
      case measure => simp [intOf]; omega
    · obtain rfl : i = m := by omega
      have HE : Hid (RowI w.heap.size wo (.slice pa i pc) (P.map (tiF bs sl))) := Lib.hid (by
        have h := HR.out
        have e : (P.take i).map (tiF bs sl) ++ P.drop i = P.map (tiF bs sl) := by rw [← HM.out, List.take_length, List.drop_length, List.append_nil]
        rw [e] at h
        exact h)
      clear HR
      go_wp2
      go_ret
      exact ⟨_, rfl, HE.out, B.out⟩
end Rru
end Go.Proofs.YtpbbnkgfheafpaaGreatDoor
/-
  Package rrule: a gather takes a period's times.
-/
namespace Go.Proofs.YtpbbnkgfheafpaaGreatDoor
open Go.RowKit
namespace Rru
open Rcv (CV IntV DayV LisV)
open Ap (RowI Grew)
open Cel
/-- How many are told, and which, of a period's times. -/
def perS (x : CV) (st fr tt : Int) : List Int → Int × List Int → Int × List Int
  | [], s => s
  | t :: r, s => if (0 < x.ct ∧ x.ct ≤ s.1) ∨ (x.un = true ∧ x.ua < t) then s else if st < t then perS x st fr tt r (s.1 + 1, tkL fr tt t s.2) else perS x st fr tt r s
theorem tk_len (fr tt t : Int) (L : List Int) : (tkL fr tt t L).length ≤ L.length + 1 := by
  rw [tkL]; split <;> simp
theorem drop_one {L : List Int} {k : Nat} (hk : k < L.length) : L.drop k = L[k] :: L.drop (k + 1) := List.drop_eq_getElem_cons hk
theorem pre16g {g : Nat} {w : World} {v0 v1 v2 v3 v4 v5 v6 v7 v8 v9 v10 v11 v12 v13 v14 v15 v16 v17 : Value} {fr tt told : Int} {lv : Value} (C : Cs g w (gat [v0, v1, v2, v3, v4, v5, v6, v7, v8, v9, v10, v11, v12, v13, v14, v15, v16, v17] fr tt lv told)) : w.rangeAt g 0 [v0, v1, v2, v3, v4, v5, v6, v7, v8, v9, v10, v11, v12, v13, v14, v15] := fun j v hj => by
  rw [Nat.zero_add]
  refine (C.2 j v ?_).1
  have hl := (List.getElem?_eq_some_iff.1 hj).1
  have e : gat [v0, v1, v2, v3, v4, v5, v6, v7, v8, v9, v10, v11, v12, v13, v14, v15, v16, v17] fr tt lv told = [v0, v1, v2, v3, v4, v5, v6, v7, v8, v9, v10, v11, v12, v13, v14, v15] ++ [v16, v17, .int .i64 fr, .int .i64 tt, lv, .int .i64 told] := rfl
  rw [e, List.getElem?_append_left hl]
  exact hj
set_option maxHeartbeats 12800000 in
set_option maxRecDepth 100000 in
theorem period_to (x : CV) (a6 a7 a8 a9 a10 a11 a12 a13 a14 : Option Addr) (n6 c6 n7 c7 n8 c8 n9 c9 n10 c10 n11 c11 n12 c12 n13 c13 n14 c14 : Nat) (st fr tt told : Int) (sb so ns sc g B nl ol bl cl : Nat) (lv : Value) (O T : List Int) (w : World) (hg : g < B) (hB : B ≤ w.heap.size) (C : Hid (Cs g w (gat [.int .i64 x.fq, .int .i64 x.iv, .int .i64 x.ct, .bool x.un, .int .i64 x.ua, .bool x.ut, .slice a6 n6 c6, .slice a7 n7 c7, .slice a8 n8 c8, .slice a9 n9 c9, .slice a10 n10 c10, .slice a11 n11 c11, .slice a12 n12 c12, .slice a13 n13 c13, .slice a14 n14 c14, .int .i64 x.wk, .int .i64 st, .slice (some ⟨sb, so, none⟩) ns sc] fr tt lv told))) (HR : Hid (RowI B w lv O)) (hO : O.length ≤ 1000000) (ht0 : 0 ≤ told) (ht1 : told ≤ 1000000)
    (hT : ∀ (j : Nat) (hj : j < T.length), w.cell? ⟨bl, ol + j, none⟩ = some (.int .i64 T[j])) (hbl : bl < w.heap.size) (hbg : bl ≠ g) (hbv : some bl ≠ lv.ownBlock) (hnl : T.length = nl) (nl6 : nl ≤ 1000000) (s : Int × List Int) (hs : Hid (perS x st fr tt T (told, O) = s)) :
    Calls Tryz.prog 32 #[.pointer (some ⟨g, 0, none⟩), .slice (some ⟨bl, ol, none⟩) nl cl] w fun e w' => e = .returned (.tuple #[]) ∧ TakeQ g B [.int .i64 x.fq, .int .i64 x.iv, .int .i64 x.ct, .bool x.un, .int .i64 x.ua, .bool x.ut, .slice a6 n6 c6, .slice a7 n7 c7, .slice a8 n8 c8, .slice a9 n9 c9, .slice a10 n10 c10, .slice a11 n11 c11, .slice a12 n12 c12, .slice a13 n13 c13, .slice a14 n14 c14, .int .i64 x.wk, .int .i64 st, .slice (some ⟨sb, so, none⟩) ns sc] fr tt s.1 lv s.2 w w' := by
  have K3 := Lib.hid hT
  have NL := Lib.hid hnl
  have HG := Lib.hid hg
  have HBV := Lib.hid hbv
  have HBG := Lib.hid hbg
  have HBL := Lib.hid hbl
  have HO := Lib.hid hO
  obtain ⟨LA, LC, rfl⟩ := HR.out.forms
  clear hT hnl hbv hbg hg hO
  have HVO : Hid (∀ k, (Value.slice LA O.length LC).ownBlock = some k → k < w.heap.size) := Lib.hid (fun k h => (World.ownsRow.lt HR.out k h).2)
  obtain ⟨m, hm⟩ : ∃ m, O.length = m := ⟨_, rfl⟩
  have HMO := Lib.hid hm
  rw [hm] at C HR HVO HBV ⊢
  clear hm
  have HB0 := Lib.hid hB
  clear hB hbl
  go_enter Tryz.func32, Tryz.ntmps32
  go_upto_region 0 with fail
  go_cut [4] (fun p wz => p = .pointer (some ⟨w.heap.size, 0, none⟩) ∧ Hid (Cs w.heap.size wz [.int .i64 x.fq, .int .i64 x.iv, .int .i64 x.ct, .bool x.un, .int .i64 x.ua, .bool x.ut, .slice a6 n6 c6, .slice a7 n7 c7, .slice a8 n8 c8, .slice a9 n9 c9, .slice a10 n10 c10, .slice a11 n11 c11, .slice a12 n12 c12, .slice a13 n13 c13, .slice a14 n14 c14, .int .i64 x.wk]) ∧ Hid (Cs g wz (gat [.int .i64 x.fq, .int .i64 x.iv, .int .i64 x.ct, .bool x.un, .int .i64 x.ua, .bool x.ut, .slice a6 n6 c6, .slice a7 n7 c7, .slice a8 n8 c8, .slice a9 n9 c9, .slice a10 n10 c10, .slice a11 n11 c11, .slice a12 n12 c12, .slice a13 n13 c13, .slice a14 n14 c14, .int .i64 x.wk, .int .i64 st, .slice (some ⟨sb, so, none⟩) ns sc] fr tt (.slice LA m LC) told)) ∧ Hid (RowI B wz (.slice LA m LC) O) ∧ Hid (Below w.heap.size w wz))
  case first =>
    go_wp2_with (refine ldS (pre16g C.out) rfl Tryz.underlying29 rfl (by kernel_rfl) (by rfl) (by rfl) ?_; intro K hK; go_simp)
    go_meet
    exact ⟨rfl, Lib.hid (Cs.new w _ _), Lib.hid (C.out.alloc _), Lib.hid (HR.out.below ((Below.refl _ _).alloc (Nat.le_refl _) _)), Lib.hid ((Below.refl _ _).alloc (Nat.le_refl _) _)⟩
  case rest =>
  obtain ⟨w1, rfl⟩ : ∃ x : World, x = wc := ⟨_, rfl⟩
  clear C HR
  obtain ⟨rfl, RB, C, HR, B1⟩ := hcut
  have HBW : Hid (B ≤ w1.heap.size) := Lib.hid (Nat.le_trans HB0.out B1.out.size)
  have n1 : Hid (w.heap.size ≠ g) := Lib.hid (by have := HG.out; have := HB0.out; omega)
  have n2 : Hid (some w.heap.size ≠ (Value.slice LA m LC).ownBlock) := Lib.hid (fun e => absurd (HVO.out _ e.symm) (Nat.lt_irrefl _))
  have KW := Lib.hid (KP.below (g := g) (v := .slice LA m LC) B1.out)
  go_wp2_with fail
  go_loopw [14] (fun iv wr => ∃ (k : Nat) (lv2 : Value) (told2 : Int) (O2 : List Int), k ≤ nl ∧ iv = .int .i64 k ∧ Hid (perS x st fr tt (T.drop k) (told2, O2) = s) ∧ Hid (O2.length ≤ O.length + k) ∧ Hid (0 ≤ told2 ∧ told2 ≤ told + k) ∧ Hid (Cs g wr (gat [.int .i64 x.fq, .int .i64 x.iv, .int .i64 x.ct, .bool x.un, .int .i64 x.ua, .bool x.ut, .slice a6 n6 c6, .slice a7 n7 c7, .slice a8 n8 c8, .slice a9 n9 c9, .slice a10 n10 c10, .slice a11 n11 c11, .slice a12 n12 c12, .slice a13 n13 c13, .slice a14 n14 c14, .int .i64 x.wk, .int .i64 st, .slice (some ⟨sb, so, none⟩) ns sc] fr tt lv2 told2)) ∧ Hid (RowI B wr lv2 O2) ∧ Hid (KP g (.slice LA m LC) w1 lv2 wr) ∧ Hid (B ≤ wr.heap.size)) (fun iv _ => nl - (intOf iv).toNat)
  case atStart => exact ⟨0, _, told, O, Nat.zero_le _, rfl, Lib.hid (by rw [List.drop_zero]; exact hs.out), Lib.hid (by omega), Lib.hid (by omega), C, HR, Lib.hid (KP.refl _ _ _), HBW⟩
  case round =>
    clear C HR HBW hs
    obtain ⟨k, lv2, told2, O2, hk, rfl, HS, HL, HT, C, HR, KK, HBZ⟩ := hrel
    obtain ⟨wo, rfl⟩ : ∃ wo : World, wo = wr := ⟨_, rfl⟩
    by_cases hlt : k < nl
    · have k1L : k < T.length := by rw [NL.out]; exact hlt
      obtain ⟨t, ht⟩ : ∃ y, T[k]'k1L = y := ⟨_, rfl⟩
      have g3 : wo.cell? ⟨bl, ol + k, Option.none⟩ = some (.int .i64 t) := by
        rw [← ht, ← K3.out k k1L]
        exact (KK.out.cell (p := ⟨bl, ol + k, Option.none⟩) (Nat.lt_of_lt_of_le HBL.out B1.out.size) HBG.out HBV.out).trans (B1.out.cell (p := ⟨bl, ol + k, Option.none⟩) HBL.out)
      have HS2 : Hid (perS x st fr tt (t :: T.drop (k + 1)) (told2, O2) = s) := Lib.hid (by rw [← ht, ← drop_one k1L]; exact HS.out)
      have r3 : bl < wo.heap.size := Nat.lt_of_lt_of_le (Nat.lt_of_lt_of_le HBL.out B1.out.size) KK.out.size
      obtain ⟨b, hb⟩ : ∃ b, (decide (0 < x.ct) && decide (x.ct ≤ told2)) = b := ⟨_, rfl⟩
      have HBB := Lib.hid hb
      have c2 := (C.out.2 2 _ (gat_lo rfl)).1
      have c21 := (C.out.2 21 _ (gat_at rfl 3)).1
      have FU := Lib.hid (full_to g x.ct told2 b wo c2 c21 HBB)
      clear ht k1L hb HS c2 c21
      obtain ⟨sp, hsp⟩ : ∃ b : Bool, b = decide ((0 < x.ct ∧ x.ct ≤ told2) ∨ (x.un = true ∧ x.ua < t)) := ⟨_, rfl⟩
      have HSP := Lib.hid hsp
      clear hsp
      go_upto_region 4 with fail
      go_cut [29] (fun v wz => v = .bool sp ∧ Hid (Cs g wz (gat [.int .i64 x.fq, .int .i64 x.iv, .int .i64 x.ct, .bool x.un, .int .i64 x.ua, .bool x.ut, .slice a6 n6 c6, .slice a7 n7 c7, .slice a8 n8 c8, .slice a9 n9 c9, .slice a10 n10 c10, .slice a11 n11 c11, .slice a12 n12 c12, .slice a13 n13 c13, .slice a14 n14 c14, .int .i64 x.wk, .int .i64 st, .slice (some ⟨sb, so, none⟩) ns sc] fr tt lv2 told2)) ∧ Hid (RowI B wz lv2 O2) ∧ Hid (KP g (.slice LA m LC) w1 lv2 wz) ∧ Hid (B ≤ wz.heap.size))
      case first =>
        clear HS2 g3 r3
        go_wp2_with fail
        refine (FU.out).mono ?_
        rintro e w2 ⟨rfl, k2⟩
        have C2 := Lib.hid (C.out.below k2)
        have HR2 := Lib.hid (HR.out.below k2)
        have KK2 := Lib.hid (KK.out.trans (KP.below k2))
        have HBZ2 := Lib.hid (Nat.le_trans HBZ.out k2.size)
        have RB2 := Lib.hid (Cs.kp RB.out KK2.out n1.out n2.out)
        have l3 := (RB2.out.2 3 _ rfl).1
        have l4 := (RB2.out.2 4 _ rfl).1
        clear k2 C HR KK HBZ FU
        cases b with
        | true =>
          obtain rfl : sp = true := by
            have q := HBB.out
            simp only [Bool.and_eq_true, decide_eq_true_eq] at q
            rw [HSP.out, decide_eq_true (Or.inl q)]
          clear HSP HBB
          go_wp2
          go_meet
          exact ⟨rfl, C2, HR2, KK2, HBZ2⟩
        | false =>
          have hnf : ¬ (0 < x.ct ∧ x.ct ≤ told2) := by
            have q := HBB.out
            intro h
            rw [decide_eq_true h.1, decide_eq_true h.2] at q
            exact absurd q (by decide)
          have HSP2 : Hid (sp = decide (x.un = true ∧ x.ua < t)) := Lib.hid (by
            rw [HSP.out]
            exact decide_eq_decide.2 ⟨fun h => h.elim (fun q => absurd q hnf) id, Or.inr⟩)
          obtain ⟨ub, hub⟩ : ∃ b, x.un = b := ⟨_, rfl⟩
          rw [hub] at l3 HSP2
          clear hub hnf HBB HSP
          cases ub with
          | false =>
            obtain rfl : sp = false := by rw [HSP2.out]; exact decide_eq_false (fun h => absurd h.1 (by decide))
            clear HSP2
            go_wp2
            go_meet
            exact ⟨rfl, C2, HR2, KK2, HBZ2⟩
          | true =>
            by_cases hu : x.ua < t
            · obtain rfl : sp = true := by rw [HSP2.out]; exact decide_eq_true ⟨rfl, hu⟩
              clear HSP2
              go_wp2
              go_meet
              exact ⟨rfl, C2, HR2, KK2, HBZ2⟩
            · obtain rfl : sp = false := by rw [HSP2.out]; exact decide_eq_false (fun h => hu h.2)
              clear HSP2
              go_wp2
              go_meet
              exact ⟨by first | rfl | rw [decide_eq_false (show ¬ x.ua < t by omega)], C2, HR2, KK2, HBZ2⟩
      case rest =>
      obtain ⟨w2, rfl⟩ : ∃ x : World, x = wc := ⟨_, rfl⟩
      clear C HR KK HBZ g3 r3 FU HBB
      obtain ⟨rfl, C, HR, KK, HBZ⟩ := hcut
      cases sp with
      | true =>
        have hF : s = (told2, O2) := by rw [← HS2.out, perS, if_pos (of_decide_eq_true HSP.out.symm)]
        subst hF
        go_wp2
        first | (refine bodyPost_ret (results_none rfl _ _ _) rfl ?_) | go_end0
        exact ⟨rfl, lv2, C.out, HR.out, KW.out.trans KK.out, HBZ.out⟩
      | false =>
        have HS3 : Hid ((if st < t then perS x st fr tt (T.drop (k + 1)) (told2 + 1, tkL fr tt t O2) else perS x st fr tt (T.drop (k + 1)) (told2, O2)) = s) := Lib.hid (by rw [← HS2.out, perS, if_neg (of_decide_eq_false HSP.out.symm)])
        have c16 := (C.out.2 16 _ (gat_lo rfl)).1
        clear HS2 HSP
        by_cases hst : st < t
        · have HS4 : Hid (perS x st fr tt (T.drop (k + 1)) (told2 + 1, tkL fr tt t O2) = s) := Lib.hid (by rw [← HS3.out, if_pos hst])
          have ho : O2.length ≤ 10000000 := by have := HL.out; have := HO.out; omega
          have hb1 := HT.out
          have TK := Lib.hid (fun W (hC : Cs g W (gat [.int .i64 x.fq, .int .i64 x.iv, .int .i64 x.ct, .bool x.un, .int .i64 x.ua, .bool x.ut, .slice a6 n6 c6, .slice a7 n7 c7, .slice a8 n8 c8, .slice a9 n9 c9, .slice a10 n10 c10, .slice a11 n11 c11, .slice a12 n12 c12, .slice a13 n13 c13, .slice a14 n14 c14, .int .i64 x.wk, .int .i64 st, .slice (some ⟨sb, so, none⟩) ns sc] fr tt lv2 told2)) (hR : RowI B W lv2 O2) (hz : B ≤ W.heap.size) => take_to g B [.int .i64 x.fq, .int .i64 x.iv, .int .i64 x.ct, .bool x.un, .int .i64 x.ua, .bool x.ut, .slice a6 n6 c6, .slice a7 n7 c7, .slice a8 n8 c8, .slice a9 n9 c9, .slice a10 n10 c10, .slice a11 n11 c11, .slice a12 n12 c12, .slice a13 n13 c13, .slice a14 n14 c14, .int .i64 x.wk, .int .i64 st, .slice (some ⟨sb, so, none⟩) ns sc] rfl fr tt told2 t lv2 O2 W HG.out hz hC hR ho (by omega) (by omega))
          clear HS3 hb1 ho
          go_wp2_with fail
          refine (TK.out _ C.out HR.out HBZ.out).mono ?_
          rintro e w3 ⟨rfl, lv3, C3, R3, K3', B3⟩
          have C3 := Lib.hid C3
          have R3 := Lib.hid R3
          have KK3 := Lib.hid (KK.out.trans K3')
          have B3 := Lib.hid B3
          have HL3 : Hid ((tkL fr tt t O2).length ≤ O.length + (k + 1)) := Lib.hid (by have := tk_len fr tt t O2; have := HL.out; omega)
          have HT3 : Hid (0 ≤ told2 + 1 ∧ told2 + 1 ≤ told + (k + 1 : Nat)) := Lib.hid (by have := HT.out; omega)
          clear TK K3' C HR KK HBZ c16 HL HT
          go_wp2
          go_roundw
          case rel => exact ⟨k + 1, lv3, told2 + 1, _, by omega, by go_num, HS4, HL3, HT3, C3, R3, KK3, B3⟩
          case measure => simp [intOf]; omega
        · have HS4 : Hid (perS x st fr tt (T.drop (k + 1)) (told2, O2) = s) := Lib.hid (by rw [← HS3.out, if_neg hst])
          have HL3 : Hid (O2.length ≤ O.length + (k + 1)) := Lib.hid (by have := HL.out; omega)
          have HT3 : Hid (0 ≤ told2 ∧ told2 ≤ told + (k + 1 : Nat)) := Lib.hid (by have := HT.out; omega)
          clear HS3 HL HT
          go_wp2
          go_roundw
          case rel => exact ⟨k + 1, lv2, told2, _, by omega, by go_num, HS4, HL3, HT3, C, HR, KK, HBZ⟩
          case measure => simp [intOf]; omega
    · obtain rfl : k = nl := by omega
      have hF : s = (told2, O2) := by rw [← HS.out, ← NL.out, List.drop_length]; rfl
      subst hF
      go_wp2
      first | (refine bodyPost_ret (results_none rfl _ _ _) rfl ?_) | go_end0
      exact ⟨rfl, lv2, C.out, HR.out, KW.out.trans KK.out, HBZ.out⟩
end Rru
end Go.Proofs.YtpbbnkgfheafpaaGreatDoor
/-
  Package rrule: first.
-/
namespace Go.Proofs.YtpbbnkgfheafpaaGreatDoor
open Go.RowKit
namespace Rru
open Rcv (CV IntV DayV LisV)
open Ap (RowI Grew)
open Rck (Small ckB)
open Civ (Ahead)
open Fil (spE spT spF spQ perV perE perQ per_to span_to moO)
open Cel
/-- The period that is gone through first; none. -/
def fsF (x : CV) (p fr : Int) : Int × Bool := if spE x p ≠ 0 then (0, false) else if 0 < x.ct ∨ fr ≤ spT x p then (p, true) else if perE x fr ≠ 0 then (0, false) else (p + (perV x fr - p + x.iv - 1).tdiv x.iv * x.iv, true)
theorem ret_ib {a a' : Int} {b b' : Bool} (h : a = a') (k : b = b') : Ending.returned (.tuple #[.int .i64 a, .bool b]) = .returned (.tuple #[.int .i64 a', .bool b']) := by rw [h, k]
set_option maxHeartbeats 12800000 in
set_option maxRecDepth 100000 in
theorem first_to (x : CV) (s6 s7 s8 s9 s10 s11 s12 s13 s14 : Value) (p fr : Int) (c : Int × Bool) (w : World) (HA : Hid (Ahead w)) (HU : Hid (-9223372036854775808 ≤ x.ua ∧ x.ua ≤ 9223372036854775807)) (L : Hid (LisV w x s6 s7 s8 s9 s10 s11 s12 s13 s14)) (S : Hid (Small x)) (i1 : -9223372036854775808 ≤ fr) (i2 : fr ≤ 9223372036854775807) (iv1 : 1 ≤ x.iv) (iv2 : x.iv ≤ 1000) (pb : -10000000000000 ≤ p ∧ p ≤ 10000000000000) (qb : -10000000000000 ≤ perV x fr ∧ perV x fr ≤ 10000000000000) (hc : Hid (fsF x p fr = c)) :
    Calls Tryz.prog 27 #[.agg #[.int .i64 x.fq, .int .i64 x.iv, .int .i64 x.ct, .bool x.un, .int .i64 x.ua, .bool x.ut, s6, s7, s8, s9, s10, s11, s12, s13, s14, .int .i64 x.wk], .int .i64 p, .int .i64 fr] w fun e w' => e = .returned (.tuple #[.int .i64 c.1, .bool c.2]) ∧ Below w.heap.size w w' := by
  obtain ⟨a, ha⟩ : ∃ z, spF x p = z := ⟨_, rfl⟩
  obtain ⟨b, hb⟩ : ∃ z, spT x p = z := ⟨_, rfl⟩
  obtain ⟨f, hf⟩ : ∃ z, spE x p = z := ⟨_, rfl⟩
  obtain ⟨n, hn⟩ : ∃ z, perV x fr = z := ⟨_, rfl⟩
  obtain ⟨e, he⟩ : ∃ z, perE x fr = z := ⟨_, rfl⟩
  obtain ⟨iv, hiv⟩ : ∃ z, x.iv = z := ⟨_, rfl⟩
  have HC : Hid (c = if f ≠ 0 then (0, false) else if 0 < x.ct ∨ fr ≤ b then (p, true) else if e ≠ 0 then (0, false) else (p + (n - p + iv - 1).tdiv iv * iv, true)) := Lib.hid (by rw [← hc.out, fsF, hb, hf, hn, he, hiv])
  have SF := Lib.hid ha
  have ST := Lib.hid hb
  have SE := Lib.hid hf
  have PV := Lib.hid hn
  have PE := Lib.hid he
  have IB := Lib.hid (And.intro i1 i2)
  rw [hn] at qb
  rw [hiv] at iv1 iv2
  have HIV := Lib.hid hiv
  clear hc ha hb hf hn he i1 i2 hiv
  go_enter Tryz.func27, Tryz.ntmps27
  go_upto_region 0 with fail
  go_cut [3] (fun q wz => q = .pointer (some ⟨w.heap.size, 0, none⟩) ∧ Hid (Cs w.heap.size wz [.int .i64 x.fq, .int .i64 x.iv, .int .i64 x.ct, .bool x.un, .int .i64 x.ua, .bool x.ut, s6, s7, s8, s9, s10, s11, s12, s13, s14, .int .i64 x.wk]) ∧ Hid (Below w.heap.size w wz))
  case first =>
    go_wp2
    go_meet
    exact ⟨rfl, Lib.hid (Cs.new w _ _), Lib.hid ((Below.refl _ _).alloc (Nat.le_refl _) _)⟩
  case rest =>
  obtain ⟨w1, rfl⟩ : ∃ x : World, x = wc := ⟨_, rfl⟩
  obtain ⟨rfl, RB, B⟩ := hcut
  go_upto_region 1 with fail
  go_cut [9, 10] (fun u v wz => u = .int .i64 b ∧ v = .int .i64 f ∧ Hid (Cs w.heap.size wz [.int .i64 x.fq, .int .i64 x.iv, .int .i64 x.ct, .bool x.un, .int .i64 x.ua, .bool x.ut, s6, s7, s8, s9, s10, s11, s12, s13, s14, .int .i64 x.wk]) ∧ Hid (Below w.heap.size w wz))
  case first =>
    clear HC
    go_wp2_with (refine ldS RB.out.range rfl Tryz.underlying29 rfl (by kernel_rfl) (by rfl) (by rfl) ?_; intro K hK; go_simp)
    refine (span_to x _ _ _ _ _ _ _ _ _ p a b f _ (HA.out.stays B.out) HU.out.1 HU.out.2 (L.out.below B.out) S.out SF ST SE).mono ?_
    rintro e w2 ⟨rfl, k⟩
    have RB := Lib.hid (RB.out.below k)
    have B := Lib.hid (bstep B.out k)
    clear k
    go_wp2
    go_meet
    exact ⟨rfl, rfl, RB, B⟩
  case rest =>
  obtain ⟨w2, rfl⟩ : ∃ x : World, x = wc := ⟨_, rfl⟩
  clear RB B
  obtain ⟨rfl, rfl, RB, B⟩ := hcut
  by_cases f0 : f = 0
  case neg =>
    have f1 : (f == 0) = false := beq_eq_false_iff_ne.2 f0
    have f2 : (f != 0) = true := by rw [bne, f1]; rfl
    obtain rfl : c = (0, false) := by rw [HC.out, if_pos f0]
    clear HC f0
    go_wp2
    go_ret2
    exact ⟨rfl, B.out⟩
  subst f0
  have l2 := (RB.out.2 2 _ rfl).1
  obtain ⟨s, hs⟩ : ∃ s : Bool, s = decide (0 < x.ct ∨ fr ≤ b) := ⟨_, rfl⟩
  have HSP := Lib.hid hs
  clear hs
  go_upto_region 4 with fail
  go_cut [29] (fun v wz => v = .bool s ∧ w2 = wz)
  case first =>
    clear HC
    by_cases h1 : 0 < x.ct
    · obtain rfl : s = true := by rw [HSP.out]; exact decide_eq_true (Or.inl h1)
      clear HSP
      go_wp2
      go_meet
      exact ⟨rfl, rfl⟩
    · by_cases h2 : fr ≤ b
      · obtain rfl : s = true := by rw [HSP.out]; exact decide_eq_true (Or.inr h2)
        clear HSP
        go_wp2
        go_meet
        exact ⟨by first | rfl | rw [decide_eq_true (show fr ≤ b by omega)], rfl⟩
      · obtain rfl : s = false := by rw [HSP.out]; exact decide_eq_false (fun h => h.elim h1 h2)
        clear HSP
        go_wp2
        go_meet
        exact ⟨by first | rfl | rw [decide_eq_false (show ¬ fr ≤ b by omega)], rfl⟩
  case rest =>
  obtain ⟨rfl, hw⟩ := hcut
  subst hw
  cases s with
  | true =>
    obtain rfl : c = (p, true) := by rw [HC.out, if_neg (by simp), if_pos (of_decide_eq_true HSP.out.symm)]
    clear HC HSP
    go_wp2
    go_ret2
    exact ⟨rfl, B.out⟩
  | false =>
  have HC2 : Hid (c = if e ≠ 0 then (0, false) else (p + (n - p + iv - 1).tdiv iv * iv, true)) := Lib.hid (by rw [HC.out, if_neg (by simp), if_neg (of_decide_eq_false HSP.out.symm)])
  clear HC HSP l2
  go_upto_region 6 with fail
  go_cut [10, 11] (fun u v wz => u = .int .i64 e ∧ v = .int .i64 n ∧ Hid (Cs w.heap.size wz [.int .i64 x.fq, .int .i64 x.iv, .int .i64 x.ct, .bool x.un, .int .i64 x.ua, .bool x.ut, s6, s7, s8, s9, s10, s11, s12, s13, s14, .int .i64 x.wk]) ∧ Hid (Below w.heap.size w wz))
  case first =>
    clear HC2
    go_wp2_with (refine ldS RB.out.range rfl Tryz.underlying29 rfl (by kernel_rfl) (by rfl) (by rfl) ?_; intro K hK; go_simp)
    refine (per_to x _ _ _ _ _ _ _ _ _ fr n e _ (HA.out.stays B.out) HU.out.1 HU.out.2 (L.out.below B.out) S.out IB.out.1 IB.out.2 PV PE).mono ?_
    rintro e w3 ⟨rfl, k⟩
    have RB := Lib.hid (RB.out.below k)
    have B := Lib.hid (bstep B.out k)
    clear k
    go_wp2
    go_meet
    exact ⟨rfl, rfl, RB, B⟩
  case rest =>
  obtain ⟨w3, rfl⟩ : ∃ x : World, x = wc := ⟨_, rfl⟩
  clear RB B
  obtain ⟨rfl, rfl, RB, B⟩ := hcut
  by_cases e0 : e = 0
  case neg =>
    have f1 : (e == 0) = false := beq_eq_false_iff_ne.2 e0
    have f2 : (e != 0) = true := by rw [bne, f1]; rfl
    obtain rfl : c = (0, false) := by rw [HC2.out, if_pos e0]
    clear HC2 e0
    go_wp2
    go_ret2
    exact ⟨rfl, B.out⟩
  subst e0
  obtain ⟨q, hq⟩ : ∃ q, (n - p + iv - 1).tdiv iv = q := ⟨_, rfl⟩
  have HQ := Lib.hid hq
  obtain rfl : c = (p + q * iv, true) := by rw [HC2.out, if_neg (by simp), hq]
  have l1 := (RB.out.2 1 _ rfl).1
  rw [HIV.out] at l1
  have qb2 : -30000000000000 ≤ q ∧ q ≤ 30000000000000 := by
    rw [← hq]
    have h := Int.natAbs_tdiv_le_natAbs (n - p + iv - 1) iv
    omega
  have qm : -30000000000000000 ≤ q * iv ∧ q * iv ≤ 30000000000000000 := by
    obtain ⟨x1, x2⟩ := qb2
    constructor
    · have h1 := Int.mul_le_mul_of_nonneg_right x1 (show (0 : Int) ≤ iv by omega)
      omega
    · have h1 := Int.mul_le_mul_of_nonneg_right x2 (show (0 : Int) ≤ iv by omega)
      omega
  have r1 : IntKind.i64.wrap (n - p) = n - p := IntWalk.i64_in _ (by omega)
  have r2 : IntKind.i64.wrap (n - p + iv) = n - p + iv := IntWalk.i64_in _ (by omega)
  have r3 : IntKind.i64.wrap (n - p + iv - 1) = n - p + iv - 1 := IntWalk.i64_in _ (by omega)
  have r4 : IntKind.i64.wrap q = q := IntWalk.i64_in _ (by omega)
  have r5 : IntKind.i64.wrap (q * iv) = q * iv := IntWalk.i64_in _ (by omega)
  have r6 : IntKind.i64.wrap (p + q * iv) = p + q * iv := IntWalk.i64_in _ (by omega)
  have iz : ¬ iv = 0 := by omega
  clear HC2 HQ
  go_wp2
  go_ret2
  exact ⟨rfl, B.out⟩
end Rru
end Go.Proofs.YtpbbnkgfheafpaaGreatDoor
