/-
  RruleSpans: the law answers true at every rule, start and numbers, in whatever world that holds the table of the months.
-/
import Derived.Test.YtbdakbjlgljahaaGreatDoorRruLs2
import Derived.Test.YtbdakbjlgljahaaGreatDoorBdRg
import Derived.Test.YtbdakbjlgljahaaGreatDoorBdRl
import Derived.Test.YtbdakbjlgljahaaGreatDoorBdFl
namespace Go.Proofs.YtbdakbjlgljahaaGreatDoor
open Go.RowKit
namespace Rru
open Rcv (CV LisV IntV DayV)
open Rck (ckE ckB Small)
open Ap (RowI)
open Civ (numV numE dY dM dD dnE ydV Ahead)
open Fil (moO mo_bd spE spT spF spQ perV perE perQ ld16 vsm vsm_mo vsm_bd vsome_to ck_fq per_to span_to)
open Cel
set_option maxHeartbeats 25600000 in
set_option maxRecDepth 100000 in
theorem spans_any (start frm a_ b_ n : Int) (x : CV) (s6 s7 s8 s9 s10 s11 s12 s13 s14 : Value) (w : World) (hA : Ahead w) (hl : LisV w x s6 s7 s8 s9 s10 s11 s12 s13 s14) (hu1 : -9223372036854775808 ≤ x.ua) (hu2 : x.ua ≤ 9223372036854775807) :
    Calls Tryz.prog 6 #[.agg #[.int .i64 x.fq, .int .i64 x.iv, .int .i64 x.ct, .bool x.un, .int .i64 x.ua, .bool x.ut, s6, s7, s8, s9, s10, s11, s12, s13, s14, .int .i64 x.wk], .int .i64 start, .int .i64 frm, .int .i64 a_, .int .i64 b_, .int .i64 n] w fun e w' => e = .returned (.bool true) ∧ Below w.heap.size w w' := by
  have HA := Lib.hid hA
  have L := Lib.hid hl
  have HU := Lib.hid (And.intro hu1 hu2)
  clear hA hl hu1 hu2
  obtain ⟨T, hT⟩ : ∃ a, vsm start = a := ⟨_, rfl⟩
  have mT : moO T = true := by rw [← hT]; exact vsm_mo start
  have tb := vsm_bd start
  rw [hT] at tb
  have V1 := Lib.hid hT
  have MT := Lib.hid mT
  have TB := Lib.hid tb
  clear hT mT tb
  go_enter Tryz.func6, Tryz.ntmps6
  go_upto_region 0 with fail
  go_cut [6] (fun p wz => p = .pointer (some ⟨w.heap.size, 0, none⟩) ∧ FQ x s6 s7 s8 s9 s10 s11 s12 s13 s14 w wz)
  case first =>
    go_wp2
    go_meet
    exact ⟨rfl, Lib.hid (Cs.new w _ _), Lib.hid ((Below.refl _ _).alloc (Nat.le_refl _) _)⟩
  case rest =>
  obtain ⟨w1, rfl⟩ : ∃ x : World, x = wc := ⟨_, rfl⟩
  obtain ⟨rfl, RB, B⟩ := hcut
  obtain ⟨kb, hkb⟩ : ∃ c, ckB x = c := ⟨_, rfl⟩
  have HKB := Lib.hid hkb
  clear hkb
  go_wp2_with (refine ld16 RB.out rfl (by rfl) (by rfl) (by rfl) ?_; intro K hK; go_simp)
  refine (Rct.hv_to _ _ _ _ _ _ _ _ _ x _ (L.out.below B.out)).mono ?_
  rintro e w2 ⟨hb, rfl, HH, k⟩
  have RB := Lib.hid (RB.out.below k)
  have B := Lib.hid (bstep B.out k)
  clear k
  cases hb with
  | true =>
    go_wp2
    go_ret
    exact ⟨ret_b rfl, B.out⟩
  | false =>
  have L3 := Lib.hid (HH.out rfl)
  have S := Lib.hid (small_of L3.out)
  go_wp2_with (refine ld16 RB.out rfl (by rfl) (by rfl) (by rfl) ?_; intro K hK; go_simp)
  refine (Rrl.rrec_to _ _ _ _ _ _ _ _ _ x kb _ HU.out.1 HU.out.2 (L.out.below B.out) HKB).mono ?_
  rintro e w3 ⟨rfl, k⟩
  have RB := Lib.hid (RB.out.below k)
  have B := Lib.hid (bstep B.out k)
  clear k
  cases kb with
  | false =>
    go_wp2
    go_ret
    exact ⟨ret_b rfl, B.out⟩
  | true =>
  have PE : Hid (perE x T = 0) := Lib.hid (by rw [perE, if_pos HKB.out, if_pos MT.out])
  go_upto_region 3 with fail
  go_cut [1] (fun a wz => a = .int .i64 T ∧ FQ x s6 s7 s8 s9 s10 s11 s12 s13 s14 w wz)
  case first =>
    go_wp2_with fail
    refine (vsome_to start T _ V1).mono ?_
    rintro e w4 ⟨rfl, k⟩
    have RB := Lib.hid (RB.out.below k)
    have B := Lib.hid (bstep B.out k)
    clear k
    go_wp2
    go_meet
    exact ⟨rfl, RB, B⟩
  case rest =>
  obtain ⟨w4, rfl⟩ : ∃ x : World, x = wc := ⟨_, rfl⟩
  clear RB B
  obtain ⟨rfl, RB, B⟩ := hcut
  obtain ⟨U1, hU1⟩ : ∃ u, IntKind.u64.wrap frm = u := ⟨_, rfl⟩
  have u0U1 : 0 ≤ U1 ∧ U1 < 18446744073709551616 := by rw [← hU1, IntKind.wrap_u64]; omega
  obtain ⟨m1, hm1⟩ : ∃ m, U1 % 100000000 = m := ⟨_, rfl⟩
  have bm1 : 0 ≤ m1 ∧ m1 < 100000000 := by rw [← hm1]; omega
  have rm1 : U1.tmod 100000000 = m1 := by rw [Int.tmod_eq_emod_of_nonneg u0U1.1, hm1]
  have w1x : IntKind.i64.wrap m1 = m1 := by rw [IntKind.wrap_i64]; omega
  obtain ⟨f, hto⟩ : ∃ z, T + m1 = z := ⟨_, rfl⟩
  have tbo := TB.out
  have w2x : IntKind.i64.wrap (T + m1) = f := by rw [IntKind.wrap_i64]; omega
  go_upto_region 4 with fail
  go_cut [2] (fun a wz => a = .int .i64 f ∧ FQ x s6 s7 s8 s9 s10 s11 s12 s13 s14 w wz)
  case first =>
    go_wp2
    go_meet
    refine ⟨?_, RB, B⟩
    first | rfl | (simp [hU1, rm1, w1x, w2x, hto]; done)
  case rest =>
  obtain ⟨wn, rfl⟩ : ∃ x : World, x = wc := ⟨_, rfl⟩
  clear RB B
  obtain ⟨rfl, RB, B⟩ := hcut
  have FB : Hid (T ≤ f ∧ f ≤ T + 100000000) := Lib.hid (by omega)
  clear hU1 u0U1 hm1 bm1 rm1 w1x hto w2x tbo
  obtain ⟨U2, hU2⟩ : ∃ u, IntKind.u64.wrap a_ = u := ⟨_, rfl⟩
  have u0U2 : 0 ≤ U2 ∧ U2 < 18446744073709551616 := by rw [← hU2, IntKind.wrap_u64]; omega
  obtain ⟨m2, hm2⟩ : ∃ m, U2 % 10000000 = m := ⟨_, rfl⟩
  have bm2 : 0 ≤ m2 ∧ m2 < 10000000 := by rw [← hm2]; omega
  have rm2 : U2.tmod 10000000 = m2 := by rw [Int.tmod_eq_emod_of_nonneg u0U2.1, hm2]
  have w1x : IntKind.i64.wrap m2 = m2 := by rw [IntKind.wrap_i64]; omega
  obtain ⟨md, hto⟩ : ∃ z, f + m2 = z := ⟨_, rfl⟩
  have tbo := TB.out
  have fbo := FB.out
  have w2x : IntKind.i64.wrap (f + m2) = md := by rw [IntKind.wrap_i64]; omega
  go_upto_region 5 with fail
  go_cut [13] (fun a wz => a = .int .i64 md ∧ FQ x s6 s7 s8 s9 s10 s11 s12 s13 s14 w wz)
  case first =>
    go_wp2
    go_meet
    refine ⟨?_, RB, B⟩
    first | rfl | (simp [hU2, rm2, w1x, w2x, hto]; done)
  case rest =>
  obtain ⟨wn, rfl⟩ : ∃ x : World, x = wc := ⟨_, rfl⟩
  clear RB B
  obtain ⟨rfl, RB, B⟩ := hcut
  have MB : Hid (f ≤ md ∧ md ≤ f + 10000000) := Lib.hid (by omega)
  clear hU2 u0U2 hm2 bm2 rm2 w1x hto w2x tbo fbo
  obtain ⟨U3, hU3⟩ : ∃ u, IntKind.u64.wrap b_ = u := ⟨_, rfl⟩
  have u0U3 : 0 ≤ U3 ∧ U3 < 18446744073709551616 := by rw [← hU3, IntKind.wrap_u64]; omega
  obtain ⟨m3, hm3⟩ : ∃ m, U3 % 10000000 = m := ⟨_, rfl⟩
  have bm3 : 0 ≤ m3 ∧ m3 < 10000000 := by rw [← hm3]; omega
  have rm3 : U3.tmod 10000000 = m3 := by rw [Int.tmod_eq_emod_of_nonneg u0U3.1, hm3]
  have w1x : IntKind.i64.wrap m3 = m3 := by rw [IntKind.wrap_i64]; omega
  obtain ⟨to_, hto⟩ : ∃ z, md + 1 + m3 = z := ⟨_, rfl⟩
  have tbo := TB.out
  have fbo := FB.out
  have mbo := MB.out
  have w0x : IntKind.i64.wrap (md + 1) = md + 1 := by rw [IntKind.wrap_i64]; omega
  have w2x : IntKind.i64.wrap (md + 1 + m3) = to_ := by rw [IntKind.wrap_i64]; omega
  go_upto_region 6 with fail
  go_cut [14] (fun a wz => a = .int .i64 to_ ∧ FQ x s6 s7 s8 s9 s10 s11 s12 s13 s14 w wz)
  case first =>
    go_wp2
    go_meet
    refine ⟨?_, RB, B⟩
    first | rfl | (simp [hU3, rm3, w1x, w2x, w0x, hto]; done)
  case rest =>
  obtain ⟨wn, rfl⟩ : ∃ x : World, x = wc := ⟨_, rfl⟩
  clear RB B
  obtain ⟨rfl, RB, B⟩ := hcut
  have TO : Hid (md < to_ ∧ to_ ≤ md + 10000001) := Lib.hid (by omega)
  clear hU3 u0U3 hm3 bm3 rm3 w1x hto w2x tbo fbo mbo
  have BDS : Hid (-62135596800 ≤ T ∧ T ≤ f ∧ f ≤ md ∧ md < to_ ∧ to_ ≤ 253600000000) := Lib.hid (by have := TB.out; have := FB.out; have := MB.out; have := TO.out; omega)
  clear FB MB TO
  have A1 : Hid (arB f md 3000 = false) := Lib.hid (ar_no (by have := BDS.out; omega) (by have := BDS.out; omega) (by have := BDS.out; omega) (by decide))
  have A2 : Hid (arB (md + 1) to_ 3000 = false) := Lib.hid (ar_no (by have := BDS.out; omega) (by have := BDS.out; omega) (by have := BDS.out; omega) (by decide))
  have A3 : Hid (arB f to_ 3000 = false) := Lib.hid (ar_no (by have := BDS.out; omega) (by have := BDS.out; omega) (by have := BDS.out; omega) (by decide))
  have A4 : Hid (arB T to_ 3000 = false) := Lib.hid (ar_no (by have := BDS.out; omega) (by have := BDS.out; omega) (by have := BDS.out; omega) (by decide))
  obtain ⟨⟨en1, co1, O1⟩, hX⟩ : ∃ z, tmX x T f md 3000 = z := ⟨_, rfl⟩
  have X1 := Lib.hid hX
  clear hX
  go_upto_region 7 with fail
  go_cut [15, 17] (fun a c wz => ∃ lv N1 M1, lv = a ∧ c = .int .i64 en1 ∧ Hid (RowI N1 wz lv O1) ∧ Hid (∀ k, lv.ownBlock = some k → k < M1) ∧ Hid (w.heap.size + 1 ≤ N1 ∧ N1 ≤ M1) ∧ Hid (N1 ≤ wz.heap.size ∧ M1 ≤ wz.heap.size) ∧ FQ x s6 s7 s8 s9 s10 s11 s12 s13 s14 w wz)
  case first =>
    go_wp2_with (refine ld16 RB.out rfl (by rfl) (by rfl) (by rfl) ?_; intro K hK; go_simp)
    refine (tms_to x _ _ _ _ _ _ _ _ _ T f md 3000 _ _ (Lib.hid (HA.out.stays B.out)) HU (Lib.hid (L.out.below B.out)) S (Lib.hid (by have := BDS.out; omega)) X1).mono ?_
    rintro e w5 ⟨lv, rfl, R, k⟩
    have n1 := RB.out.1
    have RB := Lib.hid (RB.out.below k)
    have B := Lib.hid (bstep B.out k)
    have hk := k.size
    have RN := Lib.hid R
    have RL := Lib.hid (fun k hk => (World.ownsRow.lt R k hk).2)
    clear k R
    go_wp2
    go_meet
    exact ⟨_, _, _, rfl, rfl, RN, RL, Lib.hid ⟨n1, hk⟩, Lib.hid ⟨hk, Nat.le_refl _⟩, RB, B⟩
  case rest =>
  obtain ⟨w7, rfl⟩ : ∃ x : World, x = wc := ⟨_, rfl⟩
  clear RB B
  obtain ⟨lv1, N1, M1, rfl, rfl, R1, RL1, NM1, SZ1, RB, B⟩ := hcut
  have w0x : IntKind.i64.wrap (md + 1) = md + 1 := by have := BDS.out; rw [IntKind.wrap_i64]; omega
  obtain ⟨⟨en2, co2, O2⟩, hX⟩ : ∃ z, tmX x T (md + 1) to_ 3000 = z := ⟨_, rfl⟩
  have X2 := Lib.hid hX
  clear hX
  go_upto_region 8 with fail
  go_cut [18, 20] (fun a c wz => ∃ lv N2 M2, lv = a ∧ c = .int .i64 en2 ∧ Hid (RowI N2 wz lv O2) ∧ Hid (M1 ≤ N2 ∧ N2 ≤ M2) ∧ Hid (N2 ≤ wz.heap.size ∧ M2 ≤ wz.heap.size) ∧ Hid (RowI N1 wz lv1 O1) ∧ Hid (∀ k, lv1.ownBlock = some k → k < M1) ∧ FQ x s6 s7 s8 s9 s10 s11 s12 s13 s14 w wz)
  case first =>
    go_wp2_with (refine ld16 RB.out rfl (by rfl) (by rfl) (by rfl) ?_; intro K hK; go_simp)
    refine (tms_to x _ _ _ _ _ _ _ _ _ T (md + 1) to_ 3000 _ _ (Lib.hid (HA.out.stays B.out)) HU (Lib.hid (L.out.below B.out)) S (Lib.hid (by have := BDS.out; omega)) X2).mono ?_
    rintro e w5 ⟨lv, rfl, R, k⟩
    have n1 := SZ1.out.2
    have R1 := Lib.hid (R1.out.below k)
    have RB := Lib.hid (RB.out.below k)
    have B := Lib.hid (bstep B.out k)
    have hk := k.size
    have RN := Lib.hid R
    clear k R
    go_wp2
    go_meet
    exact ⟨_, _, _, rfl, rfl, RN, Lib.hid ⟨n1, hk⟩, Lib.hid ⟨hk, Nat.le_refl _⟩, R1, RL1, RB, B⟩
  case rest =>
  obtain ⟨w8, rfl⟩ : ∃ x : World, x = wc := ⟨_, rfl⟩
  clear RB B R1 RL1
  obtain ⟨lv2, N2, M2, rfl, rfl, R2, NM2, SZ2, R1, RL1, RB, B⟩ := hcut
  clear w0x
  obtain ⟨⟨en3, co3, O3⟩, hX⟩ : ∃ z, tmX x T f to_ 3000 = z := ⟨_, rfl⟩
  have X3 := Lib.hid hX
  clear hX
  go_upto_region 9 with fail
  go_cut [21, 23] (fun a c wz => ∃ lv N3 M3, lv = a ∧ c = .int .i64 en3 ∧ Hid (RowI N3 wz lv O3) ∧ Hid (M2 ≤ N3 ∧ N3 ≤ M3) ∧ Hid (N3 ≤ wz.heap.size ∧ M3 ≤ wz.heap.size) ∧ Hid (RowI N1 wz lv1 O1) ∧ Hid (∀ k, lv1.ownBlock = some k → k < M1) ∧ Hid (RowI N2 wz lv2 O2) ∧ FQ x s6 s7 s8 s9 s10 s11 s12 s13 s14 w wz)
  case first =>
    go_wp2_with (refine ld16 RB.out rfl (by rfl) (by rfl) (by rfl) ?_; intro K hK; go_simp)
    refine (tms_to x _ _ _ _ _ _ _ _ _ T f to_ 3000 _ _ (Lib.hid (HA.out.stays B.out)) HU (Lib.hid (L.out.below B.out)) S (Lib.hid (by have := BDS.out; omega)) X3).mono ?_
    rintro e w5 ⟨lv, rfl, R, k⟩
    have n1 := SZ2.out.2
    have R1 := Lib.hid (R1.out.below k)
    have R2 := Lib.hid (R2.out.below k)
    have RB := Lib.hid (RB.out.below k)
    have B := Lib.hid (bstep B.out k)
    have hk := k.size
    have RN := Lib.hid R
    clear k R
    go_wp2
    go_meet
    exact ⟨_, _, _, rfl, rfl, RN, Lib.hid ⟨n1, hk⟩, Lib.hid ⟨hk, Nat.le_refl _⟩, R1, RL1, R2, RB, B⟩
  case rest =>
  obtain ⟨w9, rfl⟩ : ∃ x : World, x = wc := ⟨_, rfl⟩
  clear RB B R1 RL1 R2
  obtain ⟨lv3, N3, M3, rfl, rfl, R3, NM3, SZ3, R1, RL1, R2, RB, B⟩ := hcut
  have E1 := tm_two PE.out A1.out X1.out
  have E2 := tm_two PE.out A2.out X2.out
  have E3 := tm_two PE.out A3.out X3.out
  go_upto_region 10 with fail
  rename_i K10 hK10 Kc hKc
  go_cut [104] (fun a wz => a = .bool false ∧ FQ x s6 s7 s8 s9 s10 s11 s12 s13 s14 w wz)
  case first =>
    rcases E1 with rfl | ⟨rfl, rfl, rfl⟩
    rotate_left
    · go_wp2
      go_meet
      exact ⟨rfl, RB, B⟩
    rcases E2 with rfl | ⟨rfl, rfl, rfl⟩
    rotate_left
    · go_wp2
      go_meet
      exact ⟨rfl, RB, B⟩
    rcases E3 with rfl | ⟨rfl, rfl, rfl⟩
    rotate_left
    · go_wp2
      go_meet
      exact ⟨rfl, RB, B⟩
    have EQ := span_app HKB.out MT.out (by have := BDS.out; omega) (by have := BDS.out; omega) A1.out A2.out A3.out X1.out X2.out X3.out
    have q1 := tm_len x T f md 3000
    have q2 := tm_len x T (md + 1) to_ 3000
    have q3 := tm_len x T f to_ 3000
    rw [X1.out] at q1
    rw [X2.out] at q2
    rw [X3.out] at q3
    have Q := Lib.hid (And.intro q1 (And.intro q2 q3))
    have EQ := Lib.hid EQ
    clear q1 q2 q3
    have RBL := Lib.hid RB.out.1
    have R1w := Lib.hid (own_less2 R1.out NM1.out.1)
    have hBw : w.heap.size + 1 ≤ w9.heap.size := RB.out.1
    go_wp2_with (refine appII (s := .tmp 99) (x := .tmp 100) (by rfl) rfl (w.heap.size + 1) N2 lv1 lv2 O1 O2 rfl rfl R1w.out R2.out Q.out.1 Q.out.2.1 hBw ?_; intro K hK v' w' r4 g4; have R4 := Lib.hid r4; have G4 := Lib.hid g4; clear r4 g4; refine hK _ _ ?_; clear hK K)
    have R3b := Lib.hid (show RowI N3 w' lv3 O3 from World.ownsRow.kept R3.out G4.out (by
      cases hv : lv3.ownBlock with
      | none => exact Or.inl rfl
      | some k3 =>
        refine Or.inr fun e => ?_
        have a := (World.ownsRow.lt R3.out k3 hv).1
        have b := RL1.out k3 e.symm
        have := NM2.out
        have := NM3.out
        have := SZ2.out
        omega))
    have B4 := Lib.hid (below_grown2 B.out G4.out (fun k hk => by have := (World.ownsRow.lt R1.out k hk).1; have := NM1.out; omega))
    have RB4 : Hid (Cs w.heap.size w' [.int .i64 x.fq, .int .i64 x.iv, .int .i64 x.ct, .bool x.un, .int .i64 x.ua, .bool x.ut, s6, s7, s8, s9, s10, s11, s12, s13, s14, .int .i64 x.wk]) := Lib.hid (by
      refine cs_grown2 RB.out G4.out (fun e => ?_)
      have := (World.ownsRow.lt R1.out _ e.symm).1
      have := NM1.out
      omega)
    refine (ints_b _ _ O3 (O1 ++ O2) _ (IntV.of_row R3b.out) (IntV.of_row R4.out) Q.out.2.2 (by rw [← EQ.out]; exact Q.out.2.2) true (Lib.hid (decide_eq_true EQ.out))).mono ?_
    rintro e w10 ⟨rfl, k⟩
    have RB := Lib.hid (RB4.out.below k)
    have B := Lib.hid (bstep B4.out k)
    clear k RB4 B4
    go_wp2
    go_meet
    exact ⟨rfl, RB, B⟩
  case rest =>
  obtain ⟨w10, rfl⟩ : ∃ x : World, x = wc := ⟨_, rfl⟩
  clear RB B R1 R2 R3 RL1 NM1 NM2 NM3 SZ1 SZ2 SZ3
  obtain ⟨rfl, RB, B⟩ := hcut
  clear E1 E2 E3 X1 X2 X3
  go_step
  go_step
  go_step
  go_step
  exact hK10 _ _ (spT12 x s6 s7 s8 s9 s10 s11 s12 s13 s14 T to_ n w w10 HA HU L S L3 HKB MT PE (Lib.hid (by have := BDS.out; omega)) A4 RB B _ _ _ _ _ _ _ _ _ _ _ _ _ _ _ _ _ _ _ _ _ _ _ _ _ _ _ _ _ _ _ _ _ _ _ _ _ _ _ _ _ _ _ _ _ _ _ _ _ _ _ _ _ _ _ _ _ _ _ _ _ _ _ _ _ _ _ _ _ _ _ _ _ _ _ _ _ _ _ _ _ _ _ _ _ _ _ _ _ _ _ _ _ _ _ _ _ _ _ _ _ _ _ _ _ _ _ _ _ _ _ _ _ _ _ _ _ _ _ _ _ _ _ _ _ _ _ _ _ _ _ _ _ _ _ _ _ _ _ _ _ _ _ _ _ _ _ _ _ _ _ _ _ _)
end Rru
end Go.Proofs.YtbdakbjlgljahaaGreatDoor
