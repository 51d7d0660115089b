/-
  OnsetLater. (Written by gen/gen_onsl.py.)
-/
import Derived.Test.YthefgagmjamdkaaDoorOnsW
namespace Go.Proofs.YthefgagmjamdkaaDoor
open Go.RowKit
namespace Ons
open Rul Rs Cel
open Ap (Grew)
theorem wrap_t {n : Int} (h : -1000000000000000 ≤ n ∧ n ≤ 1000000000000000) : IntKind.i64.wrap n = n := by rw [IntKind.wrap_i64]; omega
theorem uu_mod (n : Int) {k : Int} (h : 1 ≤ k ∧ k ≤ 1000000) : ∃ m, (0 ≤ m ∧ m < k) ∧ Hid ((IntKind.u64.wrap n).tmod k = m ∧ IntKind.i64.wrap m = m) := by
  have u0 : 0 ≤ IntKind.u64.wrap n := by rw [IntKind.wrap_u64]; omega
  have e := Int.tmod_eq_emod_of_nonneg (b := k) u0
  have b : 0 ≤ IntKind.u64.wrap n % k ∧ IntKind.u64.wrap n % k < k := ⟨Int.emod_nonneg _ (by omega), Int.emod_lt_of_pos _ (by omega)⟩
  refine ⟨_, b, Lib.hid ⟨e, ?_⟩⟩
  generalize IntKind.u64.wrap n % k = m at b
  exact wrap_t ⟨by omega, by omega⟩
theorem filt_snoc (K : List OV) (a : Int) (j : Nat) (hj : j < K.length) : (K.take (j + 1)).filter (fun o => decide (o.2.1 ≤ a)) = (K.take j).filter (fun o => decide (o.2.1 ≤ a)) ++ (if K[j].2.1 ≤ a then [K[j]] else []) := by
  rw [List.take_succ_eq_append_getElem hj, List.filter_append]
  congr 1
  by_cases h : K[j].2.1 ≤ a
  · rw [if_pos h]; simp [h]
  · rw [if_neg h]; simp [h]
set_option maxHeartbeats 25600000 in
set_option maxRecDepth 100000 in
theorem later_any (v : Value) (NM : List UInt8) (a0 b0 : Int) (L : List RV) (w : World) (hA : Civ.Ahead w) (hv : RulV w v L) (hbd : ∀ r ∈ L, BdV r) (hlen : L.length ≤ maxLen) :
    Calls Tryd.prog 5 #[v, .string ⟨NM.toArray⟩, .int .i64 a0, .int .i64 b0] w fun e w' => e = .returned (.bool true) ∧ Below w.heap.size w w' := by
  obtain ⟨m1, b1, R1⟩ := uu_mod a0 (k := 9000) (by decide)
  obtain ⟨m2, b2, R2⟩ := uu_mod b0 (k := 900) (by decide)
  obtain ⟨a, ha⟩ : ∃ z, 1 + m1 = z := ⟨_, rfl⟩
  have MB : Hid ((1 ≤ a ∧ a ≤ 9000) ∧ 0 ≤ m2 ∧ m2 < 900) := Lib.hid (by omega)
  have x1 : IntKind.i64.wrap (1 + m1) = a := by rw [ha]; exact wrap_t (by omega)
  have wv1 : wrap64 a = a := IntWalk.wrap64_in _ (by omega)
  have wv2 : wrap64 m2 = m2 := IntWalk.wrap64_in _ (by omega)
  have X9 := Lib.hid (And.intro x1 (And.intro wv1 (And.intro wv2 ha)))
  clear b1 b2 x1 wv1 wv2 ha
  obtain ⟨AV, cV, hsl⟩ := hv.slice
  subst hsl
  obtain ⟨N, hN⟩ : ∃ N, L.length = N := ⟨_, rfl⟩
  rw [hN] at hv hlen ⊢
  unfold maxLen at hlen
  have HN := Lib.hid hN
  have HA := Lib.hid hA
  have HV := Lib.hid hv
  have HBD := Lib.hid (fun (r : RV) (hr : r ∈ L) => And.intro (hbd r hr).nm (hbd r hr).lt)
  have HLM : Hid (L.length ≤ maxLen) := Lib.hid (by rw [hN]; exact hlen)
  clear hN hA hv hbd
  go_enter Tryd.func5, Tryd.ntmps5
  go_wp2_with fail
  refine (hv_to _ L _ HV.out HBD.out HLM.out).mono ?_
  rintro e w1 ⟨⟨hb, rfl, HL⟩, k1⟩
  have B1 := Lib.hid k1
  clear k1
  cases hb with
  | true =>
    clear HL
    go_wp2
    go_ret
    exact ⟨rfl, B1.out⟩
  | false =>
  have HLT := Lib.hid (HL rfl)
  have V1 := Lib.hid (HV.out.below B1.out)
  obtain ⟨rb, hrb⟩ : ∃ rb, L.all chkB = rb := ⟨_, rfl⟩
  have HRB := Lib.hid hrb
  clear HL hrb
  go_wp2_with fail
  refine (rgt_to _ L rb _ V1.out HLT.out HRB).mono ?_
  rintro e w2 ⟨rfl, k2⟩
  have B2 := Lib.hid (bstep B1.out k2)
  have V2 := Lib.hid (V1.out.below k2)
  clear k2 V1 B1
  cases rb with
  | false =>
    go_wp2
    go_ret
    exact ⟨rfl, B2.out⟩
  | true =>
  by_cases h200 : 200 < N
  · go_wp2
    go_ret
    exact ⟨rfl, B2.out⟩
  have SM : Hid (∀ r ∈ L, r.nm.length ≤ 1000000 ∧ r.lt.length ≤ 1000000) := Lib.hid (fun r hr => by have := HLT.out.2 r hr; omega)
  have OK : Hid (okE L = 0) := Lib.hid (by rw [okE, if_neg (by rw [HN.out]; exact h200), if_pos HRB.out])
  have LB : Hid (L.length ≤ 1000000000) := Lib.hid (by rw [HN.out]; omega)
  go_upto_region 3 with fail
  go_cut [2, 3] (fun p q wz => p = .int .i64 a ∧ q = .int .i64 m2 ∧ wz = w2)
  case first =>
    obtain ⟨x1, wv1, wv2, ha⟩ := X9.out
    have r1 := R1.out.1
    have r2 := R2.out.1
    have z1 := R1.out.2
    have z2 := R2.out.2
    go_wp2
    go_meet
    refine ⟨?_, ?_, rfl⟩
    · first | rfl | (rw [wv1]; done) | (simp [r1, z1, x1, ha, wv1]; done) | trace_state
    · first | rfl | (rw [wv2]; done) | (simp [r2, z2, wv2]; done) | trace_state
  case rest =>
  obtain ⟨rfl, rfl, rfl⟩ := hcut
  clear X9 R1 R2
  obtain ⟨K, hK⟩ : ∃ K, onS NM a L = K := ⟨_, rfl⟩
  obtain ⟨M, hM⟩ : ∃ M, onS NM (a + m2) L = M := ⟨_, rfl⟩
  have KM : Hid (M.filter (fun o => decide (o.2.1 ≤ a)) = K) := Lib.hid (by rw [← hM, ← hK]; exact onS_filter NM L (by have := MB.out; omega))
  have E1 : Hid (ofE a L = 0) := Lib.hid (by rw [ofE, if_pos OK.out, if_pos (by have := MB.out; omega)])
  have E2 : Hid (ofE (a + m2) L = 0) := Lib.hid (by rw [ofE, if_pos OK.out, if_pos (by have := MB.out; omega)])
  have O1 : Hid (ofO NM a L = K) := Lib.hid (by rw [ofO, if_pos E1.out, hK])
  have O2 : Hid (ofO NM (a + m2) L = M) := Lib.hid (by rw [ofO, if_pos E2.out, hM])
  have YR : ∀ r ∈ L, 1 ≤ r.fr ∧ r.tu ≤ 9999 := fun r hr => by
    obtain ⟨nm, fr, tu, mo, kk, vv, dd, nn, cc, sv, lt⟩ := r
    obtain ⟨f1, f2, f3, _, _⟩ := chk_n (List.all_eq_true.1 HRB.out _ hr)
    exact ⟨f1, f3⟩
  have ML : Hid (M.length ≤ 2000000) := Lib.hid (by
    rw [← hM, onS, sortO_len]
    have := onG_len (nm := NM) (last := a + m2) YR L.length (Nat.le_refl _)
    have := HN.out
    omega)
  clear hK hM YR
  go_wp2_with fail
  refine (of_to _ NM a L 0 K _ (HA.out.stays B2.out) V2.out SM LB.out E1 O1).mono ?_
  rintro e w3 ⟨lx, rfl, r3, k3⟩
  have B3 := Lib.hid (bstep B2.out k3)
  have V3 := Lib.hid (V2.out.below k3)
  have X3 := Lib.hid (RowT.val ovC_len r3)
  clear k3 r3 V2 B2
  have wab : IntKind.i64.wrap (a + m2) = a + m2 := wrap_t (by have := MB.out; omega)
  go_wp2_with fail
  refine (of_to _ NM (a + m2) L 0 M _ (HA.out.stays B3.out) V3.out SM LB.out E2 O2).mono ?_
  rintro e w4 ⟨ly, rfl, r4, k4⟩
  have B4 := Lib.hid (bstep B3.out k4)
  have X4 := Lib.hid (X3.out.below k4)
  have Y4 := Lib.hid (RowT.val ovC_len r4)
  clear k4 r4 V3 B3 X3 wab
  obtain ⟨Ay, cy, hsy⟩ := Y4.out.slice
  subst hsy
  obtain ⟨MN, hMN⟩ : ∃ MN, M.length = MN := ⟨_, rfl⟩
  have HMN := Lib.hid hMN
  have hml := ML.out
  rw [hMN] at Y4 hml ⊢
  clear hMN
  go_wp2
  go_loopw [13, 14] (fun zv iv wr => ∃ (j : Nat) (sv9 : Value), j ≤ MN ∧ sv9 = zv ∧ iv = .int .i64 j ∧ Hid (RowO w4.heap.size wr sv9 ((M.take j).filter (fun o => decide (o.2.1 ≤ a)))) ∧ Hid (Below w4.heap.size w4 wr)) (fun _ i _ => MN - (intOf i).toNat)
  case atStart => exact ⟨0, _, Nat.zero_le _, rfl, rfl, Lib.hid (RowO.nil _ _), Lib.hid (Below.refl _ _)⟩
  case round =>
    obtain ⟨j, sv9, hj, rfl, rfl, HR, HB⟩ := hrel
    obtain ⟨wo, rfl⟩ : ∃ wo : World, wo = wr := ⟨_, rfl⟩
    by_cases hlt : j < MN
    · have hjM : j < M.length := by rw [HMN.out]; exact hlt
      obtain ⟨by_, oy, cy2, e1, hby, hrow⟩ := RowV.form (Y4.out) (by omega)
      rw [HMN.out] at e1
      injection e1 with e1 e2 e3
      subst e1 e3
      have r0 := range_below hby (hrow j hjM) HB.out
      have HS := filt_snoc M a j hjM
      obtain ⟨r, hr⟩ : ∃ r, M[j]'hjM = r := ⟨_, rfl⟩
      rw [hr] at r0 HS
      have HSX := Lib.hid HS
      clear hr hrow HS e2
      obtain ⟨q1, q2, q3⟩ := r
      have c0 : wo.cell? ⟨by_, oy + j * 3, none⟩ = some (.int .i64 q1) := r0 0 _ rfl
      have c1 := r0 1 _ rfl
      have c2 := r0 2 _ rfl
      obtain ⟨A9, c9, hf9⟩ := RowT.forms HR.out
      obtain ⟨F, hF⟩ : ∃ F, ((M.take j).filter (fun o => decide (o.2.1 ≤ a))).length = F := ⟨_, rfl⟩
      rw [hF] at hf9
      subst hf9
      have HF := Lib.hid hF
      have hF8 : F ≤ 100000000 := by
        rw [← hF]
        have := List.length_filter_le (fun o : OV => decide (o.2.1 ≤ a)) (M.take j)
        have := List.length_take_le j M
        omega
      clear hF r0
      by_cases hy : q2 ≤ a
      · have HG : Hid ((M.take (j + 1)).filter (fun o => decide (o.2.1 ≤ a)) = (M.take j).filter (fun o => decide (o.2.1 ≤ a)) ++ [(q1, q2, q3)]) := Lib.hid (by rw [HSX.out]; rw [if_pos (show ((q1, q2, q3) : OV).2.1 ≤ a from hy)])
        have hsz := HB.out.size
        clear HSX
        go_wp2_with (at_builtin; refine appO rfl _ _ rfl w4.heap.size _ ((M.take j).filter (fun o => decide (o.2.1 ≤ a))) F HF.out rfl HR.out q1 q2 q3 rfl hF8 hsz ?_)
        intro wn gg gcap r5 g5 k5
        have B5 := Lib.hid (g5.below w4.heap.size w4 (Nat.le_refl _) HB.out hsz)
        have R5 : Hid (RowO w4.heap.size wn _ ((M.take (j + 1)).filter (fun o => decide (o.2.1 ≤ a)))) := Lib.hid (by rw [HG.out]; exact r5)
        clear r5 g5 k5 c0 c1 c2
        go_wp2
        go_roundw
        case rel => exact ⟨j + 1, _, by omega, rfl, by go_num, R5, B5⟩
        case measure => simp [intOf]; omega
      · have HG : Hid ((M.take (j + 1)).filter (fun o => decide (o.2.1 ≤ a)) = (M.take j).filter (fun o => decide (o.2.1 ≤ a))) := Lib.hid (by rw [HSX.out]; rw [if_neg (show ¬ ((q1, q2, q3) : OV).2.1 ≤ a from hy), List.append_nil])
        have R5 : Hid (RowO w4.heap.size wo (.slice A9 F c9) ((M.take (j + 1)).filter (fun o => decide (o.2.1 ≤ a)))) := Lib.hid (by rw [HG.out]; exact HR.out)
        clear HSX HG
        go_wp2
        go_roundw
        case rel => exact ⟨j + 1, _, by omega, rfl, by go_num, R5, HB⟩
        case measure => simp [intOf]; omega
    · have RK : Hid (RowV ovC 3 wo sv9 K) := Lib.hid (by
        have := RowT.val ovC_len HR.out
        rw [List.take_of_length_le (by rw [HMN.out]; omega), KM.out] at this
        exact this)
      have XK := Lib.hid (X4.out.below HB.out)
      have KL : Hid (K.length ≤ 1000000000) := Lib.hid (by
        rw [← KM.out]
        have := List.length_filter_le (fun o : OV => decide (o.2.1 ≤ a)) M
        have := ML.out
        omega)
      have B5 := Lib.hid (bstep B4.out HB.out)
      clear HR HB
      go_wp2_with fail
      refine (kon_to _ _ K _ XK.out RK.out KL.out).mono ?_
      rintro e w6 ⟨rfl, k6⟩
      have B6 := Lib.hid (bstep B5.out k6)
      clear k6 B5
      go_wp2_with fail
      refine (wakes13_any _ (HA.out.stays B6.out)).mono ?_
      rintro e w7 ⟨rfl, k7⟩
      have B7 := Lib.hid (bstep B6.out k7)
      clear k7
      go_wp2
      go_ret
      exact ⟨rfl, B7.out⟩
theorem str_of (s : ByteArray) : ∃ S : List UInt8, s = ⟨S.toArray⟩ := ⟨s.data.toList, by cases s; simp⟩
theorem later_w (v : Value) (name : ByteArray) (a0 b0 : Int) (L : List RV) (w : World) (hA : Civ.Ahead w) (hv : RulV w v L) (hbd : ∀ r ∈ L, BdV r) (hlen : L.length ≤ maxLen) :
    Calls Tryd.prog 5 #[v, .string name, .int .i64 a0, .int .i64 b0] w fun e w' => e = .returned (.bool true) ∧ Below w.heap.size w w' := by
  obtain ⟨NM, rfl⟩ := str_of name
  exact later_any v NM a0 b0 L w hA hv hbd hlen
end Ons
end Go.Proofs.YthefgagmjamdkaaDoor
