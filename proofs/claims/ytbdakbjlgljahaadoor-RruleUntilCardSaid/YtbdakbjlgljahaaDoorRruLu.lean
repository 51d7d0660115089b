/-
  RruleUntil: the law answers true at every start and numbers, in whatever world that holds the table of the months.
-/
import Derived.Test.YtbdakbjlgljahaaDoorRruW
import Derived.Test.YtbdakbjlgljahaaDoorRruYE
import Derived.Test.YtbdakbjlgljahaaDoorBdFd
namespace Go.Proofs.YtbdakbjlgljahaaDoor
open Go.RowKit
namespace Rru
open Rcv (CV LisV IntV DayV)
open Rck (ckE ckB Small)
open Ap (RowI)
open Civ (Ahead)
open Fil (moO spE spT spF spQ perV perE perQ ld16 vsm vsm_mo vsm_bd vsome_to)
open Cel
theorem dy_small (iv ua : Int) : Small (dyR iv ua) := ⟨Nat.zero_le _, Nat.zero_le _, Nat.zero_le _, Nat.zero_le _, Nat.zero_le _, Nat.zero_le _, Nat.zero_le _, Nat.zero_le _, Nat.zero_le _⟩
theorem dy_lis (iv ua : Int) (w : World) : LisV w (dyR iv ua) (.slice none 0 0) (.slice none 0 0) (.slice none 0 0) (.slice none 0 0) (.slice none 0 0) (.slice none 0 0) (.slice none 0 0) (.slice none 0 0) (.slice none 0 0) :=
  ⟨IntV.none w, IntV.none w, IntV.none w, DayV.none w, IntV.none w, IntV.none w, IntV.none w, IntV.none w, IntV.none w⟩
theorem tmod_big (a : Int) : -200000000000 < a.tmod 200000000000 ∧ a.tmod 200000000000 < 200000000000 := ⟨by
  have := Int.lt_tmod_of_pos a (show (0 : Int) < 200000000000 by decide)
  omega, Int.tmod_lt_of_pos a (by decide)⟩
set_option maxHeartbeats 25600000 in
set_option maxRecDepth 100000 in
theorem until_any (start every n more : Int) (w : World) (hA : Ahead w) :
    Calls Tryd.prog 5 #[.int .i64 start, .int .i64 every, .int .i64 n, .int .i64 more] w fun e w' => e = .returned (.bool true) ∧ Below w.heap.size w w' := by
  have HA := Lib.hid hA
  clear hA
  obtain ⟨T0, hT⟩ : ∃ a, vsm start = a := ⟨_, rfl⟩
  have V1 := Lib.hid hT
  clear hT
  obtain ⟨r, hr⟩ : ∃ z, T0.tmod 200000000000 = z := ⟨_, rfl⟩
  have rb := tmod_big T0
  rw [hr] at rb
  have wr1 : IntKind.i64.wrap r = r := by rw [IntKind.wrap_i64]; omega
  obtain ⟨T, hTm⟩ : ∃ z, max r (-62000000000) = z := ⟨_, rfl⟩
  have TB : Hid (-62000000000 ≤ T ∧ T ≤ 200000000000) := Lib.hid (by omega)
  clear rb
  go_enter Tryd.func5, Tryd.ntmps5
  go_upto_region 1 with fail
  go_cut [0] (fun a wz => a = .int .i64 T ∧ Hid (Below w.heap.size w wz))
  case first =>
    go_wp2_with fail
    refine (vsome_to start T0 _ V1).mono ?_
    rintro e w1 ⟨rfl, k⟩
    have B := Lib.hid k
    clear k
    go_wp2
    go_meet
    refine ⟨?_, B⟩
    first | rfl | (simp [hr, wr1, hTm]; done) | trace_state
  case rest =>
  obtain ⟨w1, rfl⟩ : ∃ x : World, x = wc := ⟨_, rfl⟩
  obtain ⟨rfl, B⟩ := hcut
  clear hr wr1 hTm
  obtain ⟨U1, hU1⟩ : ∃ u, IntKind.u64.wrap every = u := ⟨_, rfl⟩
  obtain ⟨U2, hU2⟩ : ∃ u, IntKind.u64.wrap n = u := ⟨_, rfl⟩
  obtain ⟨U3, hU3⟩ : ∃ u, IntKind.u64.wrap more = u := ⟨_, rfl⟩
  have u1 : 0 ≤ U1 ∧ U1 < 18446744073709551616 := by rw [← hU1, IntKind.wrap_u64]; omega
  have u2 : 0 ≤ U2 ∧ U2 < 18446744073709551616 := by rw [← hU2, IntKind.wrap_u64]; omega
  have u3 : 0 ≤ U3 ∧ U3 < 18446744073709551616 := by rw [← hU3, IntKind.wrap_u64]; omega
  obtain ⟨m1, hm1⟩ : ∃ m, U1 % 10 = m := ⟨_, rfl⟩
  obtain ⟨nn, hm2⟩ : ∃ m, U2 % 20 = m := ⟨_, rfl⟩
  obtain ⟨mo, hm3⟩ : ∃ m, U3 % 86400 = m := ⟨_, rfl⟩
  have b1 : 0 ≤ m1 ∧ m1 < 10 := by omega
  have b2 : 0 ≤ nn ∧ nn ≤ 19 := by omega
  have b3 : 0 ≤ mo ∧ mo < 86400 := by omega
  have r1 : U1.tmod 10 = m1 := by rw [Int.tmod_eq_emod_of_nonneg u1.1, hm1]
  have r2 : U2.tmod 20 = nn := by rw [Int.tmod_eq_emod_of_nonneg u2.1, hm2]
  have r3 : U3.tmod 86400 = mo := by rw [Int.tmod_eq_emod_of_nonneg u3.1, hm3]
  obtain ⟨ev, hev⟩ : ∃ z, 1 + m1 = z := ⟨_, rfl⟩
  have x1 : IntKind.i64.wrap m1 = m1 := by rw [IntKind.wrap_i64]; omega
  have x2 : IntKind.i64.wrap nn = nn := by rw [IntKind.wrap_i64]; omega
  have x3 : IntKind.i64.wrap mo = mo := by rw [IntKind.wrap_i64]; omega
  have x4 : IntKind.i64.wrap (1 + m1) = ev := by rw [IntKind.wrap_i64]; omega
  have wv : wrap64 ev = ev := IntWalk.wrap64_in _ (by omega)
  have NB : Hid ((1 ≤ ev ∧ ev ≤ 10) ∧ (0 ≤ nn ∧ nn ≤ 19) ∧ 0 ≤ mo ∧ mo < 86400) := Lib.hid (by omega)
  clear b1 b2 b3 u1 u2 u3 hm1 hm2 hm3
  go_upto_region 2 with fail
  go_cut [1, 2, 3] (fun a b c wz => a = .int .i64 ev ∧ b = .int .i64 nn ∧ c = .int .i64 mo ∧ Hid (Below w.heap.size w wz))
  case first =>
    go_wp2
    go_meet
    refine ⟨?_, ?_, ?_, B⟩
    · first | rfl | (rw [wv]; done) | (simp [hU1, r1, x1, x4, hev, wv]; done) | trace_state
    · first | rfl | (simp [hU2, r2, x2]; done) | trace_state
    · first | rfl | (simp [hU3, r3, x3]; done) | trace_state
  case rest =>
  obtain ⟨w2, rfl⟩ : ∃ x : World, x = wc := ⟨_, rfl⟩
  clear B
  obtain ⟨rfl, rfl, rfl, B⟩ := hcut
  clear hU1 hU2 hU3 r1 r2 r3 hev x1 x2 x3 x4 wv
  have ni : 0 ≤ nn * ev ∧ nn * ev ≤ 190 := ⟨Int.mul_nonneg (by have := NB.out; omega) (by have := NB.out; omega), by
    have := Int.mul_le_mul NB.out.2.1.2 NB.out.1.2 (by have := NB.out; omega) (by omega)
    omega⟩
  obtain ⟨q, hq⟩ : ∃ z, nn * ev = z := ⟨_, rfl⟩
  rw [hq] at ni
  obtain ⟨ua, hua⟩ : ∃ z, T + q * 86400 + mo = z := ⟨_, rfl⟩
  have tb := TB.out
  have nb := NB.out
  have y1 : IntKind.i64.wrap (nn * ev) = q := by rw [hq, IntKind.wrap_i64]; omega
  have y1b : IntKind.i64.wrap q = q := by rw [IntKind.wrap_i64]; omega
  have y2 : IntKind.i64.wrap (q * 86400) = q * 86400 := by rw [IntKind.wrap_i64]; omega
  have y3 : IntKind.i64.wrap (T + q * 86400) = T + q * 86400 := by rw [IntKind.wrap_i64]; omega
  have y4 : IntKind.i64.wrap (T + q * 86400 + mo) = ua := by rw [IntKind.wrap_i64]; omega
  have wu : wrap64 ua = ua := IntWalk.wrap64_in _ (by omega)
  have UB : Hid (-62000000000 ≤ ua ∧ ua ≤ 200100000000) := Lib.hid (by omega)
  have UQ : Hid (ua = T + nn * ev * 86400 + mo) := Lib.hid (by rw [hq]; exact hua.symm)
  have HQ := Lib.hid hq
  have QB := Lib.hid ni
  clear tb nb ni
  go_upto_region 3 with fail
  go_cut [9] (fun p wz => ∃ g, p = .pointer (some ⟨g, 0, none⟩) ∧ Hid (w.heap.size ≤ g) ∧ Hid (Cs g wz [.int .i64 4, .int .i64 ev, .int .i64 0, .bool true, .int .i64 ua, .bool false, .slice none 0 0, .slice none 0 0, .slice none 0 0, .slice none 0 0, .slice none 0 0, .slice none 0 0, .slice none 0 0, .slice none 0 0, .slice none 0 0, .int .i64 1]) ∧ Hid (Below w.heap.size w wz))
  case first =>
    go_wp2
    go_meet
    refine ⟨w2.heap.size, rfl, Lib.hid B.out.size, ?_, Lib.hid (B.out.alloc B.out.size _)⟩
    first | exact Lib.hid (cs_at (by simp) _ _) | (rw [wu]; exact Lib.hid (Cs.new w2 _ _)) | (simp only [hq, y1, y1b, y2, y3, y4]; exact Lib.hid (cs_at (by simp) _ _)) | trace_state
  case rest =>
  obtain ⟨w3, rfl⟩ : ∃ x : World, x = wc := ⟨_, rfl⟩
  clear B
  obtain ⟨g, rfl, HG, RB, B⟩ := hcut
  clear hq y1 y1b y2 y3 y4 hua wu
  obtain ⟨c1, O1, hX, hO⟩ := until_1 TB.out NB.out.1 NB.out.2.1 NB.out.2.2 UQ.out
  have X1 := Lib.hid hX
  have HO := Lib.hid hO
  clear hX hO
  go_upto_region 4 with fail
  go_cut [10, 12] (fun a c wz => ∃ lv, lv = a ∧ c = .int .i64 0 ∧ Hid (RowI (w.heap.size + 1) wz lv O1) ∧ Hid (∀ k, lv.ownBlock = some k → k ≠ g) ∧ Hid (Cs g wz [.int .i64 4, .int .i64 ev, .int .i64 0, .bool true, .int .i64 ua, .bool false, .slice none 0 0, .slice none 0 0, .slice none 0 0, .slice none 0 0, .slice none 0 0, .slice none 0 0, .slice none 0 0, .slice none 0 0, .slice none 0 0, .int .i64 1]) ∧ Hid (Below w.heap.size w wz))
  case first =>
    go_wp2_with (refine ld16 RB.out rfl (by rfl) (by rfl) (by rfl) ?_; intro K hK; go_simp)
    refine (tms_to (dyR ev ua) _ _ _ _ _ _ _ _ _ T T 4611686018427387904 3000 _ _ (Lib.hid (HA.out.stays B.out)) (Lib.hid (show -9223372036854775808 ≤ ua ∧ ua ≤ 9223372036854775807 by have := UB.out; omega)) (Lib.hid (dy_lis ev ua _)) (Lib.hid (dy_small ev ua)) (Lib.hid (by have := TB.out; omega)) X1).mono ?_
    rintro e w4 ⟨lv, rfl, R, k⟩
    have RN := Lib.hid (fun k hk => (show k ≠ g by have := (World.ownsRow.lt R k hk).1; have := RB.out.1; omega))
    have RO := Lib.hid (own_less2 R (show w.heap.size + 1 ≤ w3.heap.size by have := RB.out.1; have := HG.out; omega))
    have RB := Lib.hid (RB.out.below k)
    have B := Lib.hid (bstep B.out k)
    clear k R
    go_wp2
    go_meet
    exact ⟨_, rfl, rfl, RO, RN, RB, B⟩
  case rest =>
  obtain ⟨w4, rfl⟩ : ∃ x : World, x = wc := ⟨_, rfl⟩
  clear RB B
  obtain ⟨lv, rfl, rfl, RO, RN, RB, B⟩ := hcut
  have g4 := (RB.out.2 4 _ rfl).1
  have g4b := (RB.out.2 4 _ rfl).2
  have tb := TB.out
  have z1 : IntKind.i64.wrap (T - 1) = T - 1 := by rw [IntKind.wrap_i64]; omega
  clear tb
  go_upto_region 5 with fail
  go_cut [9] (fun p wz => p = .pointer (some ⟨g, 0, none⟩) ∧ Hid (IntV wz lv O1) ∧ Hid (Cs g wz [.int .i64 4, .int .i64 ev, .int .i64 0, .bool true, .int .i64 (T - 1), .bool false, .slice none 0 0, .slice none 0 0, .slice none 0 0, .slice none 0 0, .slice none 0 0, .slice none 0 0, .slice none 0 0, .slice none 0 0, .slice none 0 0, .int .i64 1]) ∧ Hid (Below w.heap.size w wz))
  case first =>
    obtain ⟨A, cc, rfl⟩ := RO.out.forms
    go_wp2
    go_meet
    refine ⟨rfl, Lib.hid (IntV.of_row (row_put RO.out (fun e => RN.out g e.symm rfl))), ?_, Lib.hid (B.out.setCell (p := ⟨g, 4, none⟩) HG.out _)⟩
    first | exact Lib.hid (RB.out.set 4 (by simp) _) | (rw [z1]; exact Lib.hid (RB.out.set 4 (by simp) _)) | trace_state
  case rest =>
  obtain ⟨w5, rfl⟩ : ∃ x : World, x = wc := ⟨_, rfl⟩
  clear RB B RO RN g4 g4b z1
  obtain ⟨rfl, RO, RB, B⟩ := hcut
  obtain ⟨c2, hX2, hc2⟩ := until_2 (iv := ev) (st := T) TB.out NB.out.1
  have X2 := Lib.hid hX2
  have HC := Lib.hid hc2
  clear hX2 hc2
  have tb := TB.out
  have z2 : IntKind.i64.wrap (T - 86400) = T - 86400 := by rw [IntKind.wrap_i64]; omega
  clear tb
  go_upto_region 6 with fail
  go_cut [13, 14, 15] (fun a b c wz => ∃ lv2, lv2 = a ∧ b = .int .i64 c2 ∧ c = .int .i64 0 ∧ Hid (IntV wz lv2 [T]) ∧ Hid (IntV wz lv O1) ∧ Hid (Below w.heap.size w wz))
  case first =>
    go_wp2_with (refine ld16 RB.out rfl (by rfl) (by rfl) (by rfl) ?_; intro K hK; go_simp)
    refine (tms_to (dyR ev (T - 1)) _ _ _ _ _ _ _ _ _ T (T - 86400) 4611686018427387904 3000 _ _ (Lib.hid (HA.out.stays B.out)) (Lib.hid (show -9223372036854775808 ≤ T - 1 ∧ T - 1 ≤ 9223372036854775807 by have := TB.out; omega)) (Lib.hid (dy_lis ev (T - 1) _)) (Lib.hid (dy_small ev (T - 1))) (Lib.hid (by have := TB.out; omega)) X2).mono ?_
    rintro e w6 ⟨lv2, rfl, R, k⟩
    have R2 := Lib.hid (IntV.of_row R)
    have RO := Lib.hid (RO.out.below k)
    have B := Lib.hid (bstep B.out k)
    clear k R
    go_wp2
    go_meet
    exact ⟨_, rfl, rfl, rfl, R2, RO, B⟩
  case rest =>
  obtain ⟨w6, rfl⟩ : ∃ x : World, x = wc := ⟨_, rfl⟩
  clear RB B RO z2
  obtain ⟨lv2, rfl, rfl, rfl, R2, RO, B⟩ := hcut
  obtain ⟨N, hN⟩ : ∃ z : Nat, nn.toNat = z := ⟨_, rfl⟩
  have nb := NB.out
  have hnn : nn = (N : Int) := by omega
  have NN : Hid (N ≤ 19) := Lib.hid (by omega)
  clear nb
  have HO2 : Hid (O1 = (List.range (N + 1)).map (fun j : Nat => T + (j : Int) * ev * 86400)) := Lib.hid (by rw [← hN]; exact HO.out)
  have hl : O1.length = N + 1 := by rw [HO2.out]; simp
  obtain ⟨gl, ol, cl, rfl, gb, gc⟩ := RO.out.form (by rw [hl]; omega)
  have cN : w6.cell? ⟨gl, ol + N, none⟩ = some (.int .i64 (T + nn * ev * 86400)) := by
    rw [gc N (by rw [hl]; omega)]
    simp only [HO2.out, List.getElem_map, List.getElem_range, hnn]
  clear gc hN
  rw [hl] at *
  have Q2 := HQ.out
  have tb := TB.out
  have qb := QB.out
  rw [Q2] at cN
  have nnb := NN.out
  have s1 : IntKind.i64.wrap ((N : Int) + 1) = (N : Int) + 1 := by rw [IntKind.wrap_i64]; omega
  have s2 : IntKind.i64.wrap ((N : Int) * ev) = q := by rw [← hnn, Q2, IntKind.wrap_i64]; omega
  have s3 : IntKind.i64.wrap (q * 86400) = q * 86400 := by rw [IntKind.wrap_i64]; omega
  have s4 : IntKind.i64.wrap (T + q * 86400) = T + q * 86400 := by rw [IntKind.wrap_i64]; omega
  clear tb qb Q2 hl
  subst hnn
  go_upto_region 7 with fail
  go_cut [84] (fun a wz => a = .bool false ∧ Hid (IntV wz lv2 [T]) ∧ Hid (Below w.heap.size w wz))
  case first =>
    go_wp2
    go_meet
    refine ⟨?_, R2, B⟩
    first | rfl | (simp [s1, s2, s3, s4]; done) | trace_state
  case rest =>
  obtain ⟨w7, rfl⟩ : ∃ x : World, x = wc := ⟨_, rfl⟩
  clear R2 B RO cN gb s1 s2 s3 s4
  obtain ⟨rfl, R2, B⟩ := hcut
  have hc2 : c2 ≤ 2 := HC.out
  go_wp2_with fail
  have k0 : Below w7.heap.size w7 (w7.alloc (Obj.cells #[.int .i64 T] 3)) := (Below.refl _ _).alloc (Nat.le_refl _) _
  refine (ints_b _ _ [T] [T] _ (R2.out.below k0) (int_cs (L := [T]) (Cs.new w7 _ _)) (by simp) (by simp) true (Lib.hid (decide_eq_true rfl))).mono ?_
  rintro e w8 ⟨rfl, k⟩
  have B := Lib.hid (bstep B.out (bstep k0 k))
  clear k k0
  go_wp2_with fail
  refine (wakes23_any _ (HA.out.stays B.out)).mono ?_
  rintro e w13 ⟨rfl, k⟩
  go_wp2
  go_ret
  exact ⟨ret_b rfl, bstep B.out k⟩
end Rru
end Go.Proofs.YtbdakbjlgljahaaDoor
