/-
  RruleDays: the law answers true at every start and numbers, in whatever world that holds the table of the months.
-/
import Derived.Test.YtbdakbjlgljahaaDoorRruW
import Derived.Test.YtbdakbjlgljahaaDoorRruYF
import Derived.Test.YtbdakbjlgljahaaDoorBdFd
namespace Go.Proofs.YtbdakbjlgljahaaDoor
open Go.RowKit
namespace Rru
open Rcv (CV LisV IntV DayV)
open Rck (ckE ckB Small)
open Ap (RowI)
open Civ (Ahead)
open Fil (moO spE spT spF spQ perV perE perQ ld16 vsm vsm_mo vsm_bd vsome_to)
open Cel
theorem pl_small (fq iv n : Int) : Small (plR fq iv n) := ⟨Nat.zero_le _, Nat.zero_le _, Nat.zero_le _, Nat.zero_le _, Nat.zero_le _, Nat.zero_le _, Nat.zero_le _, Nat.zero_le _, Nat.zero_le _⟩
theorem pl_lis (fq iv n : Int) (w : World) : LisV w (plR fq iv n) (.slice none 0 0) (.slice none 0 0) (.slice none 0 0) (.slice none 0 0) (.slice none 0 0) (.slice none 0 0) (.slice none 0 0) (.slice none 0 0) (.slice none 0 0) :=
  ⟨IntV.none w, IntV.none w, IntV.none w, DayV.none w, IntV.none w, IntV.none w, IntV.none w, IntV.none w, IntV.none w⟩
theorem wrap_s {n : Int} (h : -1000000 ≤ n ∧ n ≤ 1000000) : IntKind.i64.wrap n = n := by rw [IntKind.wrap_i64]; omega
theorem u_mod (n : Int) {k : Int} (h : 1 ≤ k ∧ k ≤ 1000000) : ∃ m, (0 ≤ m ∧ m < k) ∧ Hid ((IntKind.u64.wrap n).tmod k = m ∧ IntKind.i64.wrap m = m) := by
  have u0 : 0 ≤ IntKind.u64.wrap n := by rw [IntKind.wrap_u64]; omega
  have e := Int.tmod_eq_emod_of_nonneg (b := k) u0
  have b : 0 ≤ IntKind.u64.wrap n % k ∧ IntKind.u64.wrap n % k < k := ⟨Int.emod_nonneg _ (by omega), Int.emod_lt_of_pos _ (by omega)⟩
  refine ⟨_, b, Lib.hid ⟨e, ?_⟩⟩
  generalize IntKind.u64.wrap n % k = m at b
  exact wrap_s ⟨by omega, by omega⟩
theorem start_bd (s : Int) : -62135596800 ≤ (vsm s).tmod 200000000000 ∧ (vsm s).tmod 200000000000 < 200000000000 := by
  have b := vsm_bd s
  refine ⟨?_, Int.tmod_lt_of_pos _ (by decide)⟩
  generalize vsm s = a at b ⊢
  by_cases h : 0 ≤ a
  · have := Int.tmod_nonneg 200000000000 h
    omega
  · obtain ⟨c, rfl⟩ : ∃ c, a = -c := ⟨-a, by omega⟩
    rw [Int.neg_tmod, Int.tmod_eq_of_lt (by omega) (by omega)]
    omega
set_option maxHeartbeats 25600000 in
set_option maxRecDepth 100000 in
theorem days_any (start freq every n : Int) (w : World) (hA : Ahead w) :
    Calls Tryd.prog 3 #[.int .i64 start, .int .i64 freq, .int .i64 every, .int .i64 n] w fun e w' => e = .returned (.bool true) ∧ Below w.heap.size w w' := by
  have HA := Lib.hid hA
  clear hA
  have sb := start_bd start
  obtain ⟨T0, hT⟩ : ∃ a, vsm start = a := ⟨_, rfl⟩
  have V1 := Lib.hid hT
  rw [hT] at sb
  clear hT
  obtain ⟨T, hr⟩ : ∃ z, T0.tmod 200000000000 = z := ⟨_, rfl⟩
  rw [hr] at sb
  have wr1 : IntKind.i64.wrap T = T := by rw [IntKind.wrap_i64]; omega
  have TB := Lib.hid sb
  clear sb
  go_enter Tryd.func3, Tryd.ntmps3
  go_upto_region 1 with fail
  go_cut [0] (fun a wz => a = .int .i64 T ∧ Hid (Below w.heap.size w wz))
  case first =>
    go_wp2_with fail
    refine (vsome_to start T0 _ V1).mono ?_
    rintro e w1 ⟨rfl, k⟩
    have B := Lib.hid k
    clear k
    go_wp2
    go_meet
    refine ⟨?_, B⟩
    first | rfl | (simp [hr, wr1]; done) | trace_state
  case rest =>
  obtain ⟨w1, rfl⟩ : ∃ x : World, x = wc := ⟨_, rfl⟩
  obtain ⟨rfl, B⟩ := hcut
  clear hr wr1
  obtain ⟨m1, b1, R1⟩ := u_mod freq (k := 5) (by decide)
  obtain ⟨m2, b2, R2⟩ := u_mod every (k := 50) (by decide)
  obtain ⟨m3, b3, R3⟩ := u_mod n (k := 30) (by decide)
  obtain ⟨fq, hfq⟩ : ∃ z, 1 + m1 = z := ⟨_, rfl⟩
  obtain ⟨ev, hev⟩ : ∃ z, 1 + m2 = z := ⟨_, rfl⟩
  obtain ⟨N, hNn⟩ : ∃ z : Nat, 1 + m3 = (z : Int) := ⟨(1 + m3).toNat, by omega⟩
  have NB : Hid ((1 ≤ fq ∧ fq ≤ 5) ∧ (1 ≤ ev ∧ ev ≤ 50) ∧ 1 ≤ N ∧ N ≤ 30) := Lib.hid ⟨⟨by omega, by omega⟩, ⟨by omega, by omega⟩, by omega, by omega⟩
  have x4 : IntKind.i64.wrap (1 + m1) = fq := by rw [hfq]; exact wrap_s (by omega)
  have x5 : IntKind.i64.wrap (1 + m2) = ev := by rw [hev]; exact wrap_s (by omega)
  have x6 : IntKind.i64.wrap (1 + m3) = (N : Int) := by rw [hNn]; exact wrap_s (by omega)
  have wv1 : wrap64 fq = fq := IntWalk.wrap64_in _ (by omega)
  have wv2 : wrap64 ev = ev := IntWalk.wrap64_in _ (by omega)
  have wv3 : wrap64 (N : Int) = (N : Int) := IntWalk.wrap64_in _ (by omega)
  have r1 := R1.out.1
  have r2 := R2.out.1
  have r3 := R3.out.1
  have x1 := R1.out.2
  have x2 := R2.out.2
  have x3 := R3.out.2
  clear b1 b2 b3
  go_upto_region 2 with fail
  go_cut [1, 2, 3] (fun a b c wz => a = .int .i64 fq ∧ b = .int .i64 ev ∧ c = .int .i64 N ∧ Hid (Below w.heap.size w wz))
  case first =>
    go_wp2
    go_meet
    refine ⟨?_, ?_, ?_, B⟩
    · first | rfl | (rw [wv1]; done) | (simp [r1, x1, x4, hfq, wv1]; done) | trace_state
    · first | rfl | (rw [wv2]; done) | (simp [r2, x2, x5, hev, wv2]; done) | trace_state
    · first | rfl | (rw [wv3]; done) | (simp [r3, x3, x6, hNn, wv3]; done) | trace_state
  case rest =>
  obtain ⟨w2, rfl⟩ : ∃ x : World, x = wc := ⟨_, rfl⟩
  clear B
  obtain ⟨rfl, rfl, rfl, B⟩ := hcut
  clear r1 r2 r3 hfq hev hNn x1 x2 x3 x4 x5 x6 wv1 wv2 wv3
  obtain ⟨u, hu⟩ : ∃ z, stU fq = z := ⟨_, rfl⟩
  have HU1 := Lib.hid hu
  have UBD : Hid (1 ≤ u ∧ u ≤ 604800) := Lib.hid (by rw [← hu]; exact stU_bd fq)
  clear hu
  go_upto_region 3 with fail
  go_cut [9] (fun a wz => a = .int .i64 u ∧ Hid (Below w.heap.size w wz))
  case first =>
    have hq := fq_5 NB.out.1
    rcases hq with rfl | rfl | rfl | rfl | rfl
    all_goals
      have ue := HU1.out
      first | (obtain rfl : (1 : Int) = u := ue) | (obtain rfl : (60 : Int) = u := ue) | (obtain rfl : (3600 : Int) = u := ue) | (obtain rfl : (86400 : Int) = u := ue) | (obtain rfl : (604800 : Int) = u := ue)

      go_wp2
      go_meet
      exact ⟨rfl, Lib.hid (B.out.alloc B.out.size _)⟩
  case rest =>
  obtain ⟨w3, rfl⟩ : ∃ x : World, x = wc := ⟨_, rfl⟩
  clear B
  obtain ⟨rfl, B⟩ := hcut
  obtain ⟨c1, hX⟩ := days_1 (fq := fq) (iv := ev) (n := (N : Int)) (st := T) NB.out.1 NB.out.2.1 (by have := NB.out.2.2; omega) TB.out
  rw [HU1.out, Int.toNat_natCast] at hX
  have X1 := Lib.hid hX
  clear hX
  obtain ⟨O, hO⟩ : ∃ z, (List.range N).map (fun j : Nat => T + (j : Int) * ev * u) = z := ⟨_, rfl⟩
  have X1 : Hid (tmX (plR fq ev (N : Int)) T T 4611686018427387904 3000 = (0, c1, O)) := Lib.hid (by rw [← hO]; exact X1.out)
  have OLn : Hid (O.length = N) := Lib.hid (by rw [← hO]; simp)
  have OC : Hid (∀ (j : Nat) (hj : j < O.length), O[j] = T + (j : Int) * ev * u) := Lib.hid (fun j hj => by subst hO; simp)
  clear hO
  go_upto_region 4 with fail
  go_cut [10, 12] (fun a c wz => ∃ lv, lv = a ∧ c = .int .i64 0 ∧ Hid (RowI (w.heap.size) wz lv O) ∧ Hid (Below w.heap.size w wz))
  case first =>
    go_wp2_with fail
    refine (tms_to (plR fq ev (N : Int)) _ _ _ _ _ _ _ _ _ T T 4611686018427387904 3000 _ _ (Lib.hid (HA.out.stays B.out)) (Lib.hid (show -9223372036854775808 ≤ (0 : Int) ∧ (0 : Int) ≤ 9223372036854775807 by decide)) (Lib.hid (pl_lis fq ev N _)) (Lib.hid (pl_small fq ev N)) (Lib.hid (by have := TB.out; omega)) X1).mono ?_
    rintro e w4 ⟨lv, rfl, R, k⟩
    have RO := Lib.hid (own_less2 R B.out.size)
    have B := Lib.hid (bstep B.out k)
    clear k R
    go_wp2
    go_meet
    exact ⟨_, rfl, rfl, RO, B⟩
  case rest =>
  obtain ⟨w4, rfl⟩ : ∃ x : World, x = wc := ⟨_, rfl⟩
  clear B
  obtain ⟨lv, rfl, rfl, RO, B⟩ := hcut
  have n1 := NB.out.2.2
  obtain ⟨g, cp, rfl, hg0, hg, hcl, -⟩ := RO.out.form (by rw [OLn.out]; omega)
  have HC : Hid (∀ j : Nat, j < N → ∀ X0, Below w4.heap.size w4 X0 → X0.cell? ⟨g, j, none⟩ = some (.int .i64 (T + (j : Int) * ev * u))) := Lib.hid (fun j hj X0 hx => by
    have l := OLn.out
    rw [hx.cell (p := ⟨g, j, none⟩) hg, hcl j (by omega), OC.out j (by omega)])
  have lo := OLn.out
  rw [lo]
  clear hcl hg0 RO lo
  go_wp2_with fail
  go_loopw [13] (fun iv wr => ∃ (k : Nat), k ≤ N ∧ iv = .int .i64 k ∧ Hid (Below w4.heap.size w4 wr)) (fun iv _ => N - (intOf iv).toNat)
  case atStart => exact ⟨0, by omega, by rfl, Lib.hid (Below.refl _ _)⟩
  case round =>
    obtain ⟨k, hk, rfl, K1⟩ := hrel
    obtain ⟨wo, rfl⟩ : ∃ wo : World, wo = wr := ⟨_, rfl⟩
    by_cases hlt : k < N
    · have c0 := HC.out k hlt wo K1.out
      have gw : g < wo.heap.size := Nat.lt_of_lt_of_le hg K1.out.size
      have nb := NB.out
      have ub := UBD.out
      have tb := TB.out
      obtain ⟨q, hq⟩ : ∃ z, (k : Int) * ev = z := ⟨_, rfl⟩
      have q0 : 0 ≤ q ∧ q ≤ 1500 := by
        rw [← hq]
        exact ⟨Int.mul_nonneg (by omega) (by omega), Int.mul_le_mul (show (k : Int) ≤ 30 by omega) nb.2.1.2 (by omega) (by decide)⟩
      obtain ⟨r, hr⟩ : ∃ z, q * u = z := ⟨_, rfl⟩
      have r0 : 0 ≤ r ∧ r ≤ 1500 * 604800 := by
        rw [← hr]
        exact ⟨Int.mul_nonneg (by omega) (by omega), Int.mul_le_mul q0.2 ub.2 (by omega) (by decide)⟩
      rw [hq, hr] at c0
      have s1 : IntKind.i64.wrap ((k : Int) + 1) = ((k + 1 : Nat) : Int) := by rw [IntWalk.i64_in _ (by omega)]; omega
      have s2 : IntKind.i64.wrap q = q := by rw [IntKind.wrap_i64]; omega
      have s3 : IntKind.i64.wrap r = r := by rw [IntKind.wrap_i64]; omega
      have s4 : IntKind.i64.wrap (T + r) = T + r := by rw [IntKind.wrap_i64]; omega
      clear nb ub tb q0 r0
      go_wp2_with fail
      go_roundw
      case rel => exact ⟨k + 1, by omega, by first | rfl | (rw [s1]) | go_num, K1⟩
      case measure => simp [intOf]; omega
    · obtain rfl : k = N := by omega
      have B := Lib.hid (bstep B.out K1.out)
      go_wp2_with fail
      refine (wakes23_any _ (HA.out.stays B.out)).mono ?_
      rintro e w13 ⟨rfl, k⟩
      go_wp2
      go_ret
      exact ⟨ret_b rfl, bstep B.out k⟩
end Rru
end Go.Proofs.YtbdakbjlgljahaaDoor
