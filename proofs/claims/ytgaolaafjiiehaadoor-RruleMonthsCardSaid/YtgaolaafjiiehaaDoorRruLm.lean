/-
  RruleMonths: the law answers true at every numbers, in whatever world that holds the table of the months.
-/
import Derived.Test.YtgaolaafjiiehaaDoorRruLm2
namespace Go.Proofs.YtgaolaafjiiehaaDoor
open Go.RowKit
namespace Rru
open Rcv (CV LisV IntV DayV)
open Rck (ckE ckB Small)
open Ap (RowI)
open Civ (Ahead)
open Fil (moO mo_bd mo_of spE spT spF spQ perV perE perQ ld16)
open Cel

set_option maxHeartbeats 25600000 in
set_option maxRecDepth 100000 in
theorem months_any (y m d every n : Int) (w : World) (hA : Ahead w) :
    Calls Tryd.prog 3 #[.int .i64 y, .int .i64 m, .int .i64 d, .int .i64 every, .int .i64 n] w fun e w' => e = .returned (.bool true) ∧ Below w.heap.size w w' := by
  have HA := Lib.hid hA
  clear hA
  obtain ⟨m1, b1, R1⟩ := uu_mod y (k := 5000) (by decide)
  obtain ⟨m2, b2, R2⟩ := uu_mod m (k := 12) (by decide)
  obtain ⟨m3, b3, R3⟩ := uu_mod every (k := 20) (by decide)
  obtain ⟨m4, b4, R4⟩ := uu_mod n (k := 12) (by decide)
  obtain ⟨Y, hY⟩ : ∃ z, 4 + m1 = z := ⟨_, rfl⟩
  obtain ⟨M, hM⟩ : ∃ z, 1 + m2 = z := ⟨_, rfl⟩
  obtain ⟨ev, hev⟩ : ∃ z, 1 + m3 = z := ⟨_, rfl⟩
  obtain ⟨N, hNn⟩ : ∃ z : Nat, 1 + m4 = (z : Int) := ⟨(1 + m4).toNat, by omega⟩
  have NB : Hid ((4 ≤ Y ∧ Y ≤ 5003) ∧ (1 ≤ M ∧ M ≤ 12) ∧ (1 ≤ ev ∧ ev ≤ 20) ∧ 1 ≤ N ∧ N ≤ 12) := Lib.hid ⟨⟨by omega, by omega⟩, ⟨by omega, by omega⟩, ⟨by omega, by omega⟩, by omega, by omega⟩
  have x1 : IntKind.i64.wrap (4 + m1) = Y := by rw [hY]; exact wrap_t (by omega)
  have x2 : IntKind.i64.wrap (1 + m2) = M := by rw [hM]; exact wrap_t (by omega)
  have x3 : IntKind.i64.wrap (1 + m3) = ev := by rw [hev]; exact wrap_t (by omega)
  have x4 : IntKind.i64.wrap (1 + m4) = (N : Int) := by rw [hNn]; exact wrap_t (by omega)
  have wv1 : wrap64 Y = Y := IntWalk.wrap64_in _ (by omega)
  have wv2 : wrap64 M = M := IntWalk.wrap64_in _ (by omega)
  have wv3 : wrap64 ev = ev := IntWalk.wrap64_in _ (by omega)
  have wv4 : wrap64 (N : Int) = (N : Int) := IntWalk.wrap64_in _ (by omega)
  have r1 := R1.out.1
  have r2 := R2.out.1
  have r3 := R3.out.1
  have r4 := R4.out.1
  have z1 := R1.out.2
  have z2 := R2.out.2
  have z3 := R3.out.2
  have z4 := R4.out.2
  clear b1 b2 b3 b4
  go_enter Tryd.func3, Tryd.ntmps3
  go_upto_region 1 with fail
  go_cut [0, 1, 3, 4] (fun a b c e wz => a = .int .i64 Y ∧ b = .int .i64 M ∧ c = .int .i64 ev ∧ e = .int .i64 N ∧ Hid (Below w.heap.size w wz))
  case first =>
    go_wp2
    go_meet
    refine ⟨?_, ?_, ?_, ?_, Lib.hid (Below.refl _ _)⟩
    · first | rfl | (rw [wv1]; done) | (simp [r1, z1, x1, hY, wv1]; done) | trace_state
    · first | rfl | (rw [wv2]; done) | (simp [r2, z2, x2, hM, wv2]; done) | trace_state
    · first | rfl | (rw [wv3]; done) | (simp [r3, z3, x3, hev, wv3]; done) | trace_state
    · first | rfl | (rw [wv4]; done) | (simp [r4, z4, x4, hNn, wv4]; done) | trace_state
  case rest =>
  obtain ⟨w1, rfl⟩ : ∃ x : World, x = wc := ⟨_, rfl⟩
  obtain ⟨rfl, rfl, rfl, rfl, B⟩ := hcut
  clear r1 r2 r3 r4 hY hM hev hNn x1 x2 x3 x4 wv1 wv2 wv3 wv4 z1 z2 z3 z4 R1 R2 R3 R4
  obtain ⟨L, hL⟩ : ∃ z, Cal.mlen Y M = z := ⟨_, rfl⟩
  have Lb : 28 ≤ L ∧ L ≤ 31 := by
    have nb := NB.out
    rw [← hL]
    exact ⟨Cal.mlen_28 nb.2.1.1 nb.2.1.2, (Cal.mlen_bd Y M).2⟩
  have HL := Lib.hid hL
  clear hL
  obtain ⟨m5, b5, R5⟩ := uu_mod d (k := L) (by omega)
  obtain ⟨D, hD⟩ : ∃ z, 1 + m5 = z := ⟨_, rfl⟩
  have DB : Hid (1 ≤ D ∧ D ≤ L ∧ L ≤ 31) := Lib.hid (by omega)
  have x5 : IntKind.i64.wrap (1 + m5) = D := by rw [hD]; exact wrap_t (by omega)
  have wv5 : wrap64 D = D := IntWalk.wrap64_in _ (by omega)
  have wl : IntKind.u64.wrap L = L := by rw [IntKind.wrap_u64]; omega
  have L0 : ¬ L = 0 := by omega
  clear b5 Lb
  go_upto_region 2 with fail
  go_cut [2] (fun a wz => a = .int .i64 D ∧ Hid (Below w.heap.size w wz))
  case first =>
    obtain ⟨rm, hrm⟩ : ∃ z, (IntKind.u64.wrap d).tmod L = z := ⟨_, rfl⟩
    have e5 : rm = m5 := by rw [← hrm]; exact R5.out.1
    have z5 := R5.out.2
    go_wp2_with fail
    refine (len_to2 Y M L _ (by have := NB.out; omega) HL).mono ?_
    rintro e w2 ⟨rfl, k⟩
    have B := Lib.hid (bstep B.out k)
    clear k
    go_wp2
    go_meet
    refine ⟨?_, B⟩
    first | rfl | (rw [wv5]; done) | (simp [hrm, e5, z5, x5, hD, wv5]; done) | trace_state
  case rest =>
  obtain ⟨w2, rfl⟩ : ∃ x : World, x = wc := ⟨_, rfl⟩
  clear B
  obtain ⟨rfl, B⟩ := hcut
  clear hD x5 wv5 wl L0 R5
  obtain ⟨v0, hv0⟩ : ∃ z, Cal.num Y M D = z := ⟨_, rfl⟩
  have V0 := Lib.hid hv0
  have vb : -719162 ≤ v0 ∧ v0 < 2932897 := by
    have nb := NB.out
    have db := DB.out
    have k := (dd_num (Y := Y) (M := M) (D := D) ⟨by omega, by omega⟩ nb.2.1 ⟨db.1, by rw [HL.out]; exact db.2.1⟩).1
    rw [← hv0]; exact k
  clear hv0
  obtain ⟨T, hT⟩ : ∃ z, v0 * 86400 = z := ⟨_, rfl⟩
  have hT2 : 86400 * v0 = T := by omega
  have wT : IntKind.i64.wrap T = T := by rw [IntKind.wrap_i64]; omega
  have TB : Hid (-62135596800 ≤ T ∧ T ≤ 253402300800) := Lib.hid (by omega)
  have TV : Hid (T = Cal.num Y M D * 86400) := Lib.hid (by rw [V0.out, hT])
  go_upto_region 3 with fail
  go_cut [11] (fun a wz => a = .int .i64 T ∧ Hid (Below w.heap.size w wz))
  case first =>
    go_wp2_with fail
    refine (num_to2 Y M D v0 _ (by have := NB.out; have := DB.out; omega) V0).mono ?_
    rintro e w3 ⟨rfl, k⟩
    have B := Lib.hid (bstep B.out k)
    clear k
    go_wp2
    go_meet
    refine ⟨?_, B⟩
    first | rfl | (rw [hT2]; done) | (simp [hT, hT2, wT]; done) | trace_state
  case rest =>
  obtain ⟨w3, rfl⟩ : ∃ x : World, x = wc := ⟨_, rfl⟩
  clear B
  obtain ⟨rfl, B⟩ := hcut
  clear hT hT2 wT V0 vb
  obtain ⟨⟨en, co, O⟩, hX⟩ : ∃ z, tmX (mnR ev (N : Int)) T T 4611686018427387904 3000 = z := ⟨_, rfl⟩
  have X1 := Lib.hid hX
  clear hX
  have OL : Hid (O.length ≤ 1000000) := Lib.hid (by have q := tm_len (mnR ev (N : Int)) T T 4611686018427387904 3000; rw [X1.out] at q; exact q)
  go_upto_region 4 with fail
  go_cut [12, 14] (fun a c wz => ∃ lv, lv = a ∧ c = .int .i64 en ∧ Hid (RowI (w.heap.size) wz lv O) ∧ Hid (Below w.heap.size w wz))
  case first =>
    go_wp2_with fail
    refine (tms_to (mnR ev (N : Int)) _ _ _ _ _ _ _ _ _ T T 4611686018427387904 3000 _ _ (Lib.hid (HA.out.stays B.out)) (Lib.hid (show -9223372036854775808 ≤ (0 : Int) ∧ (0 : Int) ≤ 9223372036854775807 by decide)) (Lib.hid (mn_lis ev N _)) (Lib.hid (mn_small ev N)) (Lib.hid (by have := TB.out; omega)) X1).mono ?_
    rintro e w4 ⟨lv, rfl, R, k⟩
    have RO := Lib.hid (own_less2 R B.out.size)
    have B := Lib.hid (bstep B.out k)
    clear k R
    go_wp2
    go_meet
    exact ⟨_, rfl, rfl, RO, B⟩
  case rest =>
  obtain ⟨w4, rfl⟩ : ∃ x : World, x = wc := ⟨_, rfl⟩
  clear B
  obtain ⟨lv, rfl, rfl, RO, B⟩ := hcut
  obtain ⟨P, hP⟩ : ∃ z, 12 * Y + M - 1 = z := ⟨_, rfl⟩
  have HP := Lib.hid hP
  obtain ⟨TT, hTT⟩ : ∃ z, mnW P ev D = z := ⟨_, rfl⟩
  have HTT := Lib.hid hTT
  have EQ : Hid (en = 0 → ∀ i : Nat, (∀ j : Nat, j < i → (wL TT j).length < N) → (N ≤ (wL TT i).length ∨ 2000 ≤ i) → O = wL TT i) := Lib.hid (fun he i h1 h2 => by
    have nb := NB.out
    have db := DB.out
    subst he
    subst hTT
    subst hP
    exact mons_1 (Y := Y) (M := M) (D := D) ⟨by omega, nb.1.2⟩ nb.2.1 ⟨db.1, by rw [HL.out]; exact db.2.1⟩ nb.2.2.1 nb.2.2.2 TV.out X1.out i h1 h2)
  have MANY : Hid (∀ k, 1152 ≤ k → 12 ≤ (wL TT k).length) := Lib.hid (fun k hk => by
    have nb := NB.out
    have db := DB.out
    subst hTT
    subst hP
    exact Nat.le_trans (mn_many nb.2.1 (by rw [HL.out]; exact db.2.1) nb.2.2.1) (wL_le hk))
  have ER : Hid (en = 0 ∨ en = 22) := Lib.hid (by
    have nb := NB.out
    have pe : perE (mnR ev (N : Int)) T = 0 := by
      rw [perE, if_pos (mn_ck ⟨by omega, by omega⟩ ⟨by omega, by omega⟩), if_pos (by
        have db := DB.out
        have k := (dd_num (Y := Y) (M := M) (D := D) ⟨by omega, by omega⟩ nb.2.1 ⟨db.1, by rw [HL.out]; exact db.2.1⟩).1
        have tv := TV.out
        rw [Cal.num] at tv
        exact mo_of (by omega) (by omega))]
    have ar : arB T 4611686018427387904 3000 = false := by
      have := TB.out
      rw [arB, wiB, wiB, decide_eq_false (show ¬ (4611686018427387904 : Int) < T by omega), decide_eq_true (show -4611686018427387904 ≤ T ∧ T ≤ 4611686018427387904 by omega)]
      rfl
    have q := X1.out
    rw [tm_ok pe ar] at q
    rcases out_12 (tmR (mnR ev (N : Int)) T T 4611686018427387904 3000) with e | e
    · rw [q] at e; exact Or.inl e
    · rw [q] at e
      injection e with a b
      exact Or.inr a)
  clear hTT hP X1
  go_upto_region 7 with fail
  go_loopw [15, 16, 17] (fun wv iv kv wr => ∃ (k : Nat) (mv : Value), k ≤ 2000 ∧ wv = mv ∧ iv = .int .i64 k ∧ Hid (RowI w4.heap.size wr mv (wL TT k)) ∧ Hid (∀ j : Nat, j < k → (wL TT j).length < N) ∧ Hid (Below w4.heap.size w4 wr)) (fun _ iv _ _ => 2000 - (intOf iv).toNat)
  case atStart => exact ⟨0, .slice none 0 0, by omega, rfl, by rfl, Lib.hid (RowI.nil _ _), Lib.hid (fun j hj => absurd hj (by omega)), Lib.hid (Below.refl _ _)⟩
  case round =>
    obtain ⟨k, mv, hk, rfl, rfl, HR, HJ, K1⟩ := hrel
    obtain ⟨wo, rfl⟩ : ∃ wo : World, wo = wr := ⟨_, rfl⟩
    obtain ⟨A, cp, rfl⟩ := HR.out.forms
    have ml := wL_le_of HJ.out
    obtain ⟨l, hl⟩ : ∃ z, (wL TT k).length = z := ⟨_, rfl⟩
    have HLL := Lib.hid hl
    rw [hl] at ml HR ⊢
    clear hl
    by_cases hlt : l < N ∧ k < 2000
    · obtain ⟨h1, h2⟩ := hlt
      have nb := NB.out
      have hp := HP.out
      obtain ⟨q, hq⟩ : ∃ z, (k : Int) * ev = z := ⟨_, rfl⟩
      have q0 : 0 ≤ q ∧ q ≤ 40000 := by
        rw [← hq]
        exact ⟨Int.mul_nonneg (by omega) (by omega), Int.mul_le_mul (show (k : Int) ≤ 2000 by omega) nb.2.2.1.2 (by omega) (by decide)⟩
      obtain ⟨y12, hy12⟩ : ∃ z, 12 * Y = z := ⟨_, rfl⟩
      obtain ⟨ym, hym⟩ : ∃ z, y12 + M = z := ⟨_, rfl⟩
      have hp1 : ym - 1 = P := by omega
      obtain ⟨kk, hkk⟩ : ∃ z, P + q = z := ⟨_, rfl⟩
      have kb : 0 ≤ kk ∧ kk ≤ 119000 := by omega
      obtain ⟨a, ha⟩ : ∃ z, kk / 12 = z := ⟨_, rfl⟩
      obtain ⟨b, hb⟩ : ∃ z, kk % 12 = z := ⟨_, rfl⟩
      obtain ⟨c, hc⟩ : ∃ z, b + 1 = z := ⟨_, rfl⟩
      have td : kk.tdiv 12 = a := by rw [Int.tdiv_eq_ediv_of_nonneg kb.1, ha]
      have tm : kk.tmod 12 = b := by rw [Int.tmod_eq_emod_of_nonneg kb.1, hb]
      have ab : 0 ≤ a ∧ a ≤ 9999 := by omega
      have cb : 1 ≤ c ∧ c ≤ 12 := by omega
      have W0 : Hid (TT k = if D ≤ Cal.mlen a c then some (Cal.num a c D * 86400) else none) := Lib.hid (by
        rw [← HTT.out]
        exact mnW_at (by rw [hq, hkk, ha]) (by rw [hq, hkk, hb, hc]))
      have AB : Hid ((0 ≤ a ∧ a ≤ 9999) ∧ (1 ≤ c ∧ c ≤ 12)) := Lib.hid ⟨ab, cb⟩
      have e1 : IntKind.i64.wrap y12 = y12 := wrap_t (by omega)
      have e2 : IntKind.i64.wrap ym = ym := wrap_t (by omega)
      have e3 : IntKind.i64.wrap P = P := wrap_t (by omega)
      have e4 : IntKind.i64.wrap q = q := wrap_t (by omega)
      have e5 : IntKind.i64.wrap kk = kk := wrap_t (by omega)
      have e6 : IntKind.i64.wrap a = a := wrap_t (by omega)
      have e7 : IntKind.i64.wrap c = c := wrap_t (by omega)
      have e8 : ¬ 9999 < a := by omega
      have s1 : IntKind.i64.wrap ((k : Int) + 1) = ((k + 1 : Nat) : Int) := by rw [IntWalk.i64_in _ (by omega)]; omega
      have h12 : (l : Int) < (N : Int) := by omega
      have h22 : (k : Int) < 2000 := by omega
      have HK : Hid (k < 2000) := Lib.hid h2
      have HJ2 : Hid (∀ j : Nat, j < k + 1 → (wL TT j).length < N) := Lib.hid (fun j hj => by
        by_cases e : j = k
        · subst e; rw [HLL.out]; exact h1
        · exact HJ.out j (by omega))
      obtain ⟨L1, hL1⟩ : ∃ z, Cal.mlen a c = z := ⟨_, rfl⟩
      have HL1 := Lib.hid hL1
      have W0 : Hid (TT k = if D ≤ L1 then some (Cal.num a c D * 86400) else none) := Lib.hid (by rw [← hL1]; exact W0.out)
      have L1b : Hid (L1 ≤ 31) := Lib.hid (by rw [← hL1]; exact (Cal.mlen_bd a c).2)
      have lb : l ≤ 12 := by omega
      have LB := Lib.hid lb
      clear hL1 nb hp ha hb ab cb kb q0 ml hk lb h1 h2
      go_wp2_with fail
      refine (len_to2 a c L1 _ (by have := AB.out; omega) HL1).mono ?_
      rintro e w7 ⟨rfl, k7⟩
      have HR := Lib.hid (HR.out.below k7)
      have K1 := Lib.hid (bstep K1.out k7)
      clear k7
      by_cases hd : D ≤ L1
      · obtain ⟨v, hv⟩ : ∃ z, Cal.num a c D = z := ⟨_, rfl⟩
        have HV := Lib.hid hv
        have W1 : Hid (TT k = some (v * 86400)) := Lib.hid (by rw [W0.out, if_pos hd, hv])
        have db := DB.out
        have ab := AB.out
        have vb : -719528 ≤ v ∧ v ≤ 2933262 := by
          rw [← hv]
          exact (Civ.num_bd ab.1.1 (by omega) ab.2.1 ab.2.2 db.1 (by rw [HL1.out]; exact hd)).2.2.2.2
        obtain ⟨tv, htv⟩ : ∃ z, v * 86400 = z := ⟨_, rfl⟩
        have htv2 : 86400 * v = tv := by omega
        have wtv : IntKind.i64.wrap tv = tv := by rw [IntKind.wrap_i64]; omega
        have W2 : Hid (wL TT (k + 1) = wL TT k ++ [tv]) := Lib.hid (by rw [wL, W1.out, htv]; rfl)
        have HVB : Hid ((0 ≤ a ∧ a ≤ 10000) ∧ (1 ≤ c ∧ c ≤ 12) ∧ 1 ≤ D ∧ D ≤ 31) := Lib.hid ⟨⟨ab.1.1, by omega⟩, ab.2, db.1, by have := L1b.out; omega⟩
        clear hv db ab vb
        go_wp2_with fail
        refine (num_to2 a c D v _ HVB.out HV).mono ?_
        rintro e w8 ⟨rfl, k8⟩
        have HR := Lib.hid (HR.out.below k8)
        have K1 := Lib.hid (bstep K1.out k8)
        clear k8
        have hl : (wL TT k).length ≤ 100000000 := by rw [HLL.out]; have := LB.out; omega
        have hsz : w4.heap.size ≤ w8.heap.size := K1.out.size
        have HR := Lib.hid (show RowI w4.heap.size w8 (.slice A l cp) (wL TT k) from HR.out)
        go_wp2_with (at_builtin; refine Ap.appI rfl _ _ rfl w4.heap.size _ (wL TT k) rfl HR.out tv (by first | rfl | simp [htv2, wtv]) hl hsz ?_)
        intro wn gg gcap r5 g5
        have HB7 := Lib.hid (g5.below w4.heap.size w4 (Nat.le_refl _) K1.out hsz)
        have HR6 : Hid (RowI w4.heap.size wn (.slice (some ⟨gg, 0, none⟩) (l + 1) gcap) (wL TT (k + 1))) := Lib.hid (by rw [W2.out]; rw [HLL.out] at r5; exact r5)
        rw [HLL.out]
        clear g5 r5 HR K1 hsz hl
        go_wp2
        go_roundw
        case rel => exact ⟨k + 1, _, by have := HK.out; omega, rfl, by first | rfl | (rw [s1]) | go_num, HR6, HJ2, HB7⟩
        case measure => have := HK.out; simp [intOf]; omega
      · have W2 : Hid (wL TT (k + 1) = wL TT k) := Lib.hid (by rw [wL, W0.out, if_neg hd]; simp)
        have HR6 : Hid (RowI w4.heap.size w7 (.slice A l cp) (wL TT (k + 1))) := Lib.hid (by rw [W2.out]; exact HR.out)
        go_wp2_with fail
        go_roundw
        case rel => exact ⟨k + 1, _, by have := HK.out; omega, rfl, by first | rfl | (rw [s1]) | go_num, HR6, HJ2, K1⟩
        case measure => have := HK.out; simp [intOf]; omega
    · have EO : Hid (en = 0 → O = wL TT k) := Lib.hid (fun he => EQ.out he k HJ.out (by rw [HLL.out]; omega))
      have RO := Lib.hid (RO.out.below K1.out)
      have RW := Lib.hid (own_less2 HR.out B.out.size)
      have B := Lib.hid (bstep B.out K1.out)
      have WLb : Hid ((wL TT k).length ≤ 1000000) := Lib.hid (by rw [HLL.out]; have := NB.out; omega)
      have lN : l = N := by
        by_cases g : l < N
        · have a := MANY.out k (by omega)
          rw [HLL.out] at a
          have := NB.out
          omega
        · omega
      clear hlt ml
      subst lN
      go_upto_region 13 with fail
      rename_i K13 hK13 Kc hKc
      rcases ER.out with rfl | rfl
      rotate_left
      · go_wp2_with fail
        refine (wakes23_any _ (HA.out.stays B.out)).mono ?_
        rintro e w13 ⟨rfl, k⟩
        go_wp2
        go_ret
        exact ⟨ret_b rfl, bstep B.out k⟩
      have E0 := Lib.hid (EO.out rfl)
      go_cut [110] (fun a wz => a = .bool false ∧ Hid (RowI w.heap.size wz (.slice A l cp) (wL TT k)) ∧ Hid (RowI w.heap.size wz lv O) ∧ Hid (Below w.heap.size w wz))
      case first =>
        go_wp2
        go_meet
        exact ⟨rfl, RW, RO, B⟩
      case rest =>
      obtain ⟨w13, rfl⟩ : ∃ x : World, x = wc := ⟨_, rfl⟩
      clear RO RW B K1
      obtain ⟨rfl, RW, RO, B⟩ := hcut
      go_step
      go_step
      go_step
      go_step
      exact hK13 _ _ (months_end TT O k l A cp lv w w13 HA RO RW B E0 OL WLb _ _ _ _ _ _ _ _ _ _ _ _ _ _ _ _ _ _ _ _ _ _ _ _ _ _ _ _ _ _ _ _ _ _ _ _ _ _ _ _ _ _ _ _ _ _ _ _ _ _ _ _ _ _ _ _ _ _ _ _ _ _ _ _ _ _ _ _ _ _ _ _ _ _ _ _ _ _ _ _ _ _ _ _ _ _ _ _ _ _ _ _ _ _ _ _ _ _ _ _ _ _ _ _ _ _ _ _ _ _ _ _ _ _ _ _ _ _ _ _ _ _ _ _ _ _ _ _ _ _ _ _ _ _ _ _ _ _ _ _ _ _ _ _ _ _ _ _ _ _ _ _ _ _ _ _ _ _ _)

end Rru
end Go.Proofs.YtgaolaafjiiehaaDoor
