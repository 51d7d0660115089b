/-
  Package filter: placeOf, monthDay, yearDay, firstWeek, between.
-/
import Derived.Test.YtpcmfgfhdnfmcaaDoorFilC
import Derived.Test.YtpcmfgfhdnfmcaaDoorFilM
namespace Go.Proofs.YtpcmfgfhdnfmcaaDoor
open Go.RowKit
namespace Fil
open Civ (numV numE dY dM dD dnE Ahead)
open Cel
theorem numE_04 (y m d : Int) : numE y m d = 0 ∨ numE y m d = 4 := by rw [numE]; split <;> simp
set_option maxHeartbeats 1600000 in
theorem pl_to (y m d v : Int) (o : Bool) (w : World) (hA : Ahead w) (i1 : -9223372036854775808 ≤ d) (i2 : d ≤ 9223372036854775807) (h1 : Hid (numV y m d = v)) (h2 : Hid (decide (numE y m d = 0) = o)) :
    Calls Tryd.prog 85 #[.int .i64 y, .int .i64 m, .int .i64 d] w fun e w' => e = .returned (.agg #[.int .i64 v, .bool o]) ∧ Below w.heap.size w w' := by
  have HA := Lib.hid hA
  clear hA
  obtain ⟨c, hc⟩ : ∃ c, numE y m d = c := ⟨_, rfl⟩
  have c04 := numE_04 y m d
  rw [hc] at c04
  have HC := Lib.hid hc
  have HO := Lib.hid (show decide (c = 0) = o by rw [← hc]; exact h2.out)
  clear hc h2
  go_enter Tryd.func85, Tryd.ntmps85
  go_upto_region 0 with fail
  go_cut [6] (fun p wz => p = .pointer (some ⟨w.heap.size, 0, none⟩) ∧ Hid (Cs w.heap.size wz [.int .i64 0, .bool false]) ∧ Hid (Below w.heap.size w wz))
  case first =>
    go_wp2
    go_meet
    exact ⟨rfl, Lib.hid (Cs.new w [.int .i64 0, .bool false] _), Lib.hid ((Below.refl _ _).alloc (Nat.le_refl _) _)⟩
  case rest =>
  obtain ⟨w1, rfl⟩ : ∃ x : World, x = wc := ⟨_, rfl⟩
  obtain ⟨rfl, C, B⟩ := hcut
  go_wp2_with fail
  refine (Civ.number_any y m d _ (HA.out.stays B.out) i1 i2).mono ?_
  rintro e w2 ⟨rfl, k⟩
  have C := Lib.hid (C.out.below k)
  have B := Lib.hid (bstep B.out k)
  clear k
  rw [h1.out, HC.out]
  have c0 := (C.out.2 0 _ rfl).1
  have f0 := (C.out.2 0 _ rfl).2
  have c1 := (C.out.2 1 _ rfl).1
  have f1 := (C.out.2 1 _ rfl).2
  rcases c04 with rfl | rfl
  · obtain rfl := HO.out
    go_wp2
    refine bodyPost_ret (v := .agg #[.int .i64 v, .bool true]) (resM ((C.out.set 0 (by simp) (.int .i64 v)).set 1 (by simp) (.bool true)) (fun W h => ?_)) rfl ⟨rfl, (B.out.setCell (Nat.le_refl _) _).setCell (Nat.le_refl _) _⟩
    have t0 := (h.2 0 _ rfl).1
    have t1 := (h.2 1 _ rfl).1
    simp [results, Tryd.results85, go_sem, t0, t1]
  · obtain rfl := HO.out
    go_wp2
    refine bodyPost_ret (v := .agg #[.int .i64 v, .bool false]) (resM ((C.out.set 0 (by simp) (.int .i64 v)).set 1 (by simp) (.bool false)) (fun W h => ?_)) rfl ⟨rfl, (B.out.setCell (Nat.le_refl _) _).setCell (Nat.le_refl _) _⟩
    have t0 := (h.2 0 _ rfl).1
    have t1 := (h.2 1 _ rfl).1
    simp [results, Tryd.results85, go_sem, t0, t1]
theorem mod_eq (p : Int) (_h : -1000000000000 ≤ p) : p - 12 * (p / 12) + 1 = p % 12 + 1 := by omega
set_option maxHeartbeats 1600000 in
theorem md_to (p v : Int) (o : Bool) (w : World) (hA : Ahead w) (i1 : -1000000000000000 ≤ p) (i2 : p ≤ 1000000000000000) (h1 : Hid (mfV p = v)) (h2 : Hid (mfO p = o)) :
    Calls Tryd.prog 74 #[.int .i64 p] w fun e w' => e = .returned (.agg #[.int .i64 v, .bool o]) ∧ Below w.heap.size w w' := by
  have HA := Lib.hid hA
  clear hA
  have H1 := Lib.hid (show numV (p / 12) (p - 12 * (p / 12) + 1) 1 = v from h1.out)
  have H2 := Lib.hid (show decide (numE (p / 12) (p - 12 * (p / 12) + 1) 1 = 0) = o from h2.out)
  clear h1 h2
  obtain ⟨q, hq⟩ : ∃ q, p / 12 = q := ⟨_, rfl⟩
  have qb : -1000000000000000 ≤ q ∧ q ≤ 1000000000000000 ∧ 0 ≤ p - 12 * q ∧ p - 12 * q ≤ 11 := by omega
  rw [hq] at H1 H2
  have HQ := Lib.hid hq
  clear hq
  obtain ⟨qb1, qb2, qb3, qb4⟩ := qb
  go_enter Tryd.func74, Tryd.ntmps74
  go_upto_region 0 with fail
  go_cut [2] (fun p wz => p = .pointer (some ⟨w.heap.size, 0, none⟩) ∧ Hid (Cs w.heap.size wz [.int .i64 0, .bool false]) ∧ Hid (Below w.heap.size w wz))
  case first =>
    go_wp2
    go_meet
    exact ⟨rfl, Lib.hid (Cs.new w [.int .i64 0, .bool false] _), Lib.hid ((Below.refl _ _).alloc (Nat.le_refl _) _)⟩
  case rest =>
  obtain ⟨w1, rfl⟩ : ∃ x : World, x = wc := ⟨_, rfl⟩
  obtain ⟨rfl, C, B⟩ := hcut
  go_wp2_with fail
  refine (quo_to p 12 _ ⟨i1, i2⟩ (by decide)).mono ?_
  rintro e w2 ⟨rfl, rfl⟩
  rw [HQ.out]
  go_wp2_with fail
  refine (quo_to p 12 _ ⟨i1, i2⟩ (by decide)).mono ?_
  rintro e w2 ⟨rfl, rfl⟩
  rw [HQ.out]
  go_wp2_with fail
  refine (pl_to q (p - 12 * q + 1) 1 v o _ (HA.out.stays B.out) (by decide) (by decide) H1 H2).mono ?_
  rintro e w2 ⟨rfl, k⟩
  have C := Lib.hid (C.out.below k)
  have B := Lib.hid (bstep B.out k)
  clear k
  have c0 := (C.out.2 0 _ rfl).1
  have f0 := (C.out.2 0 _ rfl).2
  have c1 := (C.out.2 1 _ rfl).1
  have f1 := (C.out.2 1 _ rfl).2
  go_wp2
  refine bodyPost_ret (v := .agg #[.int .i64 v, .bool o]) (resM ((C.out.set 0 (by simp) (.int .i64 v)).set 1 (by simp) (.bool o)) (fun W h => ?_)) rfl ⟨rfl, (B.out.setCell (Nat.le_refl _) _).setCell (Nat.le_refl _) _⟩
  have t0 := (h.2 0 _ rfl).1
  have t1 := (h.2 1 _ rfl).1
  simp [results, Tryd.results74, go_sem, t0, t1]
set_option maxHeartbeats 1600000 in
theorem yd_to (y v : Int) (o : Bool) (w : World) (hA : Ahead w) (h1 : Hid (yfV y = v)) (h2 : Hid (yfO y = o)) :
    Calls Tryd.prog 75 #[.int .i64 y] w fun e w' => e = .returned (.agg #[.int .i64 v, .bool o]) ∧ Below w.heap.size w w' := by
  have HA := Lib.hid hA
  clear hA
  have H1 := Lib.hid (show numV y 1 1 = v from h1.out)
  have H2 := Lib.hid (show decide (numE y 1 1 = 0) = o from h2.out)
  clear h1 h2
  go_enter Tryd.func75, Tryd.ntmps75
  go_upto_region 0 with fail
  go_cut [2] (fun p wz => p = .pointer (some ⟨w.heap.size, 0, none⟩) ∧ Hid (Cs w.heap.size wz [.int .i64 0, .bool false]) ∧ Hid (Below w.heap.size w wz))
  case first =>
    go_wp2
    go_meet
    exact ⟨rfl, Lib.hid (Cs.new w [.int .i64 0, .bool false] _), Lib.hid ((Below.refl _ _).alloc (Nat.le_refl _) _)⟩
  case rest =>
  obtain ⟨w1, rfl⟩ : ∃ x : World, x = wc := ⟨_, rfl⟩
  obtain ⟨rfl, C, B⟩ := hcut
  go_wp2_with fail
  refine (pl_to y 1 1 v o _ (HA.out.stays B.out) (by decide) (by decide) H1 H2).mono ?_
  rintro e w2 ⟨rfl, k⟩
  have C := Lib.hid (C.out.below k)
  have B := Lib.hid (bstep B.out k)
  clear k
  have c0 := (C.out.2 0 _ rfl).1
  have f0 := (C.out.2 0 _ rfl).2
  have c1 := (C.out.2 1 _ rfl).1
  have f1 := (C.out.2 1 _ rfl).2
  go_wp2
  refine bodyPost_ret (v := .agg #[.int .i64 v, .bool o]) (resM ((C.out.set 0 (by simp) (.int .i64 v)).set 1 (by simp) (.bool o)) (fun W h => ?_)) rfl ⟨rfl, (B.out.setCell (Nat.le_refl _) _).setCell (Nat.le_refl _) _⟩
  have t0 := (h.2 0 _ rfl).1
  have t1 := (h.2 1 _ rfl).1
  simp [results, Tryd.results75, go_sem, t0, t1]
set_option maxHeartbeats 3200000 in
theorem fw_to (y k v : Int) (o : Bool) (w : World) (hA : Ahead w) (hk1 : 0 ≤ k) (hk2 : k ≤ 6) (h1 : Hid (wfV y k = v)) (h2 : Hid (wfO y = o)) :
    Calls Tryd.prog 76 #[.int .i64 y, .int .i64 k] w fun e w' => e = .returned (.agg #[.int .i64 v, .bool o]) ∧ Below w.heap.size w w' := by
  have HA := Lib.hid hA
  clear hA
  obtain ⟨n, hn⟩ : ∃ n, numV y 1 4 = n := ⟨_, rfl⟩
  obtain ⟨d, hd⟩ : ∃ d, Cal.wday n = d := ⟨_, rfl⟩
  have nb := numV_bd y 1 4
  rw [hn] at nb
  have db := Civ.wd_bd n
  have H0 := Lib.hid hn
  have H1 := Lib.hid (show n - (d - k + 7) % 7 = v by rw [← hd, ← hn]; exact h1.out)
  have H2 := Lib.hid (show decide (numE y 1 4 = 0) = o from h2.out)
  have HD := Lib.hid hd
  have b1 : 0 ≤ d ∧ d ≤ 6 := by rw [← hd]; unfold Cal.wday; omega
  clear h1 h2 hn hd db
  obtain ⟨b1, b2⟩ := b1
  obtain ⟨nb1, nb2⟩ := nb
  go_enter Tryd.func76, Tryd.ntmps76
  go_upto_region 0 with fail
  go_cut [4] (fun p wz => p = .pointer (some ⟨w.heap.size, 0, none⟩) ∧ Hid (Cs w.heap.size wz [.int .i64 0, .bool false]) ∧ Hid (Below w.heap.size w wz))
  case first =>
    go_wp2
    go_meet
    exact ⟨rfl, Lib.hid (Cs.new w [.int .i64 0, .bool false] _), Lib.hid ((Below.refl _ _).alloc (Nat.le_refl _) _)⟩
  case rest =>
  obtain ⟨w1, rfl⟩ : ∃ x : World, x = wc := ⟨_, rfl⟩
  obtain ⟨rfl, C, B⟩ := hcut
  go_upto_region 1 with fail
  go_cut [5] (fun p wz => ∃ g, p = .pointer (some ⟨g, 0, none⟩) ∧ w.heap.size < g ∧ Hid (Cs g wz [.int .i64 n, .bool o]) ∧ Hid (Cs w.heap.size wz [.int .i64 0, .bool false]) ∧ Hid (Below w.heap.size w wz))
  case first =>
    go_wp2_with fail
    refine (pl_to y 1 4 n o _ (HA.out.stays B.out) (by decide) (by decide) H0 H2).mono ?_
    rintro e w2 ⟨rfl, k⟩
    have C := Lib.hid (C.out.below k)
    have B := Lib.hid (bstep B.out k)
    clear k
    have lt := C.out.1
    go_wp2
    go_meet
    exact ⟨_, rfl, by omega, Lib.hid (Cs.new w2 [.int .i64 n, .bool o] _), Lib.hid (C.out.alloc _), Lib.hid (B.out.alloc B.out.size _)⟩
  case rest =>
  obtain ⟨w2, rfl⟩ : ∃ x : World, x = wc := ⟨_, rfl⟩
  clear C B
  obtain ⟨g, rfl, hg, G, C, B⟩ := hcut
  have g0 := (G.out.2 0 _ rfl).1
  have g1 := (G.out.2 0 _ rfl).2
  have r1 : (d - k + 7).tmod 7 = (d - k + 7) % 7 := Int.tmod_eq_emod_of_nonneg (by omega)
  have r2 : IntKind.i64.wrap (d - k) = d - k := IntWalk.i64_in _ (by omega)
  have r3 : IntKind.i64.wrap (d - k + 7) = d - k + 7 := IntWalk.i64_in _ (by omega)
  have r5 : (d - k + 7) % 7 = (d - k) % 7 := by omega
  have r6 : n - (d - k) % 7 = v := by rw [← H1.out]; omega
  have r4 : IntKind.i64.wrap v = v := IntWalk.i64_in _ (by omega)
  go_upto_region 2 with fail
  go_cut [5] (fun p wz => p = .pointer (some ⟨g, 0, none⟩) ∧ Hid (Cs g wz [.int .i64 v, .bool o]) ∧ Hid (Cs w.heap.size wz [.int .i64 0, .bool false]) ∧ Hid (Below w.heap.size w wz))
  case first =>
    go_region_with ((go_at_call 29; (refine (Civ.weekday_any _ _).mono ?_); rintro e w5 ⟨rfl, rfl⟩; rw [HD.out]))
    all_goals go_wp2
    all_goals go_meet
    all_goals exact ⟨by trivial, Lib.hid ((G.out.set 0 (by simp) _).drewN 1), Lib.hid ((C.out.other (by omega) _).drewN 1), Lib.hid (bdrew (B.out.setCell (show w.heap.size ≤ g by omega) _) 1)⟩
  case rest =>
  obtain ⟨w3, rfl⟩ : ∃ x : World, x = wc := ⟨_, rfl⟩
  clear C B G g0 g1
  obtain ⟨rfl, G, C, B⟩ := hcut
  have g0 := (G.out.2 0 _ rfl).1
  have g1 := (G.out.2 1 _ rfl).1
  have c0 := (C.out.2 0 _ rfl).1
  have f0 := (C.out.2 0 _ rfl).2
  have c1 := (C.out.2 1 _ rfl).1
  have f1 := (C.out.2 1 _ rfl).2
  go_wp2
  refine bodyPost_ret (v := .agg #[.int .i64 v, .bool o]) (resM ((C.out.set 0 (by simp) (.int .i64 v)).set 1 (by simp) (.bool o)) (fun W h => ?_)) rfl ⟨rfl, (B.out.setCell (Nat.le_refl _) _).setCell (Nat.le_refl _) _⟩
  have t0 := (h.2 0 _ rfl).1
  have t1 := (h.2 1 _ rfl).1
  simp [results, Tryd.results76, go_sem, t0, t1]
set_option maxHeartbeats 1600000 in
theorem bt_to (a b : Int) (p q : Bool) (w : World) (ha : -1000000000 ≤ a ∧ a ≤ 1000000000) (hb : -1000000000 ≤ b ∧ b ≤ 1000000000) :
    Calls Tryd.prog 73 #[.agg #[.int .i64 a, .bool p], .agg #[.int .i64 b, .bool q]] w fun e w' => e = .returned (.tuple #[.int .i64 (a * 86400), .int .i64 (b * 86400), .bool (p && q)]) ∧ Below w.heap.size w w' := by
  obtain ⟨a1, a2⟩ := ha
  obtain ⟨b1, b2⟩ := hb
  cases p with
  | true =>
    go_enter Tryd.func73, Tryd.ntmps73
    go_wp2_with fail
    go_quiet (fail)
    go_wp2
    go_ret3
    refine ⟨by simp, ?_⟩
    repeat (first | exact Below.refl _ _ | refine Below.setCell ?_ (by simp) _ | refine below_drewN ?_ _ | refine Below.drew ?_ | refine Below.alloc ?_ (by simp; try omega) _)
  | false =>
    go_enter Tryd.func73, Tryd.ntmps73
    go_wp2_with fail
    go_quiet (fail)
    go_wp2
    go_ret3
    refine ⟨by simp, ?_⟩
    repeat (first | exact Below.refl _ _ | refine Below.setCell ?_ (by simp) _ | refine below_drewN ?_ _ | refine Below.drew ?_ | refine Below.alloc ?_ (by simp; try omega) _)
end Fil
end Go.Proofs.YtpcmfgfhdnfmcaaDoor
