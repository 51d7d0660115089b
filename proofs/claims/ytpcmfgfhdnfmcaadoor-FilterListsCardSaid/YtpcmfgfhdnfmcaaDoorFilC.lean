/-
  Package filter: momentOf of a time that counts.
-/
import Derived.Test.YtpcmfgfhdnfmcaaDoorFilB
import Derived.Test.YtpcmfgfhdnfmcaaDoorBdD
import Derived.Test.YtpcmfgfhdnfmcaaDoorBdF
import Derived.Test.YtpcmfgfhdnfmcaaDoorCelR
namespace Go.Proofs.YtpcmfgfhdnfmcaaDoor
open Go.RowKit
namespace Fil
open Civ (dY dM dD dnE Ahead)
open Cel
theorem resM {P : Program} {fn : Func} {tmps : Array Value} {g : Nat} {W : World} {vs : List Value} {v : Value} (h : Cs g W vs) (k : ∀ W', Cs g W' vs → (results fn tmps).run P W' = .ok v W') : (results fn tmps).run P W = .ok v W := k W h
set_option maxHeartbeats 6400000 in
theorem mo_yes (t : Int) (w : World) (hA : Ahead w) (h1 : -9223372036854775808 ≤ t) (h2 : t ≤ 9223372036854775807) (ho : moO t = true) :
    Calls Tryd.prog 34 #[.int .i64 t] w fun e w' => e = .returned (.tuple #[.agg (moL t).toArray, .bool true]) ∧ Below w.heap.size w w' := by
  have HA := Lib.hid hA
  have HO := Lib.hid ho
  clear hA ho
  go_enter Tryd.func34, Tryd.ntmps34
  go_upto_region 0 with fail
  go_cut [2] (fun p wz => p = .pointer (some ⟨w.heap.size, 0, none⟩) ∧ Hid (Cs w.heap.size wz noL) ∧ Hid (Below w.heap.size w wz))
  case first =>
    go_wp2
    go_meet
    exact ⟨rfl, Lib.hid (Cs.new w noL _), Lib.hid ((Below.refl _ _).alloc (Nat.le_refl _) _)⟩
  case rest =>
  obtain ⟨w1, rfl⟩ : ∃ x : World, x = wc := ⟨_, rfl⟩
  obtain ⟨rfl, C, B⟩ := hcut
  obtain ⟨d, hd⟩ : ∃ d, t / 86400 = d := ⟨_, rfl⟩
  obtain ⟨s, hs⟩ : ∃ s, t % 86400 = s := ⟨_, rfl⟩
  have sb : 0 ≤ s ∧ s < 86400 := by omega
  have HD := Lib.hid hd
  have HS := Lib.hid hs
  have T1 := Lib.hid (And.intro h1 h2)
  clear hd hs h1 h2
  go_upto_region 1 with fail
  go_cut [4, 5] (fun p q wz => p = .int .i64 d ∧ q = .int .i64 s ∧ Hid (Cs w.heap.size wz noL) ∧ Hid (Below w.heap.size w wz))
  case first =>
    go_wp2_with fail
    refine (Clk.csplit_any t _ T1.out.1 T1.out.2).mono ?_
    rintro e w2 ⟨rfl, n, rfl⟩
    rw [HD.out, HS.out]
    go_wp2
    go_meet
    exact ⟨rfl, rfl, Lib.hid (C.out.drewN n), Lib.hid (bdrew B.out n)⟩
  case rest =>
  obtain ⟨w2, rfl⟩ : ∃ x : World, x = wc := ⟨_, rfl⟩
  clear C B
  obtain ⟨rfl, rfl, C, B⟩ := hcut
  obtain ⟨Y, hY⟩ : ∃ Y, dY d = Y := ⟨_, rfl⟩
  obtain ⟨M, hM⟩ : ∃ M, dM d = M := ⟨_, rfl⟩
  obtain ⟨D, hDD⟩ : ∃ D, dD d = D := ⟨_, rfl⟩
  obtain ⟨E, hE⟩ : ∃ E, dnE d = E := ⟨_, rfl⟩
  have HY := Lib.hid (And.intro hY (And.intro hM (And.intro hDD hE)))
  clear hY hM hDD hE
  go_upto_region 2 with fail
  go_cut [6, 7] (fun p q wz => ∃ g6, p = .pointer (some ⟨g6, 0, none⟩) ∧ w.heap.size < g6 ∧ q = .int .i64 E ∧ Hid (Cs g6 wz [.int .i64 Y, .int .i64 M, .int .i64 D]) ∧ Hid (Cs w.heap.size wz noL) ∧ Hid (Below w.heap.size w wz))
  case first =>
    go_wp2_with fail
    refine (Civ.date_w d _ (HA.out.stays B.out)).mono ?_
    rintro e w3 ⟨rfl, hw⟩
    have k : Below w2.heap.size w2 w3 := by rw [← hw]; exact (Below.refl _ _).alloc (Nat.le_refl _) _
    have C := Lib.hid (C.out.below k)
    have B := Lib.hid (bstep B.out k)
    clear hw k
    rw [HY.out.1, HY.out.2.1, HY.out.2.2.1, HY.out.2.2.2]
    have lt := C.out.1
    go_wp2
    go_meet
    exact ⟨_, rfl, by omega, rfl, Lib.hid (Cs.new w3 [.int .i64 Y, .int .i64 M, .int .i64 D] _), Lib.hid (C.out.alloc _), Lib.hid (B.out.alloc B.out.size _)⟩
  case rest =>
  obtain ⟨w3, rfl⟩ : ∃ x : World, x = wc := ⟨_, rfl⟩
  clear C B
  obtain ⟨g6, rfl, hg, rfl, DC, C, B⟩ := hcut
  have e0 := (DC.out.2 0 _ rfl).1
  have c0 := (C.out.2 0 (.int .i64 0) rfl).1
  have f0 := (C.out.2 0 (.int .i64 0) rfl).2
  have c1 := (C.out.2 1 (.int .i64 0) rfl).1
  have f1 := (C.out.2 1 (.int .i64 0) rfl).2
  have c2 := (C.out.2 2 (.int .i64 0) rfl).1
  have f2 := (C.out.2 2 (.int .i64 0) rfl).2
  have c3 := (C.out.2 3 (.int .i64 0) rfl).1
  have f3 := (C.out.2 3 (.int .i64 0) rfl).2
  have c4 := (C.out.2 4 (.int .i64 0) rfl).1
  have f4 := (C.out.2 4 (.int .i64 0) rfl).2
  have c5 := (C.out.2 5 (.int .i64 0) rfl).1
  have f5 := (C.out.2 5 (.int .i64 0) rfl).2
  have c6 := (C.out.2 6 (.int .i64 0) rfl).1
  have f6 := (C.out.2 6 (.int .i64 0) rfl).2
  have c7 := (C.out.2 7 (.int .i64 0) rfl).1
  have f7 := (C.out.2 7 (.int .i64 0) rfl).2
  have q := HO.out
  rw [moO, HD.out, HY.out.1, HY.out.2.2.2] at q
  obtain ⟨rfl, y1, y2⟩ := of_decide_eq_true q
  clear q
  have e1 := (DC.out.2 1 _ rfl).1
  have e2 := (DC.out.2 2 _ rfl).1
  go_wp2_with fail
  refine (isy_to Y _).mono ?_
  rintro e w4 ⟨rfl, rfl⟩
  rw [decide_eq_true (And.intro y1 y2)]
  have r1 : s.tmod 60 = s % 60 := Int.tmod_eq_emod_of_nonneg sb.1
  have r2 : s.tdiv 60 = s / 60 := Int.tdiv_eq_ediv_of_nonneg sb.1
  have r3 : (s / 60).tmod 60 = s / 60 % 60 := Int.tmod_eq_emod_of_nonneg (by omega)
  have r4 : s.tdiv 3600 = s / 3600 := Int.tdiv_eq_ediv_of_nonneg sb.1
  have r5 : IntKind.i64.wrap (s / 60) = s / 60 := IntWalk.i64_in _ (by omega)
  have r6 : IntKind.i64.wrap (s / 3600) = s / 3600 := IntWalk.i64_in _ (by omega)
  go_upto_region 5 with fail
  go_region_with ((go_at_call 29; (refine (Civ.weekday_any _ _).mono ?_); rintro e w5 ⟨rfl, rfl⟩))
  all_goals clear r1 r2 r3 r4 r5 r6 e0 e1 e2 f0 f1 f2 f3 f4 f5 f6 f7
  all_goals go_wp2
  all_goals refine bodyPost_ret (v := .tuple #[.agg (moL t).toArray, .bool true]) (resM (((((((((C.out.set 0 (by simp [noL]) (.int .i64 d)).set 1 (by simp [noL]) (.int .i64 Y)).set 2 (by simp [noL]) (.int .i64 M)).set 3 (by simp [noL]) (.int .i64 D)).set 4 (by simp [noL]) (.int .i64 (Cal.wday d))).set 5 (by simp [noL]) (.int .i64 (s % 60))).set 6 (by simp [noL]) (.int .i64 (s / 60 % 60))).set 7 (by simp [noL]) (.int .i64 (s / 3600))).drewN 1) (fun W h => ?_)) rfl ⟨rfl, bdrew (below_sets8 B.out) 1⟩
  all_goals change (results _ (Act.put _ (some 3) (.bool true)).tmps).run _ _ = _
  all_goals have t0 := (h.2 0 _ rfl).1; have t1 := (h.2 1 _ rfl).1; have t2 := (h.2 2 _ rfl).1; have t3 := (h.2 3 _ rfl).1; have t4 := (h.2 4 _ rfl).1; have t5 := (h.2 5 _ rfl).1; have t6 := (h.2 6 _ rfl).1; have t7 := (h.2 7 _ rfl).1
  all_goals clear HA HO
  all_goals rw [moL, HD.out, HS.out, HY.out.1, HY.out.2.1, HY.out.2.2.1]
  all_goals simp [results, Tryd.results34, go_sem, t0, t1, t2, t3, t4, t5, t6, t7]
end Fil
end Go.Proofs.YtpcmfgfhdnfmcaaDoor
