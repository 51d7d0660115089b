/-
  Package filter: momentOf, a time taken to pieces.
-/
import Derived.Test.YtpcmfgfhdnfmcaaDoorFilA
import Derived.Test.YtpcmfgfhdnfmcaaDoorBdD
import Derived.Test.YtpcmfgfhdnfmcaaDoorBdF
import Derived.Test.YtpcmfgfhdnfmcaaDoorCelR
namespace Go.Proofs.YtpcmfgfhdnfmcaaDoor
open Go.RowKit
namespace Fil
open Civ (dY dM dD dnE Ahead)
open Cel
/-- The pieces of a time: day, date, weekday, second, minute, hour. -/
def moL (t : Int) : List Value := [.int .i64 (t / 86400), .int .i64 (dY (t / 86400)), .int .i64 (dM (t / 86400)), .int .i64 (dD (t / 86400)), .int .i64 (Cal.wday (t / 86400)), .int .i64 (t % 86400 % 60), .int .i64 (t % 86400 / 60 % 60), .int .i64 (t % 86400 / 3600)]
def noL : List Value := [.int .i64 0, .int .i64 0, .int .i64 0, .int .i64 0, .int .i64 0, .int .i64 0, .int .i64 0, .int .i64 0]
def moO (t : Int) : Bool := decide (dnE (t / 86400) = 0 ∧ 1 ≤ dY (t / 86400) ∧ dY (t / 86400) ≤ 9999)
theorem bdrew {w w' : World} (h : Below w.heap.size w w') (k : Nat) : Below w.heap.size w (w'.drewN k) := bstep h ⟨rfl, rfl, rfl, Nat.le_refl _, fun _ _ => rfl⟩
theorem below_sets8 {w w' : World} (h : Below w.heap.size w w') {v0 v1 v2 v3 v4 v5 v6 v7 : Value} : Below w.heap.size w ((((((((w'.setCell ⟨w.heap.size, 0, none⟩ v0).setCell ⟨w.heap.size, 1, none⟩ v1).setCell ⟨w.heap.size, 2, none⟩ v2).setCell ⟨w.heap.size, 3, none⟩ v3).setCell ⟨w.heap.size, 4, none⟩ v4).setCell ⟨w.heap.size, 5, none⟩ v5).setCell ⟨w.heap.size, 6, none⟩ v6).setCell ⟨w.heap.size, 7, none⟩ v7) :=
  (((((((h.setCell (Nat.le_refl _) _).setCell (Nat.le_refl _) _).setCell (Nat.le_refl _) _).setCell (Nat.le_refl _) _).setCell (Nat.le_refl _) _).setCell (Nat.le_refl _) _).setCell (Nat.le_refl _) _).setCell (Nat.le_refl _) _
set_option maxHeartbeats 6400000 in
theorem mo_no (t : Int) (w : World) (hA : Ahead w) (h1 : -9223372036854775808 ≤ t) (h2 : t ≤ 9223372036854775807) (ho : moO t = false) :
    Calls Tryd.prog 34 #[.int .i64 t] w fun e w' => e = .returned (.tuple #[.agg noL.toArray, .bool false]) ∧ Below w.heap.size w w' := by
  have HA := Lib.hid hA
  have HO := Lib.hid ho
  clear hA ho
  go_enter Tryd.func34, Tryd.ntmps34
  go_upto_region 0 with fail
  go_cut [2] (fun p wz => p = .pointer (some ⟨w.heap.size, 0, none⟩) ∧ Hid (Cs w.heap.size wz noL) ∧ Hid (Below w.heap.size w wz))
  case first =>
    go_wp2
    go_meet
    exact ⟨rfl, Lib.hid (Cs.new w noL _), Lib.hid ((Below.refl _ _).alloc (Nat.le_refl _) _)⟩
  case rest =>
  obtain ⟨w1, rfl⟩ : ∃ x : World, x = wc := ⟨_, rfl⟩
  obtain ⟨rfl, C, B⟩ := hcut
  obtain ⟨d, hd⟩ : ∃ d, t / 86400 = d := ⟨_, rfl⟩
  obtain ⟨s, hs⟩ : ∃ s, t % 86400 = s := ⟨_, rfl⟩
  have sb : 0 ≤ s ∧ s < 86400 := by omega
  have HD := Lib.hid hd
  have HS := Lib.hid hs
  have T1 := Lib.hid (And.intro h1 h2)
  clear hd hs h1 h2
  go_upto_region 1 with fail
  go_cut [4, 5] (fun p q wz => p = .int .i64 d ∧ q = .int .i64 s ∧ Hid (Cs w.heap.size wz noL) ∧ Hid (Below w.heap.size w wz))
  case first =>
    go_wp2_with fail
    refine (Clk.csplit_any t _ T1.out.1 T1.out.2).mono ?_
    rintro e w2 ⟨rfl, n, rfl⟩
    rw [HD.out, HS.out]
    go_wp2
    go_meet
    exact ⟨rfl, rfl, Lib.hid (C.out.drewN n), Lib.hid (bdrew B.out n)⟩
  case rest =>
  obtain ⟨w2, rfl⟩ : ∃ x : World, x = wc := ⟨_, rfl⟩
  clear C B
  obtain ⟨rfl, rfl, C, B⟩ := hcut
  obtain ⟨Y, hY⟩ : ∃ Y, dY d = Y := ⟨_, rfl⟩
  obtain ⟨M, hM⟩ : ∃ M, dM d = M := ⟨_, rfl⟩
  obtain ⟨D, hDD⟩ : ∃ D, dD d = D := ⟨_, rfl⟩
  obtain ⟨E, hE⟩ : ∃ E, dnE d = E := ⟨_, rfl⟩
  have HY := Lib.hid (And.intro hY (And.intro hM (And.intro hDD hE)))
  clear hY hM hDD hE
  go_upto_region 2 with fail
  go_cut [6, 7] (fun p q wz => ∃ g6, p = .pointer (some ⟨g6, 0, none⟩) ∧ w.heap.size < g6 ∧ q = .int .i64 E ∧ Hid (Cs g6 wz [.int .i64 Y, .int .i64 M, .int .i64 D]) ∧ Hid (Cs w.heap.size wz noL) ∧ Hid (Below w.heap.size w wz))
  case first =>
    go_wp2_with fail
    refine (Civ.date_w d _ (HA.out.stays B.out)).mono ?_
    rintro e w3 ⟨rfl, hw⟩
    have k : Below w2.heap.size w2 w3 := by rw [← hw]; exact (Below.refl _ _).alloc (Nat.le_refl _) _
    have C := Lib.hid (C.out.below k)
    have B := Lib.hid (bstep B.out k)
    clear hw k
    rw [HY.out.1, HY.out.2.1, HY.out.2.2.1, HY.out.2.2.2]
    have lt := C.out.1
    go_wp2
    go_meet
    exact ⟨_, rfl, by omega, rfl, Lib.hid (Cs.new w3 [.int .i64 Y, .int .i64 M, .int .i64 D] _), Lib.hid (C.out.alloc _), Lib.hid (B.out.alloc B.out.size _)⟩
  case rest =>
  obtain ⟨w3, rfl⟩ : ∃ x : World, x = wc := ⟨_, rfl⟩
  clear C B
  obtain ⟨g6, rfl, hg, rfl, DC, C, B⟩ := hcut
  have e0 := (DC.out.2 0 _ rfl).1
  have c0 := (C.out.2 0 (.int .i64 0) rfl).1
  have f0 := (C.out.2 0 (.int .i64 0) rfl).2
  have c1 := (C.out.2 1 (.int .i64 0) rfl).1
  have f1 := (C.out.2 1 (.int .i64 0) rfl).2
  have c2 := (C.out.2 2 (.int .i64 0) rfl).1
  have f2 := (C.out.2 2 (.int .i64 0) rfl).2
  have c3 := (C.out.2 3 (.int .i64 0) rfl).1
  have f3 := (C.out.2 3 (.int .i64 0) rfl).2
  have c4 := (C.out.2 4 (.int .i64 0) rfl).1
  have f4 := (C.out.2 4 (.int .i64 0) rfl).2
  have c5 := (C.out.2 5 (.int .i64 0) rfl).1
  have f5 := (C.out.2 5 (.int .i64 0) rfl).2
  have c6 := (C.out.2 6 (.int .i64 0) rfl).1
  have f6 := (C.out.2 6 (.int .i64 0) rfl).2
  have c7 := (C.out.2 7 (.int .i64 0) rfl).1
  have f7 := (C.out.2 7 (.int .i64 0) rfl).2
  have hE : E = 0 ∨ E = 23 := by
    rw [← HY.out.2.2.2, dnE]
    split
    · exact Or.inl rfl
    · exact Or.inr rfl
  rcases hE with rfl | rfl
  · obtain ⟨y, hy⟩ : ∃ y, decide (1 ≤ Y ∧ Y ≤ 9999) = y := ⟨_, rfl⟩
    go_wp2_with fail
    refine (isy_to Y _).mono ?_
    rintro e w4 ⟨rfl, rfl⟩
    rw [hy]
    cases y with
    | false =>
      go_wp2
      exact bodyPost_ret (v := .tuple #[.agg noL.toArray, .bool false]) (by simp [results, Tryd.results34, go_sem, noL, c0, c1, c2, c3, c4, c5, c6, c7]) rfl ⟨rfl, below_sets8 B.out⟩
    | true =>
      have q := HO.out
      rw [moO, HD.out, HY.out.1, HY.out.2.2.2] at q
      have hy := of_decide_eq_true hy
      exact absurd q (by simp; omega)
  · go_wp2
    exact bodyPost_ret (v := .tuple #[.agg noL.toArray, .bool false]) (by simp [results, Tryd.results34, go_sem, noL, c0, c1, c2, c3, c4, c5, c6, c7]) rfl ⟨rfl, below_sets8 B.out⟩
end Fil
end Go.Proofs.YtpcmfgfhdnfmcaaDoor
