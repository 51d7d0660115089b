/-
  recur.daysAreRight: weekdays that are right, none twice.
-/
import Derived.Test.YtfdamkiocefgmaaDoorRckA
import Derived.Test.YtfdamkiocefgmaaDoorHeldR
import Derived.Deep.RegionHeld3
namespace Go.Proofs.YtfdamkiocefgmaaDoor
open Go.RowKit
namespace Rck
open Cel
open Rcv (CV IntV DayV LisV RecV)
/-- Which places of the table of weekdays are marked. -/
def mkD (L : List (Int × Int)) (i : Nat) : Bool := L.any (fun d => decide (d.2 * 107 + (53 + d.1) = (i : Int)))
theorem mkD_one {L : List (Int × Int)} {X : Int × Int} {i : Nat} (hi : X.2 * 107 + (53 + X.1) = (i : Int)) (hX : -53 ≤ X.1 ∧ X.1 ≤ 53) (hL : dyB L = true) : mkD L i = decide (X ∈ L) := by
  have hd := (dyB_iff.1 hL).1
  by_cases h : X ∈ L
  · rw [decide_eq_true h, mkD, List.any_eq_true]
    exact ⟨X, h, decide_eq_true hi⟩
  · rw [decide_eq_false h, mkD, ← Bool.not_eq_true, List.any_eq_true]
    rintro ⟨d, hm, hd2⟩
    have e := of_decide_eq_true hd2
    have b := hd d hm
    have e1 : d.1 = X.1 ∧ d.2 = X.2 := by omega
    exact h (by rw [← (show d = X from Prod.ext e1.1 e1.2)]; exact hm)
theorem mkD_next {L : List (Int × Int)} {X : Int × Int} {i : Nat} (hi : X.2 * 107 + (53 + X.1) = (i : Int)) (j : Nat) : (mkD L j || decide (j = i)) = mkD (L ++ [X]) j := by
  rw [mkD, mkD, List.any_append]
  have : (j = i) ↔ (X.2 * 107 + (53 + X.1) = (j : Int)) := by omega
  simp [this]
set_option maxHeartbeats 6400000 in
set_option maxRecDepth 100000 in
theorem dy_to (v : Value) (L : List (Int × Int)) (r : Bool) (w : World) (hv : DayV w v L) (hL : L.length ≤ 1000000) (hr : Hid (dyB L = r)) :
    Calls Tryd.prog 25 #[v] w fun e w' => e = .returned (.bool r) ∧ Below w.heap.size w w' := by
  by_cases h0 : L.length = 0
  · have e1 : L = [] := List.length_eq_zero_iff.1 h0
    subst e1
    obtain ⟨q, c, rfl⟩ := hv.nil
    have hr' := hr.out
    rw [dyB_nil] at hr'
    subst hr'
    clear hv h0 hL hr
    go_enter Tryd.func25, Tryd.ntmps25
    go_wp2
    go_ret
    exact ⟨rfl, Below.refl _ _⟩
  · obtain ⟨b1, o1, c1, rfl, hb1, k1⟩ := hv.form (by omega)
    obtain ⟨n, hn⟩ : ∃ n, L.length = n := ⟨_, rfl⟩
    have K1 : Hid (∀ (j : Nat) (hj : j < L.length), w.cell? ⟨b1, o1 + j * 2, Option.none⟩ = some (.int .i64 L[j].1) ∧ w.cell? ⟨b1, o1 + j * 2 + 1, Option.none⟩ = some (.int .i64 L[j].2)) := Lib.hid k1
    have HN := Lib.hid hn
    have HB1 := Lib.hid hb1
    rw [hn] at hL h0 ⊢
    have hne : ((n : Int) == 0) = false := beq_eq_false_iff_ne.2 (by omega)
    clear k1 hv hn hb1
    go_enter Tryd.func25, Tryd.ntmps25
    go_upto_region 3 with fail
    go_cut [3] (fun p w1 => p = .pointer (some ⟨w.heap.size, 0, none⟩) ∧ Hid (SeenB w.heap.size w1 749 (fun _ => false)) ∧ Hid (Below w.heap.size w w1))
    case first =>
      go_wp2
      go_meet
      exact ⟨rfl, Lib.hid (SeenB.new w 749 _), Lib.hid ((Below.refl _ _).alloc (Nat.le_refl _) _)⟩
    case rest =>
    obtain ⟨w1, rfl⟩ : ∃ x : World, x = wc := ⟨_, rfl⟩
    obtain ⟨rfl, T1, B1⟩ := hcut
    go_wp2_with fail
    go_loopw [11] (fun iv wr => ∃ k : Nat, k ≤ n ∧ iv = .int .i64 k ∧ Hid (dyB (L.take k) = true) ∧ Hid (SeenB w.heap.size wr 749 (mkD (L.take k))) ∧ Hid (Below w.heap.size w wr)) (fun iv _ => n - (intOf iv).toNat)
    case atStart => exact ⟨0, Nat.zero_le _, rfl, Lib.hid (by rw [List.take_zero]; exact dyB_nil), Lib.hid (T1.out.like (fun i _ => by simp [mkD])), B1⟩
    case round =>
      obtain ⟨k, hk, rfl, HT, S, B⟩ := hrel
      obtain ⟨wo, rfl⟩ : ∃ wo : World, wo = wr := ⟨_, rfl⟩
      by_cases hlt : k < n
      · have h1L : k < L.length := by rw [HN.out]; exact hlt
        have g1 := (B.out.cell (p := ⟨b1, o1 + k * 2, Option.none⟩) HB1.out).trans (K1.out k h1L).1
        have g2 := (B.out.cell (p := ⟨b1, o1 + k * 2 + 1, Option.none⟩) HB1.out).trans (K1.out k h1L).2
        obtain ⟨X, hX⟩ : ∃ X, L[k].1 = X := ⟨_, rfl⟩
        obtain ⟨Y, hY⟩ : ∃ Y, L[k].2 = Y := ⟨_, rfl⟩
        have HX : Hid (L[k].1 = X ∧ L[k].2 = Y) := Lib.hid ⟨hX, hY⟩
        rw [hX] at g1
        rw [hY] at g2
        clear hX hY
        go_upto_region 6 with fail
        go_cut [5] from 12 to 50 (fun p w5 => p = .pointer (some ⟨wo.heap.size, 0, none⟩) ∧ Hid (Cs wo.heap.size w5 [.int .i64 X, .int .i64 Y]) ∧ Hid (SeenB w.heap.size w5 749 (mkD (L.take k))) ∧ Hid (Below w.heap.size w w5))
        case first =>
          go_wp2
          go_meet
          exact ⟨rfl, Lib.hid (Cs.new wo _ _), Lib.hid (S.out.below ((Below.refl _ _).alloc (Nat.le_refl _) _)), Lib.hid (B.out.alloc B.out.size _)⟩
        case rest =>
        obtain ⟨w5, rfl⟩ : ∃ x : World, x = wc := ⟨_, rfl⟩
        obtain ⟨rfl, D5, S5, B5⟩ := hcut
        have HNE : Hid (w.heap.size ≠ wo.heap.size) := Lib.hid (by have := S.out.1; omega)
        have d0 := (D5.out.2 0 _ rfl).1
        have d1 := (D5.out.2 1 _ rfl).1
        have SZ : Hid (w5.drew.cell? ⟨wo.heap.size, 0, Option.none⟩ = some (.int .i64 X) ∧ w5.drew.cell? ⟨wo.heap.size, 1, Option.none⟩ = some (.int .i64 Y)) := Lib.hid ⟨d0, d1⟩
        by_cases y1 : Y < 0
        · have hF : r = false := by rw [← hr.out]; exact dy_bad h1L (by have q := HX.out; rw [q.1, q.2]; exact Or.inl y1)
          subst hF
          clear HX h1L
          go_upto_region 7 with fail
          refine Hr.Walk.region (R := fun _ x => x.cell? ⟨wo.heap.size, 0, Option.none⟩ = some (.int .i64 X) ∧ x.cell? ⟨wo.heap.size, 1, Option.none⟩ = some (.int .i64 Y)) (by kernel_rfl) ?_
          refine Hr.Walk.one (i := 0) (by kernel_rfl) rfl (fun K hK => ?_)
          go_simp
          refine hK.out _ _ SZ.out ?_
          clear hK K
          refine Hr.Walk.one (i := 1) (by kernel_rfl) rfl (fun K hK => ?_)
          go_simp
          refine hK.out _ _ SZ.out ?_
          clear hK K
          refine Hr.Walk.one (i := 2) (by kernel_rfl) rfl (fun K hK => ?_)
          go_simp
          refine hK.out _ _ SZ.out ?_
          clear hK K
          refine Hr.Walk.one (i := 3) (by kernel_rfl) rfl (fun K hK => ?_)
          go_simp
          refine hK.out _ _ SZ.out ?_
          clear hK K
          refine Hr.Walk.one (i := 4) (by kernel_rfl) rfl (fun K hK => ?_)
          go_simp
          refine hK.out _ _ SZ.out ?_
          clear hK K
          refine Hr.Walk.one (i := 5) (by kernel_rfl) rfl (fun K hK => ?_)
          go_simp
          refine hK.out _ _ SZ.out ?_
          clear hK K
          refine Hr.Walk.one (i := 6) (by kernel_rfl) rfl (fun K hK => ?_)
          go_simp
          refine hK.out _ _ SZ.out ?_
          clear hK K
          refine Hr.Walk.one (i := 7) (by kernel_rfl) rfl (fun K hK => ?_)
          go_simp
          refine hK.out _ _ SZ.out ?_
          clear hK K
          refine Hr.Walk.one (i := 8) (by kernel_rfl) rfl (fun K hK => ?_)
          go_simp
          refine hK.out _ _ SZ.out ?_
          clear hK K
          refine Hr.Walk.one (i := 9) (by kernel_rfl) rfl (fun K hK => ?_)
          go_simp
          refine hK.out _ _ SZ.out ?_
          clear hK K
          refine Hr.Walk.one (i := 10) (by kernel_rfl) rfl (fun K hK => ?_)
          go_simp
          refine hK.out _ _ SZ.out ?_
          clear hK K
          refine Hr.Walk.one (i := 11) (by kernel_rfl) rfl (fun K hK => ?_)
          go_simp
          refine hK.out _ _ SZ.out ?_
          clear hK K
          refine Hr.Walk.one (i := 12) (by kernel_rfl) rfl (fun K hK => ?_)
          go_simp
          refine hK.out _ _ SZ.out ?_
          clear hK K
          refine Hr.Walk.one (i := 13) (by kernel_rfl) rfl (fun K hK => ?_)
          go_simp
          refine hK.out _ _ SZ.out ?_
          clear hK K
          refine Hr.Walk.one (i := 14) (by kernel_rfl) rfl (fun K hK => ?_)
          go_simp
          refine hK.out _ _ SZ.out ?_
          clear hK K
          refine Hr.Walk.one (i := 15) (by kernel_rfl) rfl (fun K hK => ?_)
          go_simp
          refine hK.out _ _ SZ.out ?_
          clear hK K
          refine Hr.Walk.one (i := 16) (by kernel_rfl) rfl (fun K hK => ?_)
          go_simp
          refine hK.out _ _ SZ.out ?_
          clear hK K
          refine Hr.Walk.one (i := 17) (by kernel_rfl) rfl (fun K hK => ?_)
          go_simp
          refine hK.out _ _ SZ.out ?_
          clear hK K
          refine Hr.Walk.one (i := 18) (by kernel_rfl) rfl (fun K hK => ?_)
          go_simp
          refine hK.out _ _ SZ.out ?_
          clear hK K
          refine Hr.Walk.take (i := 19) (v := undef) (fun x => x.cell? ⟨wo.heap.size, 0, Option.none⟩ = some (.int .i64 X) ∧ x.cell? ⟨wo.heap.size, 1, Option.none⟩ = some (.int .i64 Y)) (fun _ => True) rfl (by kernel_rfl) (by kernel_rfl) (by kernel_rfl) (fun _ _ _ h => h) (fun _ _ _ _ _ _ => trivial) (fun _ _ _ h => h) (fun _ _ h => h) trivial (Or.inr ⟨by rfl, rfl⟩) SZ.out SZ.out ?_
          (try go_simp)
          refine Hr.Walk.take (i := 20) (v := undef) (fun x => x.cell? ⟨wo.heap.size, 0, Option.none⟩ = some (.int .i64 X) ∧ x.cell? ⟨wo.heap.size, 1, Option.none⟩ = some (.int .i64 Y)) (fun _ => True) rfl (by kernel_rfl) (by kernel_rfl) (by kernel_rfl) (fun _ _ _ h => h) (fun _ _ _ _ _ _ => trivial) (fun _ _ _ h => h) (fun _ _ h => h) trivial (Or.inr ⟨by rfl, rfl⟩) SZ.out SZ.out ?_
          (try go_simp)
          refine Hr.Walk.take (i := 21) (v := undef) (fun x => x.cell? ⟨wo.heap.size, 0, Option.none⟩ = some (.int .i64 X) ∧ x.cell? ⟨wo.heap.size, 1, Option.none⟩ = some (.int .i64 Y)) (fun _ => True) rfl (by kernel_rfl) (by kernel_rfl) (by kernel_rfl) (fun _ _ _ h => h) (fun _ _ _ _ _ _ => trivial) (fun _ _ _ h => h) (fun _ _ h => h) trivial (Or.inr ⟨by rfl, rfl⟩) SZ.out SZ.out ?_
          (try go_simp)
          refine Hr.Walk.take (i := 22) (v := undef) (fun x => x.cell? ⟨wo.heap.size, 0, Option.none⟩ = some (.int .i64 X) ∧ x.cell? ⟨wo.heap.size, 1, Option.none⟩ = some (.int .i64 Y)) (fun _ => True) rfl (by kernel_rfl) (by kernel_rfl) (by kernel_rfl) (fun _ _ _ h => h) (fun _ _ _ _ _ _ => trivial) (fun _ _ _ h => h) (fun _ _ h => h) trivial (Or.inr ⟨by rfl, rfl⟩) SZ.out SZ.out ?_
          (try go_simp)
          refine Hr.Walk.take (i := 23) (v := undef) (fun x => x.cell? ⟨wo.heap.size, 0, Option.none⟩ = some (.int .i64 X) ∧ x.cell? ⟨wo.heap.size, 1, Option.none⟩ = some (.int .i64 Y)) (fun _ => True) rfl (by kernel_rfl) (by kernel_rfl) (by kernel_rfl) (fun _ _ _ h => h) (fun _ _ _ _ _ _ => trivial) (fun _ _ _ h => h) (fun _ _ h => h) trivial (Or.inr ⟨by rfl, rfl⟩) SZ.out SZ.out ?_
          (try go_simp)
          refine Hr.Walk.one (i := 24) (by kernel_rfl) rfl (fun K hK => ?_)
          go_simp
          refine hK.out _ _ SZ.out ?_
          clear hK K
          refine Hr.Walk.one (i := 25) (by kernel_rfl) rfl (fun K hK => ?_)
          go_simp
          refine hK.out _ _ SZ.out ?_
          clear hK K
          refine Hr.Walk.one (i := 26) (by kernel_rfl) rfl (fun K hK => ?_)
          go_simp
          refine hK.out _ _ SZ.out ?_
          clear hK K
          refine Hr.Walk.one (i := 27) (by kernel_rfl) rfl (fun K hK => ?_)
          go_simp
          refine hK.out _ _ SZ.out ?_
          clear hK K
          refine Hr.Walk.done (by kernel_rfl) ?_ _
          go_wp2
          go_ret
          exact ⟨rfl, B5.out.drew⟩
        by_cases y2 : 6 < Y
        · have hF : r = false := by rw [← hr.out]; exact dy_bad h1L (by have q := HX.out; rw [q.1, q.2]; exact Or.inr (Or.inl y2))
          subst hF
          clear HX h1L
          go_upto_region 7 with fail
          refine Hr.Walk.region (R := fun _ x => x.cell? ⟨wo.heap.size, 0, Option.none⟩ = some (.int .i64 X) ∧ x.cell? ⟨wo.heap.size, 1, Option.none⟩ = some (.int .i64 Y)) (by kernel_rfl) ?_
          refine Hr.Walk.one (i := 0) (by kernel_rfl) rfl (fun K hK => ?_)
          go_simp
          refine hK.out _ _ SZ.out ?_
          clear hK K
          refine Hr.Walk.one (i := 1) (by kernel_rfl) rfl (fun K hK => ?_)
          go_simp
          refine hK.out _ _ SZ.out ?_
          clear hK K
          refine Hr.Walk.one (i := 2) (by kernel_rfl) rfl (fun K hK => ?_)
          go_simp
          refine hK.out _ _ SZ.out ?_
          clear hK K
          refine Hr.Walk.one (i := 3) (by kernel_rfl) rfl (fun K hK => ?_)
          go_simp
          refine hK.out _ _ SZ.out ?_
          clear hK K
          refine Hr.Walk.one (i := 4) (by kernel_rfl) rfl (fun K hK => ?_)
          go_simp
          refine hK.out _ _ SZ.out ?_
          clear hK K
          refine Hr.Walk.one (i := 5) (by kernel_rfl) rfl (fun K hK => ?_)
          go_simp
          refine hK.out _ _ SZ.out ?_
          clear hK K
          refine Hr.Walk.one (i := 6) (by kernel_rfl) rfl (fun K hK => ?_)
          go_simp
          refine hK.out _ _ SZ.out ?_
          clear hK K
          refine Hr.Walk.one (i := 7) (by kernel_rfl) rfl (fun K hK => ?_)
          go_simp
          refine hK.out _ _ SZ.out ?_
          clear hK K
          refine Hr.Walk.one (i := 8) (by kernel_rfl) rfl (fun K hK => ?_)
          go_simp
          refine hK.out _ _ SZ.out ?_
          clear hK K
          refine Hr.Walk.one (i := 9) (by kernel_rfl) rfl (fun K hK => ?_)
          go_simp
          refine hK.out _ _ SZ.out ?_
          clear hK K
          refine Hr.Walk.one (i := 10) (by kernel_rfl) rfl (fun K hK => ?_)
          go_simp
          refine hK.out _ _ SZ.out ?_
          clear hK K
          refine Hr.Walk.one (i := 11) (by kernel_rfl) rfl (fun K hK => ?_)
          go_simp
          refine hK.out _ _ SZ.out ?_
          clear hK K
          refine Hr.Walk.one (i := 12) (by kernel_rfl) rfl (fun K hK => ?_)
          go_simp
          refine hK.out _ _ SZ.out ?_
          clear hK K
          refine Hr.Walk.one (i := 13) (by kernel_rfl) rfl (fun K hK => ?_)
          go_simp
          refine hK.out _ _ SZ.out ?_
          clear hK K
          refine Hr.Walk.one (i := 14) (by kernel_rfl) rfl (fun K hK => ?_)
          go_simp
          refine hK.out _ _ SZ.out ?_
          clear hK K
          refine Hr.Walk.one (i := 15) (by kernel_rfl) rfl (fun K hK => ?_)
          go_simp
          refine hK.out _ _ SZ.out ?_
          clear hK K
          refine Hr.Walk.one (i := 16) (by kernel_rfl) rfl (fun K hK => ?_)
          go_simp
          refine hK.out _ _ SZ.out ?_
          clear hK K
          refine Hr.Walk.one (i := 17) (by kernel_rfl) rfl (fun K hK => ?_)
          go_simp
          refine hK.out _ _ SZ.out ?_
          clear hK K
          refine Hr.Walk.one (i := 18) (by kernel_rfl) rfl (fun K hK => ?_)
          go_simp
          refine hK.out _ _ SZ.out ?_
          clear hK K
          refine Hr.Walk.take (i := 19) (v := undef) (fun x => x.cell? ⟨wo.heap.size, 0, Option.none⟩ = some (.int .i64 X) ∧ x.cell? ⟨wo.heap.size, 1, Option.none⟩ = some (.int .i64 Y)) (fun _ => True) rfl (by kernel_rfl) (by kernel_rfl) (by kernel_rfl) (fun _ _ _ h => h) (fun _ _ _ _ _ _ => trivial) (fun _ _ _ h => h) (fun _ _ h => h) trivial (Or.inr ⟨by rfl, rfl⟩) SZ.out SZ.out ?_
          (try go_simp)
          refine Hr.Walk.take (i := 20) (v := undef) (fun x => x.cell? ⟨wo.heap.size, 0, Option.none⟩ = some (.int .i64 X) ∧ x.cell? ⟨wo.heap.size, 1, Option.none⟩ = some (.int .i64 Y)) (fun _ => True) rfl (by kernel_rfl) (by kernel_rfl) (by kernel_rfl) (fun _ _ _ h => h) (fun _ _ _ _ _ _ => trivial) (fun _ _ _ h => h) (fun _ _ h => h) trivial (Or.inr ⟨by rfl, rfl⟩) SZ.out SZ.out ?_
          (try go_simp)
          refine Hr.Walk.take (i := 21) (v := undef) (fun x => x.cell? ⟨wo.heap.size, 0, Option.none⟩ = some (.int .i64 X) ∧ x.cell? ⟨wo.heap.size, 1, Option.none⟩ = some (.int .i64 Y)) (fun _ => True) rfl (by kernel_rfl) (by kernel_rfl) (by kernel_rfl) (fun _ _ _ h => h) (fun _ _ _ _ _ _ => trivial) (fun _ _ _ h => h) (fun _ _ h => h) trivial (Or.inr ⟨by rfl, rfl⟩) SZ.out SZ.out ?_
          (try go_simp)
          refine Hr.Walk.take (i := 22) (v := undef) (fun x => x.cell? ⟨wo.heap.size, 0, Option.none⟩ = some (.int .i64 X) ∧ x.cell? ⟨wo.heap.size, 1, Option.none⟩ = some (.int .i64 Y)) (fun _ => True) rfl (by kernel_rfl) (by kernel_rfl) (by kernel_rfl) (fun _ _ _ h => h) (fun _ _ _ _ _ _ => trivial) (fun _ _ _ h => h) (fun _ _ h => h) trivial (Or.inr ⟨by rfl, rfl⟩) SZ.out SZ.out ?_
          (try go_simp)
          refine Hr.Walk.take (i := 23) (v := undef) (fun x => x.cell? ⟨wo.heap.size, 0, Option.none⟩ = some (.int .i64 X) ∧ x.cell? ⟨wo.heap.size, 1, Option.none⟩ = some (.int .i64 Y)) (fun _ => True) rfl (by kernel_rfl) (by kernel_rfl) (by kernel_rfl) (fun _ _ _ h => h) (fun _ _ _ _ _ _ => trivial) (fun _ _ _ h => h) (fun _ _ h => h) trivial (Or.inr ⟨by rfl, rfl⟩) SZ.out SZ.out ?_
          (try go_simp)
          refine Hr.Walk.one (i := 24) (by kernel_rfl) rfl (fun K hK => ?_)
          go_simp
          refine hK.out _ _ SZ.out ?_
          clear hK K
          refine Hr.Walk.one (i := 25) (by kernel_rfl) rfl (fun K hK => ?_)
          go_simp
          refine hK.out _ _ SZ.out ?_
          clear hK K
          refine Hr.Walk.one (i := 26) (by kernel_rfl) rfl (fun K hK => ?_)
          go_simp
          refine hK.out _ _ SZ.out ?_
          clear hK K
          refine Hr.Walk.one (i := 27) (by kernel_rfl) rfl (fun K hK => ?_)
          go_simp
          refine hK.out _ _ SZ.out ?_
          clear hK K
          refine Hr.Walk.done (by kernel_rfl) ?_ _
          go_wp2
          go_ret
          exact ⟨rfl, B5.out.drew⟩
        by_cases x1 : X < -53
        · have hF : r = false := by rw [← hr.out]; exact dy_bad h1L (by have q := HX.out; rw [q.1, q.2]; exact Or.inr (Or.inr (Or.inl x1)))
          subst hF
          clear HX h1L
          go_upto_region 7 with fail
          refine Hr.Walk.region (R := fun _ x => x.cell? ⟨wo.heap.size, 0, Option.none⟩ = some (.int .i64 X) ∧ x.cell? ⟨wo.heap.size, 1, Option.none⟩ = some (.int .i64 Y)) (by kernel_rfl) ?_
          refine Hr.Walk.one (i := 0) (by kernel_rfl) rfl (fun K hK => ?_)
          go_simp
          refine hK.out _ _ SZ.out ?_
          clear hK K
          refine Hr.Walk.one (i := 1) (by kernel_rfl) rfl (fun K hK => ?_)
          go_simp
          refine hK.out _ _ SZ.out ?_
          clear hK K
          refine Hr.Walk.one (i := 2) (by kernel_rfl) rfl (fun K hK => ?_)
          go_simp
          refine hK.out _ _ SZ.out ?_
          clear hK K
          refine Hr.Walk.one (i := 3) (by kernel_rfl) rfl (fun K hK => ?_)
          go_simp
          refine hK.out _ _ SZ.out ?_
          clear hK K
          refine Hr.Walk.one (i := 4) (by kernel_rfl) rfl (fun K hK => ?_)
          go_simp
          refine hK.out _ _ SZ.out ?_
          clear hK K
          refine Hr.Walk.one (i := 5) (by kernel_rfl) rfl (fun K hK => ?_)
          go_simp
          refine hK.out _ _ SZ.out ?_
          clear hK K
          refine Hr.Walk.one (i := 6) (by kernel_rfl) rfl (fun K hK => ?_)
          go_simp
          refine hK.out _ _ SZ.out ?_
          clear hK K
          refine Hr.Walk.one (i := 7) (by kernel_rfl) rfl (fun K hK => ?_)
          go_simp
          refine hK.out _ _ SZ.out ?_
          clear hK K
          refine Hr.Walk.one (i := 8) (by kernel_rfl) rfl (fun K hK => ?_)
          go_simp
          refine hK.out _ _ SZ.out ?_
          clear hK K
          refine Hr.Walk.one (i := 9) (by kernel_rfl) rfl (fun K hK => ?_)
          go_simp
          refine hK.out _ _ SZ.out ?_
          clear hK K
          refine Hr.Walk.one (i := 10) (by kernel_rfl) rfl (fun K hK => ?_)
          go_simp
          refine hK.out _ _ SZ.out ?_
          clear hK K
          refine Hr.Walk.one (i := 11) (by kernel_rfl) rfl (fun K hK => ?_)
          go_simp
          refine hK.out _ _ SZ.out ?_
          clear hK K
          refine Hr.Walk.one (i := 12) (by kernel_rfl) rfl (fun K hK => ?_)
          go_simp
          refine hK.out _ _ SZ.out ?_
          clear hK K
          refine Hr.Walk.one (i := 13) (by kernel_rfl) rfl (fun K hK => ?_)
          go_simp
          refine hK.out _ _ SZ.out ?_
          clear hK K
          refine Hr.Walk.one (i := 14) (by kernel_rfl) rfl (fun K hK => ?_)
          go_simp
          refine hK.out _ _ SZ.out ?_
          clear hK K
          refine Hr.Walk.one (i := 15) (by kernel_rfl) rfl (fun K hK => ?_)
          go_simp
          refine hK.out _ _ SZ.out ?_
          clear hK K
          refine Hr.Walk.one (i := 16) (by kernel_rfl) rfl (fun K hK => ?_)
          go_simp
          refine hK.out _ _ SZ.out ?_
          clear hK K
          refine Hr.Walk.one (i := 17) (by kernel_rfl) rfl (fun K hK => ?_)
          go_simp
          refine hK.out _ _ SZ.out ?_
          clear hK K
          refine Hr.Walk.one (i := 18) (by kernel_rfl) rfl (fun K hK => ?_)
          go_simp
          refine hK.out _ _ SZ.out ?_
          clear hK K
          refine Hr.Walk.take (i := 19) (v := undef) (fun x => x.cell? ⟨wo.heap.size, 0, Option.none⟩ = some (.int .i64 X) ∧ x.cell? ⟨wo.heap.size, 1, Option.none⟩ = some (.int .i64 Y)) (fun _ => True) rfl (by kernel_rfl) (by kernel_rfl) (by kernel_rfl) (fun _ _ _ h => h) (fun _ _ _ _ _ _ => trivial) (fun _ _ _ h => h) (fun _ _ h => h) trivial (Or.inr ⟨by rfl, rfl⟩) SZ.out SZ.out ?_
          (try go_simp)
          refine Hr.Walk.take (i := 20) (v := undef) (fun x => x.cell? ⟨wo.heap.size, 0, Option.none⟩ = some (.int .i64 X) ∧ x.cell? ⟨wo.heap.size, 1, Option.none⟩ = some (.int .i64 Y)) (fun _ => True) rfl (by kernel_rfl) (by kernel_rfl) (by kernel_rfl) (fun _ _ _ h => h) (fun _ _ _ _ _ _ => trivial) (fun _ _ _ h => h) (fun _ _ h => h) trivial (Or.inr ⟨by rfl, rfl⟩) SZ.out SZ.out ?_
          (try go_simp)
          refine Hr.Walk.take (i := 21) (v := undef) (fun x => x.cell? ⟨wo.heap.size, 0, Option.none⟩ = some (.int .i64 X) ∧ x.cell? ⟨wo.heap.size, 1, Option.none⟩ = some (.int .i64 Y)) (fun _ => True) rfl (by kernel_rfl) (by kernel_rfl) (by kernel_rfl) (fun _ _ _ h => h) (fun _ _ _ _ _ _ => trivial) (fun _ _ _ h => h) (fun _ _ h => h) trivial (Or.inr ⟨by rfl, rfl⟩) SZ.out SZ.out ?_
          (try go_simp)
          refine Hr.Walk.take (i := 22) (v := undef) (fun x => x.cell? ⟨wo.heap.size, 0, Option.none⟩ = some (.int .i64 X) ∧ x.cell? ⟨wo.heap.size, 1, Option.none⟩ = some (.int .i64 Y)) (fun _ => True) rfl (by kernel_rfl) (by kernel_rfl) (by kernel_rfl) (fun _ _ _ h => h) (fun _ _ _ _ _ _ => trivial) (fun _ _ _ h => h) (fun _ _ h => h) trivial (Or.inr ⟨by rfl, rfl⟩) SZ.out SZ.out ?_
          (try go_simp)
          refine Hr.Walk.take (i := 23) (v := undef) (fun x => x.cell? ⟨wo.heap.size, 0, Option.none⟩ = some (.int .i64 X) ∧ x.cell? ⟨wo.heap.size, 1, Option.none⟩ = some (.int .i64 Y)) (fun _ => True) rfl (by kernel_rfl) (by kernel_rfl) (by kernel_rfl) (fun _ _ _ h => h) (fun _ _ _ _ _ _ => trivial) (fun _ _ _ h => h) (fun _ _ h => h) trivial (Or.inr ⟨by rfl, rfl⟩) SZ.out SZ.out ?_
          (try go_simp)
          refine Hr.Walk.one (i := 24) (by kernel_rfl) rfl (fun K hK => ?_)
          go_simp
          refine hK.out _ _ SZ.out ?_
          clear hK K
          refine Hr.Walk.one (i := 25) (by kernel_rfl) rfl (fun K hK => ?_)
          go_simp
          refine hK.out _ _ SZ.out ?_
          clear hK K
          refine Hr.Walk.one (i := 26) (by kernel_rfl) rfl (fun K hK => ?_)
          go_simp
          refine hK.out _ _ SZ.out ?_
          clear hK K
          refine Hr.Walk.one (i := 27) (by kernel_rfl) rfl (fun K hK => ?_)
          go_simp
          refine hK.out _ _ SZ.out ?_
          clear hK K
          refine Hr.Walk.done (by kernel_rfl) ?_ _
          go_wp2
          go_ret
          exact ⟨rfl, B5.out.drew⟩
        by_cases x2 : 53 < X
        · have hF : r = false := by rw [← hr.out]; exact dy_bad h1L (by have q := HX.out; rw [q.1, q.2]; exact Or.inr (Or.inr (Or.inr (Or.inl x2))))
          subst hF
          clear HX h1L
          go_upto_region 7 with fail
          refine Hr.Walk.region (R := fun _ x => x.cell? ⟨wo.heap.size, 0, Option.none⟩ = some (.int .i64 X) ∧ x.cell? ⟨wo.heap.size, 1, Option.none⟩ = some (.int .i64 Y)) (by kernel_rfl) ?_
          refine Hr.Walk.one (i := 0) (by kernel_rfl) rfl (fun K hK => ?_)
          go_simp
          refine hK.out _ _ SZ.out ?_
          clear hK K
          refine Hr.Walk.one (i := 1) (by kernel_rfl) rfl (fun K hK => ?_)
          go_simp
          refine hK.out _ _ SZ.out ?_
          clear hK K
          refine Hr.Walk.one (i := 2) (by kernel_rfl) rfl (fun K hK => ?_)
          go_simp
          refine hK.out _ _ SZ.out ?_
          clear hK K
          refine Hr.Walk.one (i := 3) (by kernel_rfl) rfl (fun K hK => ?_)
          go_simp
          refine hK.out _ _ SZ.out ?_
          clear hK K
          refine Hr.Walk.one (i := 4) (by kernel_rfl) rfl (fun K hK => ?_)
          go_simp
          refine hK.out _ _ SZ.out ?_
          clear hK K
          refine Hr.Walk.one (i := 5) (by kernel_rfl) rfl (fun K hK => ?_)
          go_simp
          refine hK.out _ _ SZ.out ?_
          clear hK K
          refine Hr.Walk.one (i := 6) (by kernel_rfl) rfl (fun K hK => ?_)
          go_simp
          refine hK.out _ _ SZ.out ?_
          clear hK K
          refine Hr.Walk.one (i := 7) (by kernel_rfl) rfl (fun K hK => ?_)
          go_simp
          refine hK.out _ _ SZ.out ?_
          clear hK K
          refine Hr.Walk.one (i := 8) (by kernel_rfl) rfl (fun K hK => ?_)
          go_simp
          refine hK.out _ _ SZ.out ?_
          clear hK K
          refine Hr.Walk.one (i := 9) (by kernel_rfl) rfl (fun K hK => ?_)
          go_simp
          refine hK.out _ _ SZ.out ?_
          clear hK K
          refine Hr.Walk.one (i := 10) (by kernel_rfl) rfl (fun K hK => ?_)
          go_simp
          refine hK.out _ _ SZ.out ?_
          clear hK K
          refine Hr.Walk.one (i := 11) (by kernel_rfl) rfl (fun K hK => ?_)
          go_simp
          refine hK.out _ _ SZ.out ?_
          clear hK K
          refine Hr.Walk.one (i := 12) (by kernel_rfl) rfl (fun K hK => ?_)
          go_simp
          refine hK.out _ _ SZ.out ?_
          clear hK K
          refine Hr.Walk.one (i := 13) (by kernel_rfl) rfl (fun K hK => ?_)
          go_simp
          refine hK.out _ _ SZ.out ?_
          clear hK K
          refine Hr.Walk.one (i := 14) (by kernel_rfl) rfl (fun K hK => ?_)
          go_simp
          refine hK.out _ _ SZ.out ?_
          clear hK K
          refine Hr.Walk.one (i := 15) (by kernel_rfl) rfl (fun K hK => ?_)
          go_simp
          refine hK.out _ _ SZ.out ?_
          clear hK K
          refine Hr.Walk.one (i := 16) (by kernel_rfl) rfl (fun K hK => ?_)
          go_simp
          refine hK.out _ _ SZ.out ?_
          clear hK K
          refine Hr.Walk.one (i := 17) (by kernel_rfl) rfl (fun K hK => ?_)
          go_simp
          refine hK.out _ _ SZ.out ?_
          clear hK K
          refine Hr.Walk.one (i := 18) (by kernel_rfl) rfl (fun K hK => ?_)
          go_simp
          refine hK.out _ _ SZ.out ?_
          clear hK K
          refine Hr.Walk.take (i := 19) (v := undef) (fun x => x.cell? ⟨wo.heap.size, 0, Option.none⟩ = some (.int .i64 X) ∧ x.cell? ⟨wo.heap.size, 1, Option.none⟩ = some (.int .i64 Y)) (fun _ => True) rfl (by kernel_rfl) (by kernel_rfl) (by kernel_rfl) (fun _ _ _ h => h) (fun _ _ _ _ _ _ => trivial) (fun _ _ _ h => h) (fun _ _ h => h) trivial (Or.inr ⟨by rfl, rfl⟩) SZ.out SZ.out ?_
          (try go_simp)
          refine Hr.Walk.take (i := 20) (v := undef) (fun x => x.cell? ⟨wo.heap.size, 0, Option.none⟩ = some (.int .i64 X) ∧ x.cell? ⟨wo.heap.size, 1, Option.none⟩ = some (.int .i64 Y)) (fun _ => True) rfl (by kernel_rfl) (by kernel_rfl) (by kernel_rfl) (fun _ _ _ h => h) (fun _ _ _ _ _ _ => trivial) (fun _ _ _ h => h) (fun _ _ h => h) trivial (Or.inr ⟨by rfl, rfl⟩) SZ.out SZ.out ?_
          (try go_simp)
          refine Hr.Walk.take (i := 21) (v := undef) (fun x => x.cell? ⟨wo.heap.size, 0, Option.none⟩ = some (.int .i64 X) ∧ x.cell? ⟨wo.heap.size, 1, Option.none⟩ = some (.int .i64 Y)) (fun _ => True) rfl (by kernel_rfl) (by kernel_rfl) (by kernel_rfl) (fun _ _ _ h => h) (fun _ _ _ _ _ _ => trivial) (fun _ _ _ h => h) (fun _ _ h => h) trivial (Or.inr ⟨by rfl, rfl⟩) SZ.out SZ.out ?_
          (try go_simp)
          refine Hr.Walk.take (i := 22) (v := undef) (fun x => x.cell? ⟨wo.heap.size, 0, Option.none⟩ = some (.int .i64 X) ∧ x.cell? ⟨wo.heap.size, 1, Option.none⟩ = some (.int .i64 Y)) (fun _ => True) rfl (by kernel_rfl) (by kernel_rfl) (by kernel_rfl) (fun _ _ _ h => h) (fun _ _ _ _ _ _ => trivial) (fun _ _ _ h => h) (fun _ _ h => h) trivial (Or.inr ⟨by rfl, rfl⟩) SZ.out SZ.out ?_
          (try go_simp)
          refine Hr.Walk.take (i := 23) (v := undef) (fun x => x.cell? ⟨wo.heap.size, 0, Option.none⟩ = some (.int .i64 X) ∧ x.cell? ⟨wo.heap.size, 1, Option.none⟩ = some (.int .i64 Y)) (fun _ => True) rfl (by kernel_rfl) (by kernel_rfl) (by kernel_rfl) (fun _ _ _ h => h) (fun _ _ _ _ _ _ => trivial) (fun _ _ _ h => h) (fun _ _ h => h) trivial (Or.inr ⟨by rfl, rfl⟩) SZ.out SZ.out ?_
          (try go_simp)
          refine Hr.Walk.one (i := 24) (by kernel_rfl) rfl (fun K hK => ?_)
          go_simp
          refine hK.out _ _ SZ.out ?_
          clear hK K
          refine Hr.Walk.one (i := 25) (by kernel_rfl) rfl (fun K hK => ?_)
          go_simp
          refine hK.out _ _ SZ.out ?_
          clear hK K
          refine Hr.Walk.one (i := 26) (by kernel_rfl) rfl (fun K hK => ?_)
          go_simp
          refine hK.out _ _ SZ.out ?_
          clear hK K
          refine Hr.Walk.one (i := 27) (by kernel_rfl) rfl (fun K hK => ?_)
          go_simp
          refine hK.out _ _ SZ.out ?_
          clear hK K
          refine Hr.Walk.done (by kernel_rfl) ?_ _
          go_wp2
          go_ret
          exact ⟨rfl, B5.out.drew⟩
        obtain ⟨a, ha⟩ : ∃ a : Nat, Y = (a : Int) := ⟨Y.toNat, by omega⟩
        obtain ⟨c, hc⟩ : ∃ c : Nat, 53 + X = (c : Int) := ⟨(53 + X).toNat, by omega⟩
        subst ha
        have ha2 : a < 7 := by omega
        have hc2 : c < 107 := by omega
        have hi2 : a * 107 + c < 749 := by omega
        have ai : (a : Int) < 7 := by omega
        have ci : (c : Int) < 107 := by omega
        have s1 : IntKind.i64.wrap (53 + X) = (c : Int) := by rw [hc]; exact IntWalk.i64_in _ (by omega)
        have e3 : (a : Int) * 107 + (53 + X) = ((a * 107 + c : Nat) : Int) := by omega
        have hm := mkD_one (L := L.take k) (X := (X, (a : Int))) e3 (by omega) HT.out
        have t1 : w5.cell? ⟨w.heap.size, a * 107 + c, Option.none⟩ = some (.bool (decide ((X, (a : Int)) ∈ L.take k))) := by rw [← hm]; exact (S5.out.2 _ hi2).1
        have t2 := (S5.out.2 _ hi2).2
        have LX : Hid (L[k] = (X, (a : Int))) := Lib.hid (Prod.ext HX.out.1 HX.out.2)
        have HE := Lib.hid e3
        have HR : Hid (0 ≤ (a : Int) ∧ (a : Int) ≤ 6 ∧ -53 ≤ X ∧ X ≤ 53) := Lib.hid (by omega)
        clear hm e3 hc
        by_cases c3 : (X, (a : Int)) ∈ L.take k
        · have hF : r = false := by rw [← hr.out]; exact dy_bad h1L (Or.inr (Or.inr (Or.inr (Or.inr (by rw [LX.out]; exact c3)))))
          subst hF
          rw [decide_eq_true c3] at t1
          clear LX h1L c3 HX
          go_upto_region 7 with fail
          refine Hr.Walk.region (R := fun _ x => x.cell? ⟨wo.heap.size, 0, Option.none⟩ = some (.int .i64 X) ∧ x.cell? ⟨wo.heap.size, 1, Option.none⟩ = some (.int .i64 (a : Int))) (by kernel_rfl) ?_
          refine Hr.Walk.one (i := 0) (by kernel_rfl) rfl (fun K hK => ?_)
          go_simp
          refine hK.out _ _ SZ.out ?_
          clear hK K
          refine Hr.Walk.one (i := 1) (by kernel_rfl) rfl (fun K hK => ?_)
          go_simp
          refine hK.out _ _ SZ.out ?_
          clear hK K
          refine Hr.Walk.one (i := 2) (by kernel_rfl) rfl (fun K hK => ?_)
          go_simp
          refine hK.out _ _ SZ.out ?_
          clear hK K
          refine Hr.Walk.one (i := 3) (by kernel_rfl) rfl (fun K hK => ?_)
          go_simp
          refine hK.out _ _ SZ.out ?_
          clear hK K
          refine Hr.Walk.one (i := 4) (by kernel_rfl) rfl (fun K hK => ?_)
          go_simp
          refine hK.out _ _ SZ.out ?_
          clear hK K
          refine Hr.Walk.one (i := 5) (by kernel_rfl) rfl (fun K hK => ?_)
          go_simp
          refine hK.out _ _ SZ.out ?_
          clear hK K
          refine Hr.Walk.one (i := 6) (by kernel_rfl) rfl (fun K hK => ?_)
          go_simp
          refine hK.out _ _ SZ.out ?_
          clear hK K
          refine Hr.Walk.one (i := 7) (by kernel_rfl) rfl (fun K hK => ?_)
          go_simp
          refine hK.out _ _ SZ.out ?_
          clear hK K
          refine Hr.Walk.one (i := 8) (by kernel_rfl) rfl (fun K hK => ?_)
          go_simp
          refine hK.out _ _ SZ.out ?_
          clear hK K
          refine Hr.Walk.one (i := 9) (by kernel_rfl) rfl (fun K hK => ?_)
          go_simp
          refine hK.out _ _ SZ.out ?_
          clear hK K
          refine Hr.Walk.one (i := 10) (by kernel_rfl) rfl (fun K hK => ?_)
          go_simp
          refine hK.out _ _ SZ.out ?_
          clear hK K
          refine Hr.Walk.one (i := 11) (by kernel_rfl) rfl (fun K hK => ?_)
          go_simp
          refine hK.out _ _ SZ.out ?_
          clear hK K
          refine Hr.Walk.one (i := 12) (by kernel_rfl) rfl (fun K hK => ?_)
          go_simp
          refine hK.out _ _ SZ.out ?_
          clear hK K
          refine Hr.Walk.one (i := 13) (by kernel_rfl) rfl (fun K hK => ?_)
          go_simp
          refine hK.out _ _ SZ.out ?_
          clear hK K
          refine Hr.Walk.one (i := 14) (by kernel_rfl) rfl (fun K hK => ?_)
          go_simp
          refine hK.out _ _ SZ.out ?_
          clear hK K
          refine Hr.Walk.one (i := 15) (by kernel_rfl) rfl (fun K hK => ?_)
          go_simp
          refine hK.out _ _ SZ.out ?_
          clear hK K
          refine Hr.Walk.one (i := 16) (by kernel_rfl) rfl (fun K hK => ?_)
          go_simp
          refine hK.out _ _ SZ.out ?_
          clear hK K
          refine Hr.Walk.one (i := 17) (by kernel_rfl) rfl (fun K hK => ?_)
          go_simp
          refine hK.out _ _ SZ.out ?_
          clear hK K
          refine Hr.Walk.one (i := 18) (by kernel_rfl) rfl (fun K hK => ?_)
          go_simp
          refine hK.out _ _ SZ.out ?_
          clear hK K
          refine Hr.Walk.take (i := 19) (v := ?v5_19) (fun x => x.cell? ⟨wo.heap.size, 0, Option.none⟩ = some (.int .i64 X) ∧ x.cell? ⟨wo.heap.size, 1, Option.none⟩ = some (.int .i64 (a : Int))) (fun _ => True) rfl (by kernel_rfl) (by kernel_rfl) (by kernel_rfl) (fun _ _ _ h => h) (fun _ _ _ _ _ _ => trivial) (fun _ _ _ h => h) (fun _ _ h => h) trivial (Or.inl ⟨by rfl, ?hy5_19⟩) SZ.out SZ.out ?rest5_19
          case hy5_19 => intro x hx; have e0 := hx.1; have e1 := hx.2; clear hx; go_simp; try with_reducible rfl
          (try go_simp)
          refine Hr.Walk.take (i := 20) (v := ?v5_20) (fun x => x.cell? ⟨wo.heap.size, 0, Option.none⟩ = some (.int .i64 X) ∧ x.cell? ⟨wo.heap.size, 1, Option.none⟩ = some (.int .i64 (a : Int))) (fun _ => True) rfl (by kernel_rfl) (by kernel_rfl) (by kernel_rfl) (fun _ _ _ h => h) (fun _ _ _ _ _ _ => trivial) (fun _ _ _ h => h) (fun _ _ h => h) trivial (Or.inl ⟨by rfl, ?hy5_20⟩) SZ.out SZ.out ?rest5_20
          case hy5_20 => intro x hx; have e0 := hx.1; have e1 := hx.2; clear hx; go_simp; try with_reducible rfl
          (try go_simp)
          refine Hr.Walk.take (i := 21) (v := ?v5_21) (fun x => x.cell? ⟨wo.heap.size, 0, Option.none⟩ = some (.int .i64 X) ∧ x.cell? ⟨wo.heap.size, 1, Option.none⟩ = some (.int .i64 (a : Int))) (fun _ => True) rfl (by kernel_rfl) (by kernel_rfl) (by kernel_rfl) (fun _ _ _ h => h) (fun _ _ _ _ _ _ => trivial) (fun _ _ _ h => h) (fun _ _ h => h) trivial (Or.inl ⟨by rfl, ?hy5_21⟩) SZ.out SZ.out ?rest5_21
          case hy5_21 => intro x hx; have e0 := hx.1; have e1 := hx.2; clear hx; go_simp; try with_reducible rfl
          (try go_simp)
          refine Hr.Walk.take (i := 22) (v := ?v5_22) (fun x => x.cell? ⟨wo.heap.size, 0, Option.none⟩ = some (.int .i64 X) ∧ x.cell? ⟨wo.heap.size, 1, Option.none⟩ = some (.int .i64 (a : Int))) (fun _ => True) rfl (by kernel_rfl) (by kernel_rfl) (by kernel_rfl) (fun _ _ _ h => h) (fun _ _ _ _ _ _ => trivial) (fun _ _ _ h => h) (fun _ _ h => h) trivial (Or.inl ⟨by rfl, ?hy5_22⟩) SZ.out SZ.out ?rest5_22
          case hy5_22 => intro x hx; have e0 := hx.1; have e1 := hx.2; clear hx; go_simp; try with_reducible rfl
          (try go_simp)
          refine Hr.Walk.take (i := 23) (v := ?v5_23) (fun x => x.cell? ⟨wo.heap.size, 0, Option.none⟩ = some (.int .i64 X) ∧ x.cell? ⟨wo.heap.size, 1, Option.none⟩ = some (.int .i64 (a : Int))) (fun _ => True) rfl (by kernel_rfl) (by kernel_rfl) (by kernel_rfl) (fun _ _ _ h => h) (fun _ _ _ _ _ _ => trivial) (fun _ _ _ h => h) (fun _ _ h => h) trivial (Or.inl ⟨by rfl, ?hy5_23⟩) SZ.out SZ.out ?rest5_23
          case hy5_23 => intro x hx; have e0 := hx.1; have e1 := hx.2; clear hx; go_simp; try with_reducible rfl
          (try go_simp)
          refine Hr.Walk.one (i := 24) (by kernel_rfl) rfl (fun K hK => ?_)
          go_simp
          refine hK.out _ _ SZ.out ?_
          clear hK K
          refine Hr.Walk.one (i := 25) (by kernel_rfl) rfl (fun K hK => ?_)
          go_simp
          refine hK.out _ _ SZ.out ?_
          clear hK K
          refine Hr.Walk.one (i := 26) (by kernel_rfl) rfl (fun K hK => ?_)
          go_simp
          refine hK.out _ _ SZ.out ?_
          clear hK K
          refine Hr.Walk.one (i := 27) (by kernel_rfl) rfl (fun K hK => ?_)
          go_simp
          refine hK.out _ _ SZ.out ?_
          clear hK K
          refine Hr.Walk.done (by kernel_rfl) ?_ _
          go_wp2
          go_ret
          exact ⟨rfl, B5.out.drew⟩
        · rw [decide_eq_false c3] at t1
          have HT2 : Hid (dyB (L.take (k + 1)) = true) := Lib.hid (dy_next h1L HT.out (by rw [LX.out]; exact HR.out) (by rw [LX.out]; exact c3))
          have S2 : Hid (SeenB w.heap.size ((w5.drew.drew).setCell ⟨w.heap.size, a * 107 + c, Option.none⟩ (.bool true)) 749 (mkD (L.take (k + 1)))) := Lib.hid (((S5.out.below (w' := w5.drew.drew) ⟨rfl, rfl, rfl, Nat.le_refl _, fun _ _ => rfl⟩).set hi2).like (fun j _ => by
            have e := LX.out
            rw [List.take_succ_eq_append_getElem h1L, e]
            exact mkD_next HE.out j))
          have B6 := Lib.hid ((B5.out.drew).drew.setCell (p := ⟨w.heap.size, a * 107 + c, Option.none⟩) (Nat.le_refl _) (.bool true))
          clear LX h1L c3 HX
          go_upto_region 7 with fail
          refine Hr.Walk.region (R := fun _ x => x.cell? ⟨wo.heap.size, 0, Option.none⟩ = some (.int .i64 X) ∧ x.cell? ⟨wo.heap.size, 1, Option.none⟩ = some (.int .i64 (a : Int))) (by kernel_rfl) ?_
          refine Hr.Walk.one (i := 0) (by kernel_rfl) rfl (fun K hK => ?_)
          go_simp
          refine hK.out _ _ SZ.out ?_
          clear hK K
          refine Hr.Walk.one (i := 1) (by kernel_rfl) rfl (fun K hK => ?_)
          go_simp
          refine hK.out _ _ SZ.out ?_
          clear hK K
          refine Hr.Walk.one (i := 2) (by kernel_rfl) rfl (fun K hK => ?_)
          go_simp
          refine hK.out _ _ SZ.out ?_
          clear hK K
          refine Hr.Walk.one (i := 3) (by kernel_rfl) rfl (fun K hK => ?_)
          go_simp
          refine hK.out _ _ SZ.out ?_
          clear hK K
          refine Hr.Walk.one (i := 4) (by kernel_rfl) rfl (fun K hK => ?_)
          go_simp
          refine hK.out _ _ SZ.out ?_
          clear hK K
          refine Hr.Walk.one (i := 5) (by kernel_rfl) rfl (fun K hK => ?_)
          go_simp
          refine hK.out _ _ SZ.out ?_
          clear hK K
          refine Hr.Walk.one (i := 6) (by kernel_rfl) rfl (fun K hK => ?_)
          go_simp
          refine hK.out _ _ SZ.out ?_
          clear hK K
          refine Hr.Walk.one (i := 7) (by kernel_rfl) rfl (fun K hK => ?_)
          go_simp
          refine hK.out _ _ SZ.out ?_
          clear hK K
          refine Hr.Walk.one (i := 8) (by kernel_rfl) rfl (fun K hK => ?_)
          go_simp
          refine hK.out _ _ SZ.out ?_
          clear hK K
          refine Hr.Walk.one (i := 9) (by kernel_rfl) rfl (fun K hK => ?_)
          go_simp
          refine hK.out _ _ SZ.out ?_
          clear hK K
          refine Hr.Walk.one (i := 10) (by kernel_rfl) rfl (fun K hK => ?_)
          go_simp
          refine hK.out _ _ SZ.out ?_
          clear hK K
          refine Hr.Walk.one (i := 11) (by kernel_rfl) rfl (fun K hK => ?_)
          go_simp
          refine hK.out _ _ SZ.out ?_
          clear hK K
          refine Hr.Walk.one (i := 12) (by kernel_rfl) rfl (fun K hK => ?_)
          go_simp
          refine hK.out _ _ SZ.out ?_
          clear hK K
          refine Hr.Walk.one (i := 13) (by kernel_rfl) rfl (fun K hK => ?_)
          go_simp
          refine hK.out _ _ SZ.out ?_
          clear hK K
          refine Hr.Walk.one (i := 14) (by kernel_rfl) rfl (fun K hK => ?_)
          go_simp
          refine hK.out _ _ SZ.out ?_
          clear hK K
          refine Hr.Walk.one (i := 15) (by kernel_rfl) rfl (fun K hK => ?_)
          go_simp
          refine hK.out _ _ SZ.out ?_
          clear hK K
          refine Hr.Walk.one (i := 16) (by kernel_rfl) rfl (fun K hK => ?_)
          go_simp
          refine hK.out _ _ SZ.out ?_
          clear hK K
          refine Hr.Walk.one (i := 17) (by kernel_rfl) rfl (fun K hK => ?_)
          go_simp
          refine hK.out _ _ SZ.out ?_
          clear hK K
          refine Hr.Walk.one (i := 18) (by kernel_rfl) rfl (fun K hK => ?_)
          go_simp
          refine hK.out _ _ SZ.out ?_
          clear hK K
          refine Hr.Walk.take (i := 19) (v := ?v6_19) (fun x => x.cell? ⟨wo.heap.size, 0, Option.none⟩ = some (.int .i64 X) ∧ x.cell? ⟨wo.heap.size, 1, Option.none⟩ = some (.int .i64 (a : Int))) (fun _ => True) rfl (by kernel_rfl) (by kernel_rfl) (by kernel_rfl) (fun _ _ _ h => h) (fun _ _ _ _ _ _ => trivial) (fun _ _ _ h => h) (fun _ _ h => h) trivial (Or.inl ⟨by rfl, ?hy6_19⟩) SZ.out SZ.out ?rest6_19
          case hy6_19 => intro x hx; have e0 := hx.1; have e1 := hx.2; clear hx; go_simp; try with_reducible rfl
          (try go_simp)
          refine Hr.Walk.take (i := 20) (v := ?v6_20) (fun x => x.cell? ⟨wo.heap.size, 0, Option.none⟩ = some (.int .i64 X) ∧ x.cell? ⟨wo.heap.size, 1, Option.none⟩ = some (.int .i64 (a : Int))) (fun _ => True) rfl (by kernel_rfl) (by kernel_rfl) (by kernel_rfl) (fun _ _ _ h => h) (fun _ _ _ _ _ _ => trivial) (fun _ _ _ h => h) (fun _ _ h => h) trivial (Or.inl ⟨by rfl, ?hy6_20⟩) SZ.out SZ.out ?rest6_20
          case hy6_20 => intro x hx; have e0 := hx.1; have e1 := hx.2; clear hx; go_simp; try with_reducible rfl
          (try go_simp)
          refine Hr.Walk.take (i := 21) (v := ?v6_21) (fun x => x.cell? ⟨wo.heap.size, 0, Option.none⟩ = some (.int .i64 X) ∧ x.cell? ⟨wo.heap.size, 1, Option.none⟩ = some (.int .i64 (a : Int))) (fun _ => True) rfl (by kernel_rfl) (by kernel_rfl) (by kernel_rfl) (fun _ _ _ h => h) (fun _ _ _ _ _ _ => trivial) (fun _ _ _ h => h) (fun _ _ h => h) trivial (Or.inl ⟨by rfl, ?hy6_21⟩) SZ.out SZ.out ?rest6_21
          case hy6_21 => intro x hx; have e0 := hx.1; have e1 := hx.2; clear hx; go_simp; try with_reducible rfl
          (try go_simp)
          refine Hr.Walk.take (i := 22) (v := ?v6_22) (fun x => x.cell? ⟨wo.heap.size, 0, Option.none⟩ = some (.int .i64 X) ∧ x.cell? ⟨wo.heap.size, 1, Option.none⟩ = some (.int .i64 (a : Int))) (fun _ => True) rfl (by kernel_rfl) (by kernel_rfl) (by kernel_rfl) (fun _ _ _ h => h) (fun _ _ _ _ _ _ => trivial) (fun _ _ _ h => h) (fun _ _ h => h) trivial (Or.inl ⟨by rfl, ?hy6_22⟩) SZ.out SZ.out ?rest6_22
          case hy6_22 => intro x hx; have e0 := hx.1; have e1 := hx.2; clear hx; go_simp; try with_reducible rfl
          (try go_simp)
          refine Hr.Walk.take (i := 23) (v := ?v6_23) (fun x => x.cell? ⟨wo.heap.size, 0, Option.none⟩ = some (.int .i64 X) ∧ x.cell? ⟨wo.heap.size, 1, Option.none⟩ = some (.int .i64 (a : Int))) (fun _ => True) rfl (by kernel_rfl) (by kernel_rfl) (by kernel_rfl) (fun _ _ _ h => h) (fun _ _ _ _ _ _ => trivial) (fun _ _ _ h => h) (fun _ _ h => h) trivial (Or.inl ⟨by rfl, ?hy6_23⟩) SZ.out SZ.out ?rest6_23
          case hy6_23 => intro x hx; have e0 := hx.1; have e1 := hx.2; clear hx; go_simp; try with_reducible rfl
          (try go_simp)
          refine Hr.Walk.one (i := 24) (by kernel_rfl) rfl (fun K hK => ?_)
          go_simp
          refine hK.out _ _ SZ.out ?_
          clear hK K
          refine Hr.Walk.one (i := 25) (by kernel_rfl) rfl (fun K hK => ?_)
          go_simp
          refine hK.out _ _ SZ.out ?_
          clear hK K
          refine Hr.Walk.one (i := 26) (by kernel_rfl) rfl (fun K hK => ?_)
          go_simp
          refine hK.out _ _ SZ.out ?_
          clear hK K
          refine Hr.Walk.one (i := 27) (by kernel_rfl) rfl (fun K hK => ?_)
          go_simp
          refine hK.out _ _ SZ.out ?_
          clear hK K
          refine Hr.Walk.done (by kernel_rfl) ?_ _
          have SY : Hid (w5.drew.drew.cell? ⟨wo.heap.size, 0, Option.none⟩ = some (.int .i64 X) ∧ w5.drew.drew.cell? ⟨wo.heap.size, 1, Option.none⟩ = some (.int .i64 (a : Int))) := Lib.hid ⟨d0, d1⟩
          have SX : Hid ((w5.drew.drew.setCell ⟨w.heap.size, a * 107 + c, Option.none⟩ (.bool true)).cell? ⟨wo.heap.size, 0, Option.none⟩ = some (.int .i64 X) ∧ (w5.drew.drew.setCell ⟨w.heap.size, a * 107 + c, Option.none⟩ (.bool true)).cell? ⟨wo.heap.size, 1, Option.none⟩ = some (.int .i64 (a : Int))) := Lib.hid ⟨(World.cell?_setCell_other _ _ _ _ (fun k => by injection k with k _ _; exact HNE.out k)).trans d0, (World.cell?_setCell_other _ _ _ _ (fun k => by injection k with k _ _; exact HNE.out k)).trans d1⟩
          go_upto_region 9 with fail
          refine Hr.Walk.region (R := fun _ x => x.cell? ⟨wo.heap.size, 0, Option.none⟩ = some (.int .i64 X) ∧ x.cell? ⟨wo.heap.size, 1, Option.none⟩ = some (.int .i64 (a : Int))) (by kernel_rfl) ?_
          refine Hr.Walk.take (i := 0) (v := ?v7_0) (fun x => x.cell? ⟨wo.heap.size, 0, Option.none⟩ = some (.int .i64 X) ∧ x.cell? ⟨wo.heap.size, 1, Option.none⟩ = some (.int .i64 (a : Int))) (fun _ => True) rfl (by kernel_rfl) (by kernel_rfl) (by kernel_rfl) (fun _ _ _ h => h) (fun _ _ _ _ _ _ => trivial) (fun _ _ _ h => h) (fun _ _ h => h) trivial (Or.inl ⟨by rfl, ?hy7_0⟩) SY.out SY.out ?rest7_0
          case hy7_0 => intro x hx; have e0 := hx.1; have e1 := hx.2; clear hx; go_simp; try with_reducible rfl
          (try go_simp)
          refine Hr.Walk.take (i := 1) (v := ?v7_1) (fun x => x.cell? ⟨wo.heap.size, 0, Option.none⟩ = some (.int .i64 X) ∧ x.cell? ⟨wo.heap.size, 1, Option.none⟩ = some (.int .i64 (a : Int))) (fun _ => True) rfl (by kernel_rfl) (by kernel_rfl) (by kernel_rfl) (fun _ _ _ h => h) (fun _ _ _ _ _ _ => trivial) (fun _ _ _ h => h) (fun _ _ h => h) trivial (Or.inl ⟨by rfl, ?hy7_1⟩) SY.out SY.out ?rest7_1
          case hy7_1 => intro x hx; have e0 := hx.1; have e1 := hx.2; clear hx; go_simp; try with_reducible rfl
          (try go_simp)
          refine Hr.Walk.take (i := 2) (v := ?v7_2) (fun x => x.cell? ⟨wo.heap.size, 0, Option.none⟩ = some (.int .i64 X) ∧ x.cell? ⟨wo.heap.size, 1, Option.none⟩ = some (.int .i64 (a : Int))) (fun _ => True) rfl (by kernel_rfl) (by kernel_rfl) (by kernel_rfl) (fun _ _ _ h => h) (fun _ _ _ _ _ _ => trivial) (fun _ _ _ h => h) (fun _ _ h => h) trivial (Or.inl ⟨by rfl, ?hy7_2⟩) SY.out SY.out ?rest7_2
          case hy7_2 => intro x hx; have e0 := hx.1; have e1 := hx.2; clear hx; go_simp; try with_reducible rfl
          (try go_simp)
          refine Hr.Walk.take (i := 3) (v := ?v7_3) (fun x => x.cell? ⟨wo.heap.size, 0, Option.none⟩ = some (.int .i64 X) ∧ x.cell? ⟨wo.heap.size, 1, Option.none⟩ = some (.int .i64 (a : Int))) (fun _ => True) rfl (by kernel_rfl) (by kernel_rfl) (by kernel_rfl) (fun _ _ _ h => h) (fun _ _ _ _ _ _ => trivial) (fun _ _ _ h => h) (fun _ _ h => h) trivial (Or.inl ⟨by rfl, ?hy7_3⟩) SY.out SY.out ?rest7_3
          case hy7_3 => intro x hx; have e0 := hx.1; have e1 := hx.2; clear hx; go_simp; try with_reducible rfl
          (try go_simp)
          refine Hr.Walk.take (i := 4) (v := ?v7_4) (fun x => x.cell? ⟨wo.heap.size, 0, Option.none⟩ = some (.int .i64 X) ∧ x.cell? ⟨wo.heap.size, 1, Option.none⟩ = some (.int .i64 (a : Int))) (fun _ => True) rfl (by kernel_rfl) (by kernel_rfl) (by kernel_rfl) (fun _ _ _ h => h) (fun _ _ _ _ _ _ => trivial) (fun _ _ _ h => h) (fun _ _ h => h) trivial (Or.inl ⟨by rfl, ?hy7_4⟩) SY.out SY.out ?rest7_4
          case hy7_4 => intro x hx; have e0 := hx.1; have e1 := hx.2; clear hx; go_simp; try with_reducible rfl
          (try go_simp)
          refine Hr.Walk.one (i := 5) (by kernel_rfl) rfl (fun K hK => ?_)
          go_simp
          refine hK.out _ _ SY.out ?_
          clear hK K
          refine Hr.Walk.one (i := 6) (by kernel_rfl) rfl (fun K hK => ?_)
          go_simp
          refine hK.out _ _ SY.out ?_
          clear hK K
          refine Hr.Walk.one (i := 7) (by kernel_rfl) rfl (fun K hK => ?_)
          go_simp
          refine hK.out _ _ SX.out ?_
          clear hK K
          refine Hr.Walk.done (by kernel_rfl) ?_ _
          go_wp2
          go_roundw
          case rel => exact ⟨k + 1, by omega, by go_num, HT2, S2, B6⟩
          case measure => simp [intOf]; omega
      · have hkn : k = n := by omega
        subst hkn
        have hF : r = true := by
          have := HT.out
          rw [List.take_of_length_le (by rw [HN.out]; exact Nat.le_refl _)] at this
          rw [← hr.out]; exact this
        subst hF
        go_wp2
        go_ret
        exact ⟨rfl, B.out⟩
end Rck
end Go.Proofs.YtfdamkiocefgmaaDoor
