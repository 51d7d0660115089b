/-
  The reference's Years. (Written by gen/gen_vx.py.)
-/
import Derived.Test.YtgaolaafjiiehaaGreatDoorBdFh
import Derived.Test.YtgaolaafjiiehaaGreatDoorBdU
import Derived.Test.YtgaolaafjiiehaaGreatDoorBdS
import Derived.Test.YtgaolaafjiiehaaGreatDoorBdCl
namespace Go.Proofs.YtgaolaafjiiehaaGreatDoor
open Go.RowKit
namespace Val
open Sol Civ Wk Cel
theorem in16_any (n lo hi : Int) (w : World) :
    Calls Tryz.prog 28 #[.int .i64 n, .int .i64 lo, .int .i64 hi] w fun e w' => e = .returned (.bool (decide (lo ≤ n ∧ n ≤ hi))) ∧ w = w' := by
  by_cases h1 : lo ≤ n
  · by_cases h2 : n ≤ hi
    · have H := Lib.hid (decide_eq_true (show lo ≤ n ∧ n ≤ hi from ⟨h1, h2⟩))
      go_enter Tryz.func28, Tryz.ntmps28
      go_wp2
      go_ret
      exact ⟨ret_b H.out.symm, rfl⟩
    · have H := Lib.hid (decide_eq_false (show ¬ (lo ≤ n ∧ n ≤ hi) from fun h => h2 h.2))
      go_enter Tryz.func28, Tryz.ntmps28
      go_wp2
      go_ret
      exact ⟨ret_b (decide_eq_false (by omega)).symm, rfl⟩
  · have H := Lib.hid (decide_eq_false (show ¬ (lo ≤ n ∧ n ≤ hi) from fun h => h1 h.1))
    go_enter Tryz.func28, Tryz.ntmps28
    go_wp2
    go_ret
    exact ⟨ret_b (by rw [decide_eq_false (show ¬ lo ≤ n by omega)]; rfl), rfl⟩
theorem in16_to (n lo hi : Int) (b : Bool) (w : World) (h : Hid (decide (lo ≤ n ∧ n ≤ hi) = b)) :
    Calls Tryz.prog 28 #[.int .i64 n, .int .i64 lo, .int .i64 hi] w fun e w' => e = .returned (.bool b) ∧ w = w' :=
  (in16_any n lo hi w).mono fun _ _ ⟨he, hw⟩ => ⟨by rw [he, h.out], hw⟩
set_option maxHeartbeats 12800000 in
set_option maxRecDepth 100000 in
theorem ryears_to (t Y M D : Int) (b : Bool) (w : World) (t1 : -9223372036854775808 ≤ t) (t2 : t ≤ 9223372036854775807) (hY : dY (t / 86400) = Y ∧ dM (t / 86400) = M ∧ dD (t / 86400) = D) (hb : decide (tmE t = 0) = b) :
    Calls Tryz.prog 13 #[.int .i64 t] w fun e w' => e = .returned (.tuple #[.agg #[.int .i64 Y, .int .i64 M, .int .i64 D], .bool b]) ∧ Below w.heap.size w w' := by
  have C0 := Lib.hid (Cs.new w [.int .i64 0, .int .i64 0, .int .i64 0] 40)
  have BB0 := Lib.hid ((Below.refl w.heap.size w).alloc (Nat.le_refl _) (Obj.cells #[.int .i64 0, .int .i64 0, .int .i64 0] 40))
  have CS := fun w => Civ.rdiv_any t 86400 w (by decide) (by decide) t1 t2
  have n1 : -9223372036854775808 ≤ t / 86400 := by omega
  have n2 : t / 86400 ≤ 9223372036854775807 := by omega
  rw [tmE] at hb
  obtain ⟨n, hn⟩ : ∃ s, t / 86400 = s := ⟨_, rfl⟩
  rw [hn] at hb n1 n2 hY
  simp only [hn] at CS
  obtain ⟨hY, hM, hD⟩ := hY
  rw [hY] at hb
  have CSH := Lib.hid CS
  clear hn CS
  obtain ⟨b0, hb0⟩ : ∃ b0, decide (-719528 ≤ n ∧ n ≤ 2933262) = b0 := ⟨_, rfl⟩
  have HB0 := Lib.hid hb0
  cases b0 with
  | false =>
    have hr : ¬ (-719528 ≤ n ∧ n ≤ 2933262) := of_decide_eq_false hb0
    obtain rfl : 0 = Y := by rw [← hY, dY, if_neg hr]
    obtain rfl : 0 = M := by rw [← hM, dM, if_neg hr]
    obtain rfl : 0 = D := by rw [← hD, dD, if_neg hr]
    obtain rfl : false = b := by rw [← hb]; exact (decide_eq_false (fun e => by
      rw [if_neg (by rintro ⟨_, e, _⟩; omega)] at e
      exact absurd e (by decide))).symm
    clear hb hY hM hD hb0 hr
    go_enter Tryz.func13, Tryz.ntmps13
    go_wp2_with fail
    refine (CSH.out _).mono ?_
    rintro e w1 ⟨rfl, q, rfl⟩
    go_wp2_with fail
    refine (Civ.least_any _).mono ?_
    rintro e w2 ⟨rfl, k1⟩
    have C2 := Lib.hid ((C0.out.below (below_drewN (Below.refl _ _) q)).below k1)
    have B2 := Lib.hid (bstep (below_drewN BB0.out q) k1)
    clear k1
    go_wp2_with fail
    refine (Civ.most_any _).mono ?_
    rintro e w3 ⟨rfl, k1⟩
    have C3 := Lib.hid (C2.out.below k1)
    have B3 := Lib.hid (bstep B2.out k1)
    clear k1
    go_wp2_with fail
    refine (in16_to n (-719528) 2933262 false _ HB0).mono ?_
    rintro e w4 ⟨rfl, rfl⟩
    have g0 := C3.out.1
    have a0 := (C3.out.2 0 _ rfl).1
    have e0 := (C3.out.2 0 _ rfl).2
    have a1 := (C3.out.2 1 _ rfl).1
    have e1 := (C3.out.2 1 _ rfl).2
    have a2 := (C3.out.2 2 _ rfl).1
    have e2 := (C3.out.2 2 _ rfl).2
    go_wp2
    refine bodyPost_ret (v := .tuple #[.agg #[.int .i64 0, .int .i64 0, .int .i64 0], .bool false]) (by simp (maxDischargeDepth := 9) [results, Tryz.results13, go_sem, a0, a1, a2]) rfl ?_
    exact ⟨rfl, by repeat (first | with_reducible exact B3.out | with_reducible refine Below.setCell ?_ (by exact Nat.le_refl _) _)⟩
  | true =>
    have hr : -719528 ≤ n ∧ n ≤ 2933262 := of_decide_eq_true hb0
    have CD := fun w => Civ.rdate_any n w hr.1 hr.2
    simp only [hY, hM, hD] at CD
    have CDH := Lib.hid CD
    obtain ⟨b1, hb1⟩ : ∃ b1, decide (1 ≤ Y ∧ Y ≤ 9999) = b1 := ⟨_, rfl⟩
    have HB1 := Lib.hid hb1
    obtain rfl : b1 = b := by
      rw [← hb, ← hb1, dnE, if_pos hr]
      by_cases h : 1 ≤ Y ∧ Y ≤ 9999
      · rw [decide_eq_true h, if_pos ⟨rfl, h⟩]; rfl
      · rw [decide_eq_false h, if_neg (fun e => h e.2)]; rfl
    clear hb hY hM hD hb0 hr CD hb1
    go_enter Tryz.func13, Tryz.ntmps13
    go_wp2_with fail
    refine (CSH.out _).mono ?_
    rintro e w1 ⟨rfl, q, rfl⟩
    go_wp2_with fail
    refine (Civ.least_any _).mono ?_
    rintro e w2 ⟨rfl, k1⟩
    have C2 := Lib.hid ((C0.out.below (below_drewN (Below.refl _ _) q)).below k1)
    have B2 := Lib.hid (bstep (below_drewN BB0.out q) k1)
    clear k1
    go_wp2_with fail
    refine (Civ.most_any _).mono ?_
    rintro e w3 ⟨rfl, k1⟩
    have C3 := Lib.hid (C2.out.below k1)
    have B3 := Lib.hid (bstep B2.out k1)
    clear k1 C0 C2 B2 BB0
    go_wp2_with fail
    refine (in16_to n (-719528) 2933262 true _ HB0).mono ?_
    rintro e w4 ⟨rfl, rfl⟩
    go_wp2_with fail
    refine (CDH.out _).mono ?_
    rintro e wd ⟨rfl, k1⟩
    have Cd := Lib.hid ((C3.out.below k1).alloc (Obj.cells #[.int .i64 Y, .int .i64 M, .int .i64 D] 40))
    have Dd := Lib.hid (Cs.new wd [.int .i64 Y, .int .i64 M, .int .i64 D] 40)
    have Bd := Lib.hid ((bstep B3.out k1).alloc (bstep B3.out k1).size (Obj.cells #[.int .i64 Y, .int .i64 M, .int .i64 D] 40))
    clear k1 C3 B3
    have SZ : Hid ((wd.alloc (Obj.cells #[.int .i64 Y, .int .i64 M, .int .i64 D] 40)).drew.cell? ⟨wd.heap.size, 0, none⟩ = some (.int .i64 Y) ∧ (wd.alloc (Obj.cells #[.int .i64 Y, .int .i64 M, .int .i64 D] 40)).drew.cell? ⟨wd.heap.size, 1, none⟩ = some (.int .i64 M) ∧ (wd.alloc (Obj.cells #[.int .i64 Y, .int .i64 M, .int .i64 D] 40)).drew.cell? ⟨wd.heap.size, 2, none⟩ = some (.int .i64 D)) := Lib.hid ⟨(Dd.out.2 0 _ rfl).1, (Dd.out.2 1 _ rfl).1, (Dd.out.2 2 _ rfl).1⟩
    have g0 := Cd.out.1
    have a0 := (Cd.out.2 0 _ rfl).1
    have e0 := (Cd.out.2 0 _ rfl).2
    have a1 := (Cd.out.2 1 _ rfl).1
    have e1 := (Cd.out.2 1 _ rfl).2
    have a2 := (Cd.out.2 2 _ rfl).1
    have e2 := (Cd.out.2 2 _ rfl).2
    have z0 := SZ.out.1
    have z1 := SZ.out.2.1
    have z2 := SZ.out.2.2
    go_upto_region 5 with fail
    refine Hr.Walk.region (R := fun up x => up.getD 4 false = false → x.cell? ⟨wd.heap.size, 0, none⟩ = some (.int .i64 Y) ∧ x.cell? ⟨wd.heap.size, 1, none⟩ = some (.int .i64 M) ∧ x.cell? ⟨wd.heap.size, 2, none⟩ = some (.int .i64 D)) (by kernel_rfl) ?_
    refine Hr.Walk.take (i := 0) (v := ?v0) (fun x => x.cell? ⟨wd.heap.size, 0, none⟩ = some (.int .i64 Y) ∧ x.cell? ⟨wd.heap.size, 1, none⟩ = some (.int .i64 M) ∧ x.cell? ⟨wd.heap.size, 2, none⟩ = some (.int .i64 D)) (fun up => up.getD 4 false = false) rfl (by kernel_rfl) (by kernel_rfl) (by kernel_rfl) (fun _ _ _ h => h) (Hr.keepI (s := 4) rfl (by kernel_rfl)) (fun _ _ hu hr => hr hu) (fun up y => Hr.keepR (s := 4) (i := 0) (S := fun x => x.cell? ⟨wd.heap.size, 0, none⟩ = some (.int .i64 Y) ∧ x.cell? ⟨wd.heap.size, 1, none⟩ = some (.int .i64 M) ∧ x.cell? ⟨wd.heap.size, 2, none⟩ = some (.int .i64 D)) (by decide) up y) rfl (Or.inl ⟨by rfl, ?hy0⟩) SZ.out (fun _ => SZ.out) ?rest0
    case hy0 => intro x hx; have f0 := hx.1; have f1 := hx.2.1; have f2 := hx.2.2; clear hx; go_simp; try with_reducible rfl
    refine Hr.Walk.one (i := 1) (by kernel_rfl) rfl (fun K hK => ?_)
    go_simp
    refine hK.out _ _ (fun _ => SZ.out) ?_
    clear hK K
    refine Hr.Walk.one (i := 2) (by kernel_rfl) rfl (fun K hK => ?_)
    go_simp
    refine hK.out _ _ (fun _ => SZ.out) ?_
    clear hK K
    refine Hr.Walk.one (i := 3) (by kernel_rfl) rfl (fun K hK => ?_)
    go_simp
    go_wp2_with ((go_at_call 28; (with_reducible refine (in16_to Y 1 9999 b1 _ HB1).mono ?_); rintro e w' ⟨rfl, rfl⟩))
    refine hK.out _ _ (fun _ => SZ.out) ?_
    clear hK K
    refine Hr.Walk.one (i := 4) (by kernel_rfl) rfl (fun K hK => ?_)
    go_simp
    refine hK.out _ _ (fun h => by cases h) ?_
    clear hK K
    refine Hr.Walk.one (i := 5) (by kernel_rfl) rfl (fun K hK => ?_)
    go_simp
    refine hK.out _ _ (fun h => by cases h) ?_
    clear hK K
    refine Hr.Walk.done (by kernel_rfl) ?_ _
    go_wp2
    refine bodyPost_ret (v := .tuple #[.agg #[.int .i64 Y, .int .i64 M, .int .i64 D], .bool b1]) (by simp (maxDischargeDepth := 9) [results, Tryz.results13, go_sem, a0, a1, a2]) rfl ?_
    exact ⟨rfl, by repeat (first | with_reducible exact Bd.out | with_reducible refine Below.drew ?_ | with_reducible refine Below.setCell ?_ (by exact Nat.le_refl _) _)⟩
end Val
end Go.Proofs.YtgaolaafjiiehaaGreatDoor
