/-
  The reference's Time. (Written by gen/gen_vx.py.)
-/
import Derived.Test.YtffbkmokjcgflaaDoorVxR
import Derived.Test.YtffbkmokjcgflaaDoorValM
namespace Go.Proofs.YtffbkmokjcgflaaDoor
open Go.RowKit
namespace Val
open Sol Civ Wk Cel
set_option maxHeartbeats 6400000 in
set_option maxRecDepth 100000 in
theorem rtime_to (t : Int) (u : Bool) (T : List UInt8) (w : World) (t1 : -9223372036854775808 ≤ t) (t2 : t ≤ 9223372036854775807) (he : tmE t = 0) (h : Hid (tmS t u = T)) :
    Calls Tryd.prog 16 #[.int .i64 t, .bool u] w fun e w' => e = .returned (.string ⟨T.toArray⟩) ∧ Below w.heap.size w w' := by
  have HH := h.out
  clear h
  have s0 := Int.emod_nonneg t (show (86400 : Int) ≠ 0 by decide)
  have s1 := Int.emod_lt_of_pos t (show (0 : Int) < 86400 by decide)
  have CS := fun w => Civ.rdiv_any t 86400 w (by decide) (by decide) t1 t2
  rw [tmS, if_pos he, tmL] at HH
  have hE : dnE (t / 86400) = 0 ∧ 1 ≤ dY (t / 86400) ∧ dY (t / 86400) ≤ 9999 := by
    rw [tmE] at he
    split at he
    · assumption
    · exact absurd he (by decide)
  obtain ⟨m1, m2, e1, e2⟩ := dd_in hE.1
  obtain ⟨_, y1, y2⟩ := hE
  have HYR := Lib.hid (fun (Y M D : Int) (hY : dY (t / 86400) = Y ∧ dM (t / 86400) = M ∧ dD (t / 86400) = D) w => ryears_to t Y M D true w t1 t2 hY (decide_eq_true he))
  clear t1 t2 he
  obtain ⟨Y, hY⟩ : ∃ s, dY (t / 86400) = s := ⟨_, rfl⟩
  obtain ⟨M, hM⟩ : ∃ s, dM (t / 86400) = s := ⟨_, rfl⟩
  obtain ⟨D, hD⟩ : ∃ s, dD (t / 86400) = s := ⟨_, rfl⟩
  have YR := Lib.hid (HYR.out Y M D ⟨hY, hM, hD⟩)
  rw [hY, hM, hD] at HH
  rw [hY] at y1 y2
  rw [hM] at m1 m2
  rw [hD] at e1 e2
  clear HYR hY hM hD
  obtain ⟨s, hs⟩ : ∃ s, t % 86400 = s := ⟨_, rfl⟩
  rw [hs] at s0 s1 HH
  simp only [hs] at CS
  have CS := Lib.hid CS
  clear hs
  obtain ⟨T1, q1⟩ : ∃ T, textL Y 4 = T := ⟨_, rfl⟩
  have l1 : T1.length = 4 := by rw [← q1]; exact tx_len Y 4 (by omega) (by decide) (by decide) (by omega)
  obtain ⟨T2, q2⟩ : ∃ T, textL M 2 = T := ⟨_, rfl⟩
  have l2 : T2.length = 2 := by rw [← q2]; exact tx_len M 2 (by omega) (by decide) (by decide) (by omega)
  obtain ⟨T3, q3⟩ : ∃ T, textL D 2 = T := ⟨_, rfl⟩
  have l3 : T3.length = 2 := by rw [← q3]; exact tx_len D 2 (by omega) (by decide) (by decide) (by omega)
  obtain ⟨T4, q4⟩ : ∃ T, textL (s / 3600) 2 = T := ⟨_, rfl⟩
  have l4 : T4.length = 2 := by rw [← q4]; exact tx_len (s / 3600) 2 (by omega) (by decide) (by decide) (by omega)
  obtain ⟨T5, q5⟩ : ∃ T, textL (s / 60 % 60) 2 = T := ⟨_, rfl⟩
  have l5 : T5.length = 2 := by rw [← q5]; exact tx_len (s / 60 % 60) 2 (by omega) (by decide) (by decide) (by omega)
  obtain ⟨T6, q6⟩ : ∃ T, textL (s % 60) 2 = T := ⟨_, rfl⟩
  have l6 : T6.length = 2 := by rw [← q6]; exact tx_len (s % 60) 2 (by omega) (by decide) (by decide) (by omega)
  have HC : T = T1 ++ T2 ++ T3 ++ [84] ++ T4 ++ T5 ++ T6 ++ (if u = true then [90] else []) := by
    rw [tmT, q1, q2, q3, q4, q5, q6] at HH; exact HH.symm
  have Q1 := Lib.hid q1
  have Q2 := Lib.hid q2
  have Q3 := Lib.hid q3
  have Q4 := Lib.hid q4
  have Q5 := Lib.hid q5
  have Q6 := Lib.hid q6
  have HC := Lib.hid HC
  clear HH q1 q2 q3 q4 q5 q6
  go_enter Tryd.func16, Tryd.ntmps16
  go_wp2_with fail
  refine (YR.out _).mono ?_
  rintro e wy ⟨rfl, k1⟩
  have B1 := Lib.hid k1
  have Dd := Lib.hid (Cs.new wy [.int .i64 Y, .int .i64 M, .int .i64 D] 42)
  have Bd := Lib.hid (k1.alloc k1.size (Obj.cells #[.int .i64 Y, .int .i64 M, .int .i64 D] 42))
  clear k1
  go_wp2_with fail
  refine (CS.out _).mono ?_
  rintro e w1 ⟨rfl, q, rfl⟩
  go_upto_region 3 with fail
  have k0 := (Dd.out.2 0 _ rfl).1
  have k1 := (Dd.out.2 1 _ rfl).1
  have k2 := (Dd.out.2 2 _ rfl).1
  have k0 : ((wy.alloc (Obj.cells #[.int .i64 Y, .int .i64 M, .int .i64 D] 42)).drewN q).cell? ⟨wy.heap.size, 0, none⟩ = some (.int .i64 Y) := k0
  have k1 : ((wy.alloc (Obj.cells #[.int .i64 Y, .int .i64 M, .int .i64 D] 42)).drewN q).cell? ⟨wy.heap.size, 1, none⟩ = some (.int .i64 M) := k1
  have k2 : ((wy.alloc (Obj.cells #[.int .i64 Y, .int .i64 M, .int .i64 D] 42)).drewN q).cell? ⟨wy.heap.size, 2, none⟩ = some (.int .i64 D) := k2
  have hb := below_drewN Bd.out q
  generalize ((wy.alloc (Obj.cells #[.int .i64 Y, .int .i64 M, .int .i64 D] 42)).drewN q) = W at k0 k1 k2 hb ⊢
  have c0 := cell_regrown k0
  have c1 := cell_regrown k1
  have c2 := cell_regrown k2
  have d1 := Lib.hid (fun dd os => Calls.regrown_of (Clk.rtext_to Y 4 T1 (Sort.grow (redrawn W dd) os) (by omega) (by omega) (by omega) (by omega) Q1))
  have d2 := Lib.hid (fun dd os => Calls.regrown_of (Clk.rtext_to M 2 T2 (Sort.grow (redrawn W dd) os) (by omega) (by omega) (by omega) (by omega) Q2))
  have d3 := Lib.hid (fun dd os => Calls.regrown_of (Clk.rtext_to D 2 T3 (Sort.grow (redrawn W dd) os) (by omega) (by omega) (by omega) (by omega) Q3))
  have d4 := Lib.hid (fun dd os => Calls.regrown_of (Clk.rtext_to (s / 3600) 2 T4 (Sort.grow (redrawn W dd) os) (by omega) (by omega) (by omega) (by omega) Q4))
  have d5 := Lib.hid (fun dd os => Calls.regrown_of (Clk.rtext_to (s / 60 % 60) 2 T5 (Sort.grow (redrawn W dd) os) (by omega) (by omega) (by omega) (by omega) Q5))
  have d6 := Lib.hid (fun dd os => Calls.regrown_of (Clk.rtext_to (s % 60) 2 T6 (Sort.grow (redrawn W dd) os) (by omega) (by omega) (by omega) (by omega) Q6))
  have r1 : IntKind.i64.wrap (s.tdiv 3600) = s / 3600 := IntWalk.i64_quo s 3600 (by omega)
  have r2 : IntKind.i64.wrap (s.tdiv 60) = s / 60 := IntWalk.i64_quo s 60 (by omega)
  have r3 : IntKind.i64.wrap ((s / 60).tmod 60) = s / 60 % 60 := by rw [Int.tmod_eq_emod_of_nonneg (by omega)]; exact IntWalk.i64_in _ (by omega)
  have r4 : IntKind.i64.wrap (s.tmod 60) = s % 60 := by rw [Int.tmod_eq_emod_of_nonneg s0]; exact IntWalk.i64_in _ (by omega)
  have r5 : (s / 60).tmod 60 = s / 60 % 60 := Int.tmod_eq_emod_of_nonneg (by omega)
  have r6 : s.tmod 60 = s % 60 := Int.tmod_eq_emod_of_nonneg s0
  refine wp_region_quiet_below (by kernel_rfl) (by kernel_rfl) ?_
  skip
  repeat (quiet_step (first | with_reducible exact d1.out _ _ | with_reducible exact d2.out _ _ | with_reducible exact d3.out _ _ | with_reducible exact d4.out _ _ | with_reducible exact d5.out _ _ | with_reducible exact d6.out _ _))
  refine wpQuiet_nil ?_
  intro w' hw'
  obtain ⟨⟨dq, osq⟩, rfl⟩ := hw'
  have hz := hb.trans ((below_regrown W dq osq).mono hb.size)
  cases u
  all_goals
    go_wp2
    go_ret
    exact ⟨congrArg (fun x => Ending.returned (Value.string x)) (bytes_eq (by first | (simp; done) | (rw [HC.out]; simp))), hz⟩
end Val
end Go.Proofs.YtffbkmokjcgflaaDoor
