/-
  Several texts in one (ZonG, ZonH, ZonI).
-/
import Derived.Test.YthefgagmjamdkaaGreatDoorBdL
/-
  Contracts of package zone: parseUntil. (Written by gen/gen_zong.py.)
-/
namespace Go.Proofs.YthefgagmjamdkaaGreatDoor
open Go.RowKit
namespace Zon
open Sol Clk Cel Rul
set_option maxHeartbeats 6400000 in
set_option maxRecDepth 100000 in
theorem pun0 (g bk off cp : Nat) (v0 v1 v2 v3 v4 v5 v6 o7 o8 o9 o10 o11 o12 : Value) (w : World) (hC : Cs g w [v0, v1, v2, v3, v4, v5, v6, o7, o8, o9, o10, o11, o12]) :
    Calls Tryz.prog 52 #[.pointer (some ⟨g, 0, none⟩), .slice (some ⟨bk, off, none⟩) 4 cp] w fun e w' => e = .returned (.int .i64 0) ∧ Cs g w' [v0, v1, v2, v3, v4, v5, v6, .int .i64 1, .int .i64 1, .int .i64 0, .int .i64 1, .int .i64 0, .int .i64 1] ∧ Below g w w' := by
  have z7 := (hC.2 7 _ rfl).1
  have y7 := (hC.2 7 _ rfl).2
  have z8 := (hC.2 8 _ rfl).1
  have y8 := (hC.2 8 _ rfl).2
  have z9 := (hC.2 9 _ rfl).1
  have y9 := (hC.2 9 _ rfl).2
  have z10 := (hC.2 10 _ rfl).1
  have y10 := (hC.2 10 _ rfl).2
  have z11 := (hC.2 11 _ rfl).1
  have y11 := (hC.2 11 _ rfl).2
  have z12 := (hC.2 12 _ rfl).1
  have y12 := (hC.2 12 _ rfl).2
  have d0 := hC.set 7 (by simp) (.int .i64 1)
  simp only [List.set_cons_succ, List.set_cons_zero] at d0
  have d1 := d0.set 8 (by simp) (.int .i64 1)
  simp only [List.set_cons_succ, List.set_cons_zero] at d1
  have d2 := d1.set 9 (by simp) (.int .i64 0)
  simp only [List.set_cons_succ, List.set_cons_zero] at d2
  have d3 := d2.set 10 (by simp) (.int .i64 1)
  simp only [List.set_cons_succ, List.set_cons_zero] at d3
  have d4 := d3.set 11 (by simp) (.int .i64 0)
  simp only [List.set_cons_succ, List.set_cons_zero] at d4
  have d5 := d4.set 12 (by simp) (.int .i64 1)
  simp only [List.set_cons_succ, List.set_cons_zero] at d5
  have DD := Lib.hid d5
  clear d0 d1 d2 d3 d4 d5
  clear hC
  go_enter Tryz.func52, Tryz.ntmps52
  go_wp2
  go_ret
  exact ⟨rfl, DD.out, by repeat (first | with_reducible exact Below.refl _ _ | with_reducible refine Below.setCell ?_ (by exact Nat.le_refl _) _)⟩
set_option maxHeartbeats 6400000 in
set_option maxRecDepth 100000 in
theorem pun1 (g bk off cp : Nat) (f4 : List UInt8) (m c : Int) (v0 v1 v2 v3 v4 v5 v6 o7 o8 o9 o10 o11 o12 : Value) (w : World) (hC : Cs g w [v0, v1, v2, v3, v4, v5, v6, o7, o8, o9, o10, o11, o12]) (hg : bk < g) (q4 : w.cell? ⟨bk, off + 4, none⟩ = some (.string ⟨f4.toArray⟩)) (l4 : f4.length ≤ 1000) (h : Hid (Wrd.wdP 2 f4 = (m, c))) :
    Calls Tryz.prog 52 #[.pointer (some ⟨g, 0, none⟩), .slice (some ⟨bk, off, none⟩) 5 cp] w fun e w' => e = .returned (.int .i64 c) ∧ Cs g w' [v0, v1, v2, v3, v4, v5, v6, .int .i64 m, .int .i64 1, .int .i64 0, .int .i64 1, .int .i64 0, .int .i64 1] ∧ Below g w w' := by
  have Z4 : Hid ((⟨f4.toArray⟩ : ByteArray).size ≤ 1000) := Lib.hid l4
  have n1 : g ≠ bk := by omega
  have n2 : bk ≠ g := by omega
  have z7 := (hC.2 7 _ rfl).1
  have y7 := (hC.2 7 _ rfl).2
  have z8 := (hC.2 8 _ rfl).1
  have y8 := (hC.2 8 _ rfl).2
  have z9 := (hC.2 9 _ rfl).1
  have y9 := (hC.2 9 _ rfl).2
  have z10 := (hC.2 10 _ rfl).1
  have y10 := (hC.2 10 _ rfl).2
  have z11 := (hC.2 11 _ rfl).1
  have y11 := (hC.2 11 _ rfl).2
  have z12 := (hC.2 12 _ rfl).1
  have y12 := (hC.2 12 _ rfl).2
  have d0 := hC.set 7 (by simp) (.int .i64 1)
  simp only [List.set_cons_succ, List.set_cons_zero] at d0
  have d1 := d0.set 8 (by simp) (.int .i64 1)
  simp only [List.set_cons_succ, List.set_cons_zero] at d1
  have d2 := d1.set 9 (by simp) (.int .i64 0)
  simp only [List.set_cons_succ, List.set_cons_zero] at d2
  have d3 := d2.set 10 (by simp) (.int .i64 1)
  simp only [List.set_cons_succ, List.set_cons_zero] at d3
  have d4 := d3.set 11 (by simp) (.int .i64 0)
  simp only [List.set_cons_succ, List.set_cons_zero] at d4
  have d5 := d4.set 12 (by simp) (.int .i64 1)
  simp only [List.set_cons_succ, List.set_cons_zero] at d5
  have DD := Lib.hid d5
  clear d0 d1 d2 d3 d4 d5
  have GZ := Lib.hid hC.1
  clear hC l4
  go_enter Tryz.func52, Tryz.ntmps52
  go_wp2_with fail
  refine (Wrd.mon_to _ f4 m c _ Z4.out (Lib.hid rfl) h).mono ?_
  rintro e w1 ⟨rfl, b1⟩
  have C1 := Lib.hid (DD.out.below b1)
  have B1 := Lib.hid ((show Below g w _ from (by repeat (first | with_reducible exact Below.refl _ _ | with_reducible refine Below.setCell ?_ (by exact Nat.le_refl _) _))).trans (b1.mono (Nat.le_of_lt DD.out.1)))
  clear b1 DD z7 z8 z9 z10 z11 z12 y7 y8 y9 y10 y11 y12 q4
  have z7 := (C1.out.2 7 _ rfl).1
  have y7 := (C1.out.2 7 _ rfl).2
  by_cases e0 : c = 0
  · subst e0
    have e0 := C1.out.set 7 (by simp) (.int .i64 m)
    simp only [List.set_cons_succ, List.set_cons_zero] at e0
    have EE := Lib.hid e0
    clear e0
    go_wp2
    go_ret
    exact ⟨rfl, EE.out, by repeat (first | with_reducible exact B1.out | with_reducible refine Below.setCell ?_ (by exact Nat.le_refl _) _)⟩
  · have x1 : (c == 0) = false := beq_eq_false_iff_ne.2 e0
    have x2 : (c != 0) = true := bne_iff_ne.2 e0
    have e0 := C1.out.set 7 (by simp) (.int .i64 m)
    simp only [List.set_cons_succ, List.set_cons_zero] at e0
    have EE := Lib.hid e0
    clear e0
    go_wp2
    go_ret
    exact ⟨rfl, EE.out, by repeat (first | with_reducible exact B1.out | with_reducible refine Below.setCell ?_ (by exact Nat.le_refl _) _)⟩
end Zon
end Go.Proofs.YthefgagmjamdkaaGreatDoor
/-
  Contracts of package zone: parseUntil of two and three fields. (Written by gen/gen_zonh.py.)
-/
namespace Go.Proofs.YthefgagmjamdkaaGreatDoor
open Go.RowKit
namespace Zon
open Sol Clk Cel Rul
theorem maxl_g {g : Nat} {w W : World} (h : Wrd.MaxL w) (hml : 0 < g) (hb : Below g w W) : Wrd.MaxL W := by
  obtain ⟨m, h1, h2⟩ := h
  exact ⟨m, Nat.lt_of_lt_of_le h1 hb.size, (hb.cell (p := ⟨0, 0, none⟩) hml).trans h2⟩
set_option maxHeartbeats 12800000 in
set_option maxRecDepth 100000 in
theorem pun2m (g bk off cp : Nat) (f4 : List UInt8) (m c : Int) (v0 v1 v2 v3 v4 v5 v6 o7 o8 o9 o10 o11 o12 : Value) (w : World) (hC : Cs g w [v0, v1, v2, v3, v4, v5, v6, o7, o8, o9, o10, o11, o12]) (hg : bk < g) (q4 : w.cell? ⟨bk, off + 4, none⟩ = some (.string ⟨f4.toArray⟩)) (l4 : f4.length ≤ 1000) (h4 : Hid (Wrd.wdP 2 f4 = (m, c))) (e0 : c ≠ 0) :
    Calls Tryz.prog 52 #[.pointer (some ⟨g, 0, none⟩), .slice (some ⟨bk, off, none⟩) 6 cp] w fun e w' => e = .returned (.int .i64 c) ∧ Cs g w' [v0, v1, v2, v3, v4, v5, v6, .int .i64 m, .int .i64 1, .int .i64 0, .int .i64 1, .int .i64 0, .int .i64 1] ∧ Below g w w' := by
  have Z4 : Hid ((⟨f4.toArray⟩ : ByteArray).size ≤ 1000) := Lib.hid l4
  have Q4 := Lib.hid q4
  have n1 : g ≠ bk := by omega
  have n2 : bk ≠ g := by omega
  have z7 := (hC.2 7 _ rfl).1
  have y7 := (hC.2 7 _ rfl).2
  have z8 := (hC.2 8 _ rfl).1
  have y8 := (hC.2 8 _ rfl).2
  have z9 := (hC.2 9 _ rfl).1
  have y9 := (hC.2 9 _ rfl).2
  have z10 := (hC.2 10 _ rfl).1
  have y10 := (hC.2 10 _ rfl).2
  have z11 := (hC.2 11 _ rfl).1
  have y11 := (hC.2 11 _ rfl).2
  have z12 := (hC.2 12 _ rfl).1
  have y12 := (hC.2 12 _ rfl).2
  have d0 := hC.set 7 (by simp) (.int .i64 1)
  simp only [List.set_cons_succ, List.set_cons_zero] at d0
  have d1 := d0.set 8 (by simp) (.int .i64 1)
  simp only [List.set_cons_succ, List.set_cons_zero] at d1
  have d2 := d1.set 9 (by simp) (.int .i64 0)
  simp only [List.set_cons_succ, List.set_cons_zero] at d2
  have d3 := d2.set 10 (by simp) (.int .i64 1)
  simp only [List.set_cons_succ, List.set_cons_zero] at d3
  have d4 := d3.set 11 (by simp) (.int .i64 0)
  simp only [List.set_cons_succ, List.set_cons_zero] at d4
  have d5 := d4.set 12 (by simp) (.int .i64 1)
  simp only [List.set_cons_succ, List.set_cons_zero] at d5
  have DD := Lib.hid d5
  clear d0 d1 d2 d3 d4 d5
  clear hC l4 
  go_enter Tryz.func52, Tryz.ntmps52
  go_wp2_with fail
  refine (Wrd.mon_to _ f4 m c _ Z4.out (Lib.hid rfl) h4).mono ?_
  rintro e w1 ⟨rfl, b1⟩
  have C1 := Lib.hid (DD.out.below b1)
  have B1 := Lib.hid ((show Below g w _ from (by repeat (first | with_reducible exact Below.refl _ _ | with_reducible refine Below.setCell ?_ (by exact Nat.le_refl _) _))).trans (b1.mono (Nat.le_of_lt DD.out.1)))
  clear b1 DD z7 z8 z9 z10 z11 z12 y7 y8 y9 y10 y11 y12 q4
  have z7 := (C1.out.2 7 _ rfl).1
  have y7 := (C1.out.2 7 _ rfl).2
  have x1 : (c == 0) = false := beq_eq_false_iff_ne.2 e0
  have x2 : (c != 0) = true := bne_iff_ne.2 e0
  have t0 := C1.out.set 7 (by simp) (.int .i64 m)
  simp only [List.set_cons_succ, List.set_cons_zero] at t0
  have TT := Lib.hid t0
  clear t0
  go_wp2
  go_ret
  exact ⟨rfl, TT.out, by repeat (first | with_reducible exact B1.out | with_reducible refine Below.setCell ?_ (by exact Nat.le_refl _) _)⟩
set_option maxHeartbeats 12800000 in
set_option maxRecDepth 100000 in
theorem pun2 (g bk off cp : Nat) (f4 f5 : List UInt8) (m : Int) (k kv d e5 : Int) (v0 v1 v2 v3 v4 v5 v6 o7 o8 o9 o10 o11 o12 : Value) (w : World) (hm : Wrd.MaxL w) (hml : 0 < g) (hC : Cs g w [v0, v1, v2, v3, v4, v5, v6, o7, o8, o9, o10, o11, o12]) (hg : bk < g) (q4 : w.cell? ⟨bk, off + 4, none⟩ = some (.string ⟨f4.toArray⟩)) (l4 : f4.length ≤ 1000) (h4 : Hid (Wrd.wdP 2 f4 = (m, 0))) (q5 : w.cell? ⟨bk, off + 5, none⟩ = some (.string ⟨f5.toArray⟩)) (l5 : f5.length ≤ 1000) (h5 : Hid (Onf.onP f5 = (k, kv, d, e5))) :
    Calls Tryz.prog 52 #[.pointer (some ⟨g, 0, none⟩), .slice (some ⟨bk, off, none⟩) 6 cp] w fun e w' => e = .returned (.int .i64 e5) ∧ Cs g w' [v0, v1, v2, v3, v4, v5, v6, .int .i64 m, .int .i64 k, .int .i64 kv, .int .i64 d, .int .i64 0, .int .i64 1] ∧ Below g w w' := by
  have Z4 : Hid ((⟨f4.toArray⟩ : ByteArray).size ≤ 1000) := Lib.hid l4
  have Q4 := Lib.hid q4
  have Z5 : Hid ((⟨f5.toArray⟩ : ByteArray).size ≤ 1000) := Lib.hid l5
  have Q5 := Lib.hid q5
  have n1 : g ≠ bk := by omega
  have n2 : bk ≠ g := by omega
  have ML := Lib.hid (fun (W : World) (hb : Below g w W) => maxl_g hm hml hb)
  have HG := Lib.hid hC.1
  clear hm
  have z7 := (hC.2 7 _ rfl).1
  have y7 := (hC.2 7 _ rfl).2
  have z8 := (hC.2 8 _ rfl).1
  have y8 := (hC.2 8 _ rfl).2
  have z9 := (hC.2 9 _ rfl).1
  have y9 := (hC.2 9 _ rfl).2
  have z10 := (hC.2 10 _ rfl).1
  have y10 := (hC.2 10 _ rfl).2
  have z11 := (hC.2 11 _ rfl).1
  have y11 := (hC.2 11 _ rfl).2
  have z12 := (hC.2 12 _ rfl).1
  have y12 := (hC.2 12 _ rfl).2
  have d0 := hC.set 7 (by simp) (.int .i64 1)
  simp only [List.set_cons_succ, List.set_cons_zero] at d0
  have d1 := d0.set 8 (by simp) (.int .i64 1)
  simp only [List.set_cons_succ, List.set_cons_zero] at d1
  have d2 := d1.set 9 (by simp) (.int .i64 0)
  simp only [List.set_cons_succ, List.set_cons_zero] at d2
  have d3 := d2.set 10 (by simp) (.int .i64 1)
  simp only [List.set_cons_succ, List.set_cons_zero] at d3
  have d4 := d3.set 11 (by simp) (.int .i64 0)
  simp only [List.set_cons_succ, List.set_cons_zero] at d4
  have d5 := d4.set 12 (by simp) (.int .i64 1)
  simp only [List.set_cons_succ, List.set_cons_zero] at d5
  have DD := Lib.hid d5
  clear d0 d1 d2 d3 d4 d5
  clear hC l4 l5 q5
  go_enter Tryz.func52, Tryz.ntmps52
  go_wp2_with fail
  refine (Wrd.mon_to _ f4 m 0 _ Z4.out (Lib.hid rfl) h4).mono ?_
  rintro e w1 ⟨rfl, b1⟩
  have C1 := Lib.hid (DD.out.below b1)
  have B1 := Lib.hid ((show Below g w _ from (by repeat (first | with_reducible exact Below.refl _ _ | with_reducible refine Below.setCell ?_ (by exact Nat.le_refl _) _))).trans (b1.mono (Nat.le_of_lt DD.out.1)))
  clear b1 DD z7 z8 z9 z10 z11 z12 y7 y8 y9 y10 y11 y12 q4
  have z7 := (C1.out.2 7 _ rfl).1
  have y7 := (C1.out.2 7 _ rfl).2
  have q5 := (B1.out.cell (p := ⟨bk, off + 5, none⟩) hg).trans Q5.out
  go_wp2_with fail
  refine (Onf.oparse_to _ f5 k kv d e5 _ (ML.out _ (by repeat (first | with_reducible exact B1.out | with_reducible refine Below.setCell ?_ (by exact Nat.le_refl _) _))) Z5.out (Lib.hid rfl) h5).mono ?_
  rintro e w2 ⟨rfl, b2⟩
  have e0 := C1.out.set 7 (by simp) (.int .i64 m)
  simp only [List.set_cons_succ, List.set_cons_zero] at e0
  have EE := Lib.hid e0
  clear e0
  have C2 := Lib.hid (EE.out.below b2)
  have B2 := Lib.hid ((show Below g w _ from (by repeat (first | with_reducible exact B1.out | with_reducible refine Below.setCell ?_ (by exact Nat.le_refl _) _))).trans (b2.mono (Nat.le_of_lt EE.out.1)))
  clear b2 EE z7 y7 q5
  have z8 := (C2.out.2 8 _ rfl).1
  have y8 := (C2.out.2 8 _ rfl).2
  have z9 := (C2.out.2 9 _ rfl).1
  have y9 := (C2.out.2 9 _ rfl).2
  have z10 := (C2.out.2 10 _ rfl).1
  have y10 := (C2.out.2 10 _ rfl).2
  by_cases e0 : e5 = 0
  · subst e0
    have t0 := C2.out.set 8 (by simp) (.int .i64 k)
    simp only [List.set_cons_succ, List.set_cons_zero] at t0
    have t1 := t0.set 9 (by simp) (.int .i64 kv)
    simp only [List.set_cons_succ, List.set_cons_zero] at t1
    have t2 := t1.set 10 (by simp) (.int .i64 d)
    simp only [List.set_cons_succ, List.set_cons_zero] at t2
    have TT := Lib.hid t2
    clear t0 t1 t2
    go_wp2
    go_ret
    exact ⟨rfl, TT.out, by repeat (first | with_reducible exact B2.out | with_reducible refine Below.setCell ?_ (by exact Nat.le_refl _) _)⟩
  · skip
    have x1 : (e5 == 0) = false := beq_eq_false_iff_ne.2 e0
    have x2 : (e5 != 0) = true := bne_iff_ne.2 e0
    have t0 := C2.out.set 8 (by simp) (.int .i64 k)
    simp only [List.set_cons_succ, List.set_cons_zero] at t0
    have t1 := t0.set 9 (by simp) (.int .i64 kv)
    simp only [List.set_cons_succ, List.set_cons_zero] at t1
    have t2 := t1.set 10 (by simp) (.int .i64 d)
    simp only [List.set_cons_succ, List.set_cons_zero] at t2
    have TT := Lib.hid t2
    clear t0 t1 t2
    go_wp2
    go_ret
    exact ⟨rfl, TT.out, by repeat (first | with_reducible exact B2.out | with_reducible refine Below.setCell ?_ (by exact Nat.le_refl _) _)⟩
set_option maxHeartbeats 12800000 in
set_option maxRecDepth 100000 in
theorem pun3m (g bk off cp : Nat) (f4 : List UInt8) (m c : Int) (v0 v1 v2 v3 v4 v5 v6 o7 o8 o9 o10 o11 o12 : Value) (w : World) (hC : Cs g w [v0, v1, v2, v3, v4, v5, v6, o7, o8, o9, o10, o11, o12]) (hg : bk < g) (q4 : w.cell? ⟨bk, off + 4, none⟩ = some (.string ⟨f4.toArray⟩)) (l4 : f4.length ≤ 1000) (h4 : Hid (Wrd.wdP 2 f4 = (m, c))) (e0 : c ≠ 0) :
    Calls Tryz.prog 52 #[.pointer (some ⟨g, 0, none⟩), .slice (some ⟨bk, off, none⟩) 7 cp] w fun e w' => e = .returned (.int .i64 c) ∧ Cs g w' [v0, v1, v2, v3, v4, v5, v6, .int .i64 m, .int .i64 1, .int .i64 0, .int .i64 1, .int .i64 0, .int .i64 1] ∧ Below g w w' := by
  have Z4 : Hid ((⟨f4.toArray⟩ : ByteArray).size ≤ 1000) := Lib.hid l4
  have Q4 := Lib.hid q4
  have n1 : g ≠ bk := by omega
  have n2 : bk ≠ g := by omega
  have z7 := (hC.2 7 _ rfl).1
  have y7 := (hC.2 7 _ rfl).2
  have z8 := (hC.2 8 _ rfl).1
  have y8 := (hC.2 8 _ rfl).2
  have z9 := (hC.2 9 _ rfl).1
  have y9 := (hC.2 9 _ rfl).2
  have z10 := (hC.2 10 _ rfl).1
  have y10 := (hC.2 10 _ rfl).2
  have z11 := (hC.2 11 _ rfl).1
  have y11 := (hC.2 11 _ rfl).2
  have z12 := (hC.2 12 _ rfl).1
  have y12 := (hC.2 12 _ rfl).2
  have d0 := hC.set 7 (by simp) (.int .i64 1)
  simp only [List.set_cons_succ, List.set_cons_zero] at d0
  have d1 := d0.set 8 (by simp) (.int .i64 1)
  simp only [List.set_cons_succ, List.set_cons_zero] at d1
  have d2 := d1.set 9 (by simp) (.int .i64 0)
  simp only [List.set_cons_succ, List.set_cons_zero] at d2
  have d3 := d2.set 10 (by simp) (.int .i64 1)
  simp only [List.set_cons_succ, List.set_cons_zero] at d3
  have d4 := d3.set 11 (by simp) (.int .i64 0)
  simp only [List.set_cons_succ, List.set_cons_zero] at d4
  have d5 := d4.set 12 (by simp) (.int .i64 1)
  simp only [List.set_cons_succ, List.set_cons_zero] at d5
  have DD := Lib.hid d5
  clear d0 d1 d2 d3 d4 d5
  clear hC l4 
  go_enter Tryz.func52, Tryz.ntmps52
  go_wp2_with fail
  refine (Wrd.mon_to _ f4 m c _ Z4.out (Lib.hid rfl) h4).mono ?_
  rintro e w1 ⟨rfl, b1⟩
  have C1 := Lib.hid (DD.out.below b1)
  have B1 := Lib.hid ((show Below g w _ from (by repeat (first | with_reducible exact Below.refl _ _ | with_reducible refine Below.setCell ?_ (by exact Nat.le_refl _) _))).trans (b1.mono (Nat.le_of_lt DD.out.1)))
  clear b1 DD z7 z8 z9 z10 z11 z12 y7 y8 y9 y10 y11 y12 q4
  have z7 := (C1.out.2 7 _ rfl).1
  have y7 := (C1.out.2 7 _ rfl).2
  have x1 : (c == 0) = false := beq_eq_false_iff_ne.2 e0
  have x2 : (c != 0) = true := bne_iff_ne.2 e0
  have t0 := C1.out.set 7 (by simp) (.int .i64 m)
  simp only [List.set_cons_succ, List.set_cons_zero] at t0
  have TT := Lib.hid t0
  clear t0
  go_wp2
  go_ret
  exact ⟨rfl, TT.out, by repeat (first | with_reducible exact B1.out | with_reducible refine Below.setCell ?_ (by exact Nat.le_refl _) _)⟩
set_option maxHeartbeats 12800000 in
set_option maxRecDepth 100000 in
theorem pun3o (g bk off cp : Nat) (f4 f5 : List UInt8) (m : Int) (k kv d e5 : Int) (v0 v1 v2 v3 v4 v5 v6 o7 o8 o9 o10 o11 o12 : Value) (w : World) (hm : Wrd.MaxL w) (hml : 0 < g) (hC : Cs g w [v0, v1, v2, v3, v4, v5, v6, o7, o8, o9, o10, o11, o12]) (hg : bk < g) (q4 : w.cell? ⟨bk, off + 4, none⟩ = some (.string ⟨f4.toArray⟩)) (l4 : f4.length ≤ 1000) (h4 : Hid (Wrd.wdP 2 f4 = (m, 0))) (q5 : w.cell? ⟨bk, off + 5, none⟩ = some (.string ⟨f5.toArray⟩)) (l5 : f5.length ≤ 1000) (h5 : Hid (Onf.onP f5 = (k, kv, d, e5))) (e0 : e5 ≠ 0) :
    Calls Tryz.prog 52 #[.pointer (some ⟨g, 0, none⟩), .slice (some ⟨bk, off, none⟩) 7 cp] w fun e w' => e = .returned (.int .i64 e5) ∧ Cs g w' [v0, v1, v2, v3, v4, v5, v6, .int .i64 m, .int .i64 k, .int .i64 kv, .int .i64 d, .int .i64 0, .int .i64 1] ∧ Below g w w' := by
  have Z4 : Hid ((⟨f4.toArray⟩ : ByteArray).size ≤ 1000) := Lib.hid l4
  have Q4 := Lib.hid q4
  have Z5 : Hid ((⟨f5.toArray⟩ : ByteArray).size ≤ 1000) := Lib.hid l5
  have Q5 := Lib.hid q5
  have n1 : g ≠ bk := by omega
  have n2 : bk ≠ g := by omega
  have ML := Lib.hid (fun (W : World) (hb : Below g w W) => maxl_g hm hml hb)
  have HG := Lib.hid hC.1
  clear hm
  have z7 := (hC.2 7 _ rfl).1
  have y7 := (hC.2 7 _ rfl).2
  have z8 := (hC.2 8 _ rfl).1
  have y8 := (hC.2 8 _ rfl).2
  have z9 := (hC.2 9 _ rfl).1
  have y9 := (hC.2 9 _ rfl).2
  have z10 := (hC.2 10 _ rfl).1
  have y10 := (hC.2 10 _ rfl).2
  have z11 := (hC.2 11 _ rfl).1
  have y11 := (hC.2 11 _ rfl).2
  have z12 := (hC.2 12 _ rfl).1
  have y12 := (hC.2 12 _ rfl).2
  have d0 := hC.set 7 (by simp) (.int .i64 1)
  simp only [List.set_cons_succ, List.set_cons_zero] at d0
  have d1 := d0.set 8 (by simp) (.int .i64 1)
  simp only [List.set_cons_succ, List.set_cons_zero] at d1
  have d2 := d1.set 9 (by simp) (.int .i64 0)
  simp only [List.set_cons_succ, List.set_cons_zero] at d2
  have d3 := d2.set 10 (by simp) (.int .i64 1)
  simp only [List.set_cons_succ, List.set_cons_zero] at d3
  have d4 := d3.set 11 (by simp) (.int .i64 0)
  simp only [List.set_cons_succ, List.set_cons_zero] at d4
  have d5 := d4.set 12 (by simp) (.int .i64 1)
  simp only [List.set_cons_succ, List.set_cons_zero] at d5
  have DD := Lib.hid d5
  clear d0 d1 d2 d3 d4 d5
  clear hC l4 l5 q5
  go_enter Tryz.func52, Tryz.ntmps52
  go_wp2_with fail
  refine (Wrd.mon_to _ f4 m 0 _ Z4.out (Lib.hid rfl) h4).mono ?_
  rintro e w1 ⟨rfl, b1⟩
  have C1 := Lib.hid (DD.out.below b1)
  have B1 := Lib.hid ((show Below g w _ from (by repeat (first | with_reducible exact Below.refl _ _ | with_reducible refine Below.setCell ?_ (by exact Nat.le_refl _) _))).trans (b1.mono (Nat.le_of_lt DD.out.1)))
  clear b1 DD z7 z8 z9 z10 z11 z12 y7 y8 y9 y10 y11 y12 q4
  have z7 := (C1.out.2 7 _ rfl).1
  have y7 := (C1.out.2 7 _ rfl).2
  have q5 := (B1.out.cell (p := ⟨bk, off + 5, none⟩) hg).trans Q5.out
  go_wp2_with fail
  refine (Onf.oparse_to _ f5 k kv d e5 _ (ML.out _ (by repeat (first | with_reducible exact B1.out | with_reducible refine Below.setCell ?_ (by exact Nat.le_refl _) _))) Z5.out (Lib.hid rfl) h5).mono ?_
  rintro e w2 ⟨rfl, b2⟩
  have e0 := C1.out.set 7 (by simp) (.int .i64 m)
  simp only [List.set_cons_succ, List.set_cons_zero] at e0
  have EE := Lib.hid e0
  clear e0
  have C2 := Lib.hid (EE.out.below b2)
  have B2 := Lib.hid ((show Below g w _ from (by repeat (first | with_reducible exact B1.out | with_reducible refine Below.setCell ?_ (by exact Nat.le_refl _) _))).trans (b2.mono (Nat.le_of_lt EE.out.1)))
  clear b2 EE z7 y7 q5
  have z8 := (C2.out.2 8 _ rfl).1
  have y8 := (C2.out.2 8 _ rfl).2
  have z9 := (C2.out.2 9 _ rfl).1
  have y9 := (C2.out.2 9 _ rfl).2
  have z10 := (C2.out.2 10 _ rfl).1
  have y10 := (C2.out.2 10 _ rfl).2
  have x1 : (e5 == 0) = false := beq_eq_false_iff_ne.2 e0
  have x2 : (e5 != 0) = true := bne_iff_ne.2 e0
  have t0 := C2.out.set 8 (by simp) (.int .i64 k)
  simp only [List.set_cons_succ, List.set_cons_zero] at t0
  have t1 := t0.set 9 (by simp) (.int .i64 kv)
  simp only [List.set_cons_succ, List.set_cons_zero] at t1
  have t2 := t1.set 10 (by simp) (.int .i64 d)
  simp only [List.set_cons_succ, List.set_cons_zero] at t2
  have TT := Lib.hid t2
  clear t0 t1 t2
  go_wp2
  go_ret
  exact ⟨rfl, TT.out, by repeat (first | with_reducible exact B2.out | with_reducible refine Below.setCell ?_ (by exact Nat.le_refl _) _)⟩
set_option maxHeartbeats 12800000 in
set_option maxRecDepth 100000 in
theorem pun3 (g bk off cp : Nat) (f4 f5 f6 : List UInt8) (m : Int) (k kv d : Int) (n ak e6 : Int) (v0 v1 v2 v3 v4 v5 v6 o7 o8 o9 o10 o11 o12 : Value) (w : World) (hm : Wrd.MaxL w) (hml : 0 < g) (hC : Cs g w [v0, v1, v2, v3, v4, v5, v6, o7, o8, o9, o10, o11, o12]) (hg : bk < g) (q4 : w.cell? ⟨bk, off + 4, none⟩ = some (.string ⟨f4.toArray⟩)) (l4 : f4.length ≤ 1000) (h4 : Hid (Wrd.wdP 2 f4 = (m, 0))) (q5 : w.cell? ⟨bk, off + 5, none⟩ = some (.string ⟨f5.toArray⟩)) (l5 : f5.length ≤ 1000) (h5 : Hid (Onf.onP f5 = (k, kv, d, 0))) (q6 : w.cell? ⟨bk, off + 6, none⟩ = some (.string ⟨f6.toArray⟩)) (l6 : f6.length ≤ 1000) (h6 : Hid (Atf.apV f6 = n ∧ Atf.apKk f6 = ak ∧ Atf.apE f6 = e6)) :
    Calls Tryz.prog 52 #[.pointer (some ⟨g, 0, none⟩), .slice (some ⟨bk, off, none⟩) 7 cp] w fun e w' => e = .returned (.int .i64 e6) ∧ Cs g w' [v0, v1, v2, v3, v4, v5, v6, .int .i64 m, .int .i64 k, .int .i64 kv, .int .i64 d, .int .i64 n, .int .i64 ak] ∧ Below g w w' := by
  have Z4 : Hid ((⟨f4.toArray⟩ : ByteArray).size ≤ 1000) := Lib.hid l4
  have Q4 := Lib.hid q4
  have Z5 : Hid ((⟨f5.toArray⟩ : ByteArray).size ≤ 1000) := Lib.hid l5
  have Q5 := Lib.hid q5
  have Z6 : Hid ((⟨f6.toArray⟩ : ByteArray).size ≤ 1000) := Lib.hid l6
  have Q6 := Lib.hid q6
  have n1 : g ≠ bk := by omega
  have n2 : bk ≠ g := by omega
  have ML := Lib.hid (fun (W : World) (hb : Below g w W) => maxl_g hm hml hb)
  have HG := Lib.hid hC.1
  clear hm
  have z7 := (hC.2 7 _ rfl).1
  have y7 := (hC.2 7 _ rfl).2
  have z8 := (hC.2 8 _ rfl).1
  have y8 := (hC.2 8 _ rfl).2
  have z9 := (hC.2 9 _ rfl).1
  have y9 := (hC.2 9 _ rfl).2
  have z10 := (hC.2 10 _ rfl).1
  have y10 := (hC.2 10 _ rfl).2
  have z11 := (hC.2 11 _ rfl).1
  have y11 := (hC.2 11 _ rfl).2
  have z12 := (hC.2 12 _ rfl).1
  have y12 := (hC.2 12 _ rfl).2
  have d0 := hC.set 7 (by simp) (.int .i64 1)
  simp only [List.set_cons_succ, List.set_cons_zero] at d0
  have d1 := d0.set 8 (by simp) (.int .i64 1)
  simp only [List.set_cons_succ, List.set_cons_zero] at d1
  have d2 := d1.set 9 (by simp) (.int .i64 0)
  simp only [List.set_cons_succ, List.set_cons_zero] at d2
  have d3 := d2.set 10 (by simp) (.int .i64 1)
  simp only [List.set_cons_succ, List.set_cons_zero] at d3
  have d4 := d3.set 11 (by simp) (.int .i64 0)
  simp only [List.set_cons_succ, List.set_cons_zero] at d4
  have d5 := d4.set 12 (by simp) (.int .i64 1)
  simp only [List.set_cons_succ, List.set_cons_zero] at d5
  have DD := Lib.hid d5
  clear d0 d1 d2 d3 d4 d5
  clear hC l4 l5 l6 q5 q6
  go_enter Tryz.func52, Tryz.ntmps52
  go_wp2_with fail
  refine (Wrd.mon_to _ f4 m 0 _ Z4.out (Lib.hid rfl) h4).mono ?_
  rintro e w1 ⟨rfl, b1⟩
  have C1 := Lib.hid (DD.out.below b1)
  have B1 := Lib.hid ((show Below g w _ from (by repeat (first | with_reducible exact Below.refl _ _ | with_reducible refine Below.setCell ?_ (by exact Nat.le_refl _) _))).trans (b1.mono (Nat.le_of_lt DD.out.1)))
  clear b1 DD z7 z8 z9 z10 z11 z12 y7 y8 y9 y10 y11 y12 q4
  have z7 := (C1.out.2 7 _ rfl).1
  have y7 := (C1.out.2 7 _ rfl).2
  have q5 := (B1.out.cell (p := ⟨bk, off + 5, none⟩) hg).trans Q5.out
  go_wp2_with fail
  refine (Onf.oparse_to _ f5 k kv d 0 _ (ML.out _ (by repeat (first | with_reducible exact B1.out | with_reducible refine Below.setCell ?_ (by exact Nat.le_refl _) _))) Z5.out (Lib.hid rfl) h5).mono ?_
  rintro e w2 ⟨rfl, b2⟩
  have e0 := C1.out.set 7 (by simp) (.int .i64 m)
  simp only [List.set_cons_succ, List.set_cons_zero] at e0
  have EE := Lib.hid e0
  clear e0
  have C2 := Lib.hid (EE.out.below b2)
  have B2 := Lib.hid ((show Below g w _ from (by repeat (first | with_reducible exact B1.out | with_reducible refine Below.setCell ?_ (by exact Nat.le_refl _) _))).trans (b2.mono (Nat.le_of_lt EE.out.1)))
  clear b2 EE z7 y7 q5
  have z8 := (C2.out.2 8 _ rfl).1
  have y8 := (C2.out.2 8 _ rfl).2
  have z9 := (C2.out.2 9 _ rfl).1
  have y9 := (C2.out.2 9 _ rfl).2
  have z10 := (C2.out.2 10 _ rfl).1
  have y10 := (C2.out.2 10 _ rfl).2
  have q6 := (B2.out.cell (p := ⟨bk, off + 6, none⟩) hg).trans Q6.out
  go_wp2_with fail
  refine (Atf.aparse_to _ f6 n ak e6 _ Z6.out (Lib.hid rfl) h6).mono ?_
  rintro e w3 ⟨rfl, b3⟩
  have e0 := C2.out.set 8 (by simp) (.int .i64 k)
  simp only [List.set_cons_succ, List.set_cons_zero] at e0
  have e1 := e0.set 9 (by simp) (.int .i64 kv)
  simp only [List.set_cons_succ, List.set_cons_zero] at e1
  have e2 := e1.set 10 (by simp) (.int .i64 d)
  simp only [List.set_cons_succ, List.set_cons_zero] at e2
  have EE := Lib.hid e2
  clear e0 e1 e2
  have C3 := Lib.hid (EE.out.below b3)
  have B3 := Lib.hid ((show Below g w _ from (by repeat (first | with_reducible exact B2.out | with_reducible refine Below.setCell ?_ (by exact Nat.le_refl _) _))).trans (b3.mono (Nat.le_of_lt EE.out.1)))
  clear b3 EE z8 y8 z9 y9 z10 y10 q6
  have z11 := (C3.out.2 11 _ rfl).1
  have y11 := (C3.out.2 11 _ rfl).2
  have z12 := (C3.out.2 12 _ rfl).1
  have y12 := (C3.out.2 12 _ rfl).2
  by_cases e0 : e6 = 0
  · subst e0
    have t0 := C3.out.set 11 (by simp) (.int .i64 n)
    simp only [List.set_cons_succ, List.set_cons_zero] at t0
    have t1 := t0.set 12 (by simp) (.int .i64 ak)
    simp only [List.set_cons_succ, List.set_cons_zero] at t1
    have TT := Lib.hid t1
    clear t0 t1
    go_wp2
    go_ret
    exact ⟨rfl, TT.out, by repeat (first | with_reducible exact B3.out | with_reducible refine Below.setCell ?_ (by exact Nat.le_refl _) _)⟩
  · skip
    have x1 : (e6 == 0) = false := beq_eq_false_iff_ne.2 e0
    have x2 : (e6 != 0) = true := bne_iff_ne.2 e0
    have t0 := C3.out.set 11 (by simp) (.int .i64 n)
    simp only [List.set_cons_succ, List.set_cons_zero] at t0
    have t1 := t0.set 12 (by simp) (.int .i64 ak)
    simp only [List.set_cons_succ, List.set_cons_zero] at t1
    have TT := Lib.hid t1
    clear t0 t1
    go_wp2
    go_ret
    exact ⟨rfl, TT.out, by repeat (first | with_reducible exact B3.out | with_reducible refine Below.setCell ?_ (by exact Nat.le_refl _) _)⟩
end Zon
end Go.Proofs.YthefgagmjamdkaaGreatDoor
/-
  Package zone: parseUntil of whatever list of up to three fields.
-/
namespace Go.Proofs.YthefgagmjamdkaaGreatDoor
open Go.RowKit
namespace Zon
open Sol Clk Cel Rul
theorem pun_to (g bk off cp : Nat) (Q : List (List UInt8)) (a mo k v d n c : Int) (v0 v1 v2 v3 v4 v5 v6 o7 o8 o9 o10 o11 o12 : Value) (w : World) (hm : Wrd.MaxL w) (hml : 0 < g) (hC : Cs g w [v0, v1, v2, v3, v4, v5, v6, o7, o8, o9, o10, o11, o12]) (hg : bk < g) (hl : Q.length ≤ 3)
    (hq : ∀ i f, Q[i]? = some f → w.cell? ⟨bk, off + (4 + i), none⟩ = some (.string ⟨f.toArray⟩) ∧ f.length ≤ 1000) (h : Hid (unX Q = (a, (mo, (k, v, d), (n, c))))) :
    Calls Tryz.prog 52 #[.pointer (some ⟨g, 0, none⟩), .slice (some ⟨bk, off, none⟩) (4 + Q.length) cp] w fun e w' => e = .returned (.int .i64 a) ∧ (∃ u7 u8 u9 u10 u11 u12 : Int, Cs g w' [v0, v1, v2, v3, v4, v5, v6, .int .i64 u7, .int .i64 u8, .int .i64 u9, .int .i64 u10, .int .i64 u11, .int .i64 u12] ∧ (a = 0 → u7 = mo ∧ u8 = k ∧ u9 = v ∧ u10 = d ∧ u11 = n ∧ u12 = c)) ∧ Below g w w' := by
  have h := h.out
  match Q, hl, hq, h with
  | [], _, _, h =>
    rw [unX] at h
    simp only [Prod.mk.injEq] at h
    obtain ⟨rfl, rfl, ⟨rfl, rfl, rfl⟩, rfl, rfl⟩ := h
    refine (pun0 g bk off cp v0 v1 v2 v3 v4 v5 v6 o7 o8 o9 o10 o11 o12 w hC).mono ?_
    rintro e w' ⟨he, hc, hb⟩
    exact ⟨he, ⟨_, _, _, _, _, _, hc, fun _ => ⟨rfl, rfl, rfl, rfl, rfl, rfl⟩⟩, hb⟩
  | [f4], _, hq, h =>
    rw [unX] at h
    simp only [Prod.mk.injEq] at h
    obtain ⟨ha, hmo, ⟨rfl, rfl, rfl⟩, rfl, rfl⟩ := h
    obtain ⟨q4, l4⟩ := hq 0 f4 rfl
    refine (pun1 g bk off cp f4 mo a v0 v1 v2 v3 v4 v5 v6 o7 o8 o9 o10 o11 o12 w hC hg q4 l4 (Lib.hid (Prod.ext hmo ha))).mono ?_
    rintro e w' ⟨he, hc, hb⟩
    exact ⟨he, ⟨_, _, _, _, _, _, hc, fun _ => ⟨rfl, rfl, rfl, rfl, rfl, rfl⟩⟩, hb⟩
  | [f4, f5], _, hq, h =>
    obtain ⟨q4, l4⟩ := hq 0 f4 rfl
    obtain ⟨q5, l5⟩ := hq 1 f5 rfl
    rw [unX] at h
    by_cases z : (Wrd.wdP 2 f4).2 = 0
    · rw [if_neg (by simp [z])] at h
      simp only [Prod.mk.injEq] at h
      obtain ⟨ha, hmo, ⟨hk, hv, hd⟩, rfl, rfl⟩ := h
      refine (pun2 g bk off cp f4 f5 mo k v d a v0 v1 v2 v3 v4 v5 v6 o7 o8 o9 o10 o11 o12 w hm hml hC hg q4 l4 (Lib.hid (Prod.ext hmo z)) q5 l5 (Lib.hid (Prod.ext hk (Prod.ext hv (Prod.ext hd ha))))).mono ?_
      rintro e w' ⟨he, hc, hb⟩
      exact ⟨he, ⟨_, _, _, _, _, _, hc, fun _ => ⟨rfl, rfl, rfl, rfl, rfl, rfl⟩⟩, hb⟩
    · rw [if_pos z] at h
      have ha : (Wrd.wdP 2 f4).2 = a := congrArg (·.1) h
      refine (pun2m g bk off cp f4 (Wrd.wdP 2 f4).1 a v0 v1 v2 v3 v4 v5 v6 o7 o8 o9 o10 o11 o12 w hC hg q4 l4 (Lib.hid (Prod.ext rfl ha)) (ha ▸ z)).mono ?_
      rintro e w' ⟨he, hc, hb⟩
      exact ⟨he, ⟨_, _, _, _, _, _, hc, fun x => absurd (ha.trans x) z⟩, hb⟩
  | [f4, f5, f6], _, hq, h =>
    obtain ⟨q4, l4⟩ := hq 0 f4 rfl
    obtain ⟨q5, l5⟩ := hq 1 f5 rfl
    obtain ⟨q6, l6⟩ := hq 2 f6 rfl
    rw [unX] at h
    by_cases z : (Wrd.wdP 2 f4).2 = 0
    · rw [if_neg (by simp [z])] at h
      by_cases y : (Onf.onP f5).2.2.2 = 0
      · rw [if_neg (by simp [y])] at h
        simp only [Prod.mk.injEq] at h
        obtain ⟨ha, hmo, ⟨hk, hv, hd⟩, hn, hc⟩ := h
        refine (pun3 g bk off cp f4 f5 f6 mo k v d n c a v0 v1 v2 v3 v4 v5 v6 o7 o8 o9 o10 o11 o12 w hm hml hC hg q4 l4 (Lib.hid (Prod.ext hmo z)) q5 l5 (Lib.hid (Prod.ext hk (Prod.ext hv (Prod.ext hd y)))) q6 l6 (Lib.hid ⟨hn, hc, ha⟩)).mono ?_
        rintro e w' ⟨he, hc, hb⟩
        exact ⟨he, ⟨_, _, _, _, _, _, hc, fun _ => ⟨rfl, rfl, rfl, rfl, rfl, rfl⟩⟩, hb⟩
      · rw [if_pos y] at h
        have ha : (Onf.onP f5).2.2.2 = a := congrArg (·.1) h
        refine (pun3o g bk off cp f4 f5 (Wrd.wdP 2 f4).1 (Onf.onP f5).1 (Onf.onP f5).2.1 (Onf.onP f5).2.2.1 a v0 v1 v2 v3 v4 v5 v6 o7 o8 o9 o10 o11 o12 w hm hml hC hg q4 l4 (Lib.hid (Prod.ext rfl z)) q5 l5 (Lib.hid (Prod.ext rfl (Prod.ext rfl (Prod.ext rfl ha)))) (ha ▸ y)).mono ?_
        rintro e w' ⟨he, hc, hb⟩
        exact ⟨he, ⟨_, _, _, _, _, _, hc, fun x => absurd (ha.trans x) y⟩, hb⟩
    · rw [if_pos z] at h
      have ha : (Wrd.wdP 2 f4).2 = a := congrArg (·.1) h
      refine (pun3m g bk off cp f4 (Wrd.wdP 2 f4).1 a v0 v1 v2 v3 v4 v5 v6 o7 o8 o9 o10 o11 o12 w hC hg q4 l4 (Lib.hid (Prod.ext rfl ha)) (ha ▸ z)).mono ?_
      rintro e w' ⟨he, hc, hb⟩
      exact ⟨he, ⟨_, _, _, _, _, _, hc, fun x => absurd (ha.trans x) z⟩, hb⟩
  | _ :: _ :: _ :: _ :: _, hl, _, _ => exact absurd hl (by simp)
end Zon
end Go.Proofs.YthefgagmjamdkaaGreatDoor
