/-
  Contracts of package rule: parse, on ten fields. (Written by gen/gen_rulp.py.)
-/
import Derived.Test.YtopmcelfmkeamaaGreatDoorBdI
namespace Go.Proofs.YtopmcelfmkeamaaGreatDoor
open Go.RowKit
namespace Rul
open Sol Clk Cel
theorem cs_drew {g : Nat} {w : World} {vs : List Value} (h : Cs g w vs) : Cs g w.drew vs := h.below ⟨rfl, rfl, rfl, Nat.le_refl _, fun _ _ => rfl⟩
set_option maxHeartbeats 25600000 in
set_option maxRecDepth 100000 in
theorem parse10 (bk off cp : Nat) (f0 f1 f2 f3 f4 f5 f6 f7 f8 f9 : List UInt8) (c : Int) (r : RV) (w : World) (hm : Wrd.MaxL w) (hbk : bk < w.heap.size)
    (q0 : w.cell? ⟨bk, off, none⟩ = some (.string ⟨f0.toArray⟩)) (l0 : f0.length ≤ 1000)
    (q1 : w.cell? ⟨bk, off + 1, none⟩ = some (.string ⟨f1.toArray⟩)) (l1 : f1.length ≤ 1000)
    (q2 : w.cell? ⟨bk, off + 2, none⟩ = some (.string ⟨f2.toArray⟩)) (l2 : f2.length ≤ 1000)
    (q3 : w.cell? ⟨bk, off + 3, none⟩ = some (.string ⟨f3.toArray⟩)) (l3 : f3.length ≤ 1000)
    (q4 : w.cell? ⟨bk, off + 4, none⟩ = some (.string ⟨f4.toArray⟩)) (l4 : f4.length ≤ 1000)
    (q5 : w.cell? ⟨bk, off + 5, none⟩ = some (.string ⟨f5.toArray⟩)) (l5 : f5.length ≤ 1000)
    (q6 : w.cell? ⟨bk, off + 6, none⟩ = some (.string ⟨f6.toArray⟩)) (l6 : f6.length ≤ 1000)
    (q7 : w.cell? ⟨bk, off + 7, none⟩ = some (.string ⟨f7.toArray⟩)) (l7 : f7.length ≤ 1000)
    (q8 : w.cell? ⟨bk, off + 8, none⟩ = some (.string ⟨f8.toArray⟩)) (l8 : f8.length ≤ 1000)
    (q9 : w.cell? ⟨bk, off + 9, none⟩ = some (.string ⟨f9.toArray⟩)) (l9 : f9.length ≤ 1000)
    (h : Hid (ruX [f0, f1, f2, f3, f4, f5, f6, f7, f8, f9] = (c, r))) :
    Calls Tryz.prog 32 #[.slice (some ⟨bk, off, none⟩) 10 cp] w fun e w' => ∃ x : RV, e = .returned (.tuple #[x.val, .int .i64 c]) ∧ (c = 0 → x = r) ∧ Below w.heap.size w w' := by
  have HM := Lib.hid hm
  clear hm
  have Q0 := Lib.hid q0
  have Z0 : Hid ((⟨f0.toArray⟩ : ByteArray).size ≤ 1000) := Lib.hid l0
  have Q1 := Lib.hid q1
  have Z1 : Hid ((⟨f1.toArray⟩ : ByteArray).size ≤ 1000) := Lib.hid l1
  have Q2 := Lib.hid q2
  have Z2 : Hid ((⟨f2.toArray⟩ : ByteArray).size ≤ 1000) := Lib.hid l2
  have Q3 := Lib.hid q3
  have Z3 : Hid ((⟨f3.toArray⟩ : ByteArray).size ≤ 1000) := Lib.hid l3
  have Q4 := Lib.hid q4
  have Z4 : Hid ((⟨f4.toArray⟩ : ByteArray).size ≤ 1000) := Lib.hid l4
  have Q5 := Lib.hid q5
  have Z5 : Hid ((⟨f5.toArray⟩ : ByteArray).size ≤ 1000) := Lib.hid l5
  have Q6 := Lib.hid q6
  have Z6 : Hid ((⟨f6.toArray⟩ : ByteArray).size ≤ 1000) := Lib.hid l6
  have Q7 := Lib.hid q7
  have Z7 : Hid ((⟨f7.toArray⟩ : ByteArray).size ≤ 1000) := Lib.hid l7
  have Q8 := Lib.hid q8
  have Z8 : Hid ((⟨f8.toArray⟩ : ByteArray).size ≤ 1000) := Lib.hid l8
  have Q9 := Lib.hid q9
  have Z9 : Hid ((⟨f9.toArray⟩ : ByteArray).size ≤ 1000) := Lib.hid l9
  clear l0 l1 l2 l3 l4 l5 l6 l7 l8 l9 q1 q2 q3 q4 q5 q6 q7 q8 q9
  obtain ⟨a0, b0, hW⟩ : ∃ a b, Wrd.wdP 1 f0 = (a, b) := ⟨_, _, rfl⟩
  obtain ⟨a2, b2, hF⟩ : ∃ a b, fromP f2 = (a, b) := ⟨_, _, rfl⟩
  obtain ⟨a3, b3, hT⟩ : ∃ a b, toP f3 a2 = (a, b) := ⟨_, _, rfl⟩
  obtain ⟨a5, b5, hMo⟩ : ∃ a b, Wrd.wdP 2 f5 = (a, b) := ⟨_, _, rfl⟩
  obtain ⟨a6, v6, d6, b6, hO⟩ : ∃ a b d e, Onf.onP f6 = (a, b, d, e) := ⟨_, _, _, _, rfl⟩
  obtain ⟨a7, hA1⟩ : ∃ a, Atf.apV f7 = a := ⟨_, rfl⟩
  obtain ⟨k7, hA2⟩ : ∃ a, Atf.apKk f7 = a := ⟨_, rfl⟩
  obtain ⟨b7, hA3⟩ : ∃ a, Atf.apE f7 = a := ⟨_, rfl⟩
  obtain ⟨a8, hS1⟩ : ∃ a, clV (svL f8) = a := ⟨_, rfl⟩
  obtain ⟨b8, hS2⟩ : ∃ a, clE (svL f8) = a := ⟨_, rfl⟩
  have HH := h.out
  simp only [ruX, hW, hF, hT, hMo, hO, hA1, hA2, hA3, hS1, hS2] at HH
  have HW := Lib.hid hW
  have HF := Lib.hid hF
  have HT := Lib.hid hT
  have HMo := Lib.hid hMo
  have HO := Lib.hid hO
  have HA := Lib.hid (And.intro hA1 (And.intro hA2 hA3))
  have HS := Lib.hid (And.intro hS1 hS2)
  have HH := Lib.hid HH
  clear h hW hF hT hMo hO hA1 hA2 hA3 hS1 hS2
  have n1 : w.heap.size ≠ bk := by omega
  have n2 : bk ≠ w.heap.size := by omega
  go_enter Tryz.func32, Tryz.ntmps32
  go_wp2_with fail
  have C0 : Cs w.heap.size (w.alloc (Obj.cells #[.string ⟨#[]⟩, .int .i64 0, .int .i64 0, .int .i64 0, .int .i64 0, .int .i64 0, .int .i64 0, .int .i64 0, .int .i64 0, .int .i64 0, .string ⟨#[]⟩] 27)) [.string ⟨#[]⟩, .int .i64 0, .int .i64 0, .int .i64 0, .int .i64 0, .int .i64 0, .int .i64 0, .int .i64 0, .int .i64 0, .int .i64 0, .string ⟨#[]⟩] := Cs.new _ _ _
  refine (Wrd.lin_to _ f0 a0 b0 _ Z0.out (Lib.hid rfl) HW).mono ?_
  rintro e w1 ⟨rfl, m1⟩
  have C1 := Lib.hid (C0.below m1)
  have B1 := Lib.hid (bstep ((Below.refl w.heap.size w).alloc (Nat.le_refl _) _) m1)
  clear C0 m1 q0
  have p4 := (B1.out.cell (p := ⟨bk, off + 4, none⟩) hbk).trans Q4.out
  have p1 := (B1.out.cell (p := ⟨bk, off + 1, none⟩) hbk).trans Q1.out
  have p2 := (B1.out.cell (p := ⟨bk, off + 2, none⟩) hbk).trans Q2.out
  by_cases e0 : b0 = 0
  case neg =>
    have x1 : (b0 == 0) = false := beq_eq_false_iff_ne.2 e0
    have x2 : (b0 != 0) = true := bne_iff_ne.2 e0
    have hc := HH.out
    rw [if_pos (fun h => e0 (Prod.mk.inj h).2)] at hc
    obtain ⟨rfl, _⟩ := Prod.mk.inj hc
    clear hc HH e0
    have z0 := (C1.out.2 0 _ rfl).1
    have y0 := (C1.out.2 0 _ rfl).2
    have z1 := (C1.out.2 1 _ rfl).1
    have y1 := (C1.out.2 1 _ rfl).2
    have z2 := (C1.out.2 2 _ rfl).1
    have y2 := (C1.out.2 2 _ rfl).2
    have z3 := (C1.out.2 3 _ rfl).1
    have y3 := (C1.out.2 3 _ rfl).2
    have z4 := (C1.out.2 4 _ rfl).1
    have y4 := (C1.out.2 4 _ rfl).2
    have z5 := (C1.out.2 5 _ rfl).1
    have y5 := (C1.out.2 5 _ rfl).2
    have z6 := (C1.out.2 6 _ rfl).1
    have y6 := (C1.out.2 6 _ rfl).2
    have z7 := (C1.out.2 7 _ rfl).1
    have y7 := (C1.out.2 7 _ rfl).2
    have z8 := (C1.out.2 8 _ rfl).1
    have y8 := (C1.out.2 8 _ rfl).2
    have z9 := (C1.out.2 9 _ rfl).1
    have y9 := (C1.out.2 9 _ rfl).2
    have z10 := (C1.out.2 10 _ rfl).1
    have y10 := (C1.out.2 10 _ rfl).2
    go_wp2
    exact bodyPost_ret (v := .tuple #[.agg #[.string ⟨#[]⟩, .int .i64 0, .int .i64 0, .int .i64 0, .int .i64 0, .int .i64 0, .int .i64 0, .int .i64 0, .int .i64 0, .int .i64 0, .string ⟨#[]⟩], .int .i64 7]) (by simp (maxDischargeDepth := 9) [results, Tryz.results32, go_sem, z0, z1, z2, z3, z4, z5, z6, z7, z8, z9, z10]) rfl ⟨⟨[], 0, 0, 0, 0, 0, 0, 0, 0, 0, []⟩, rfl, fun h => absurd h (by decide), by repeat (first | with_reducible exact B1.out | refine Below.setCell ?_ (by exact Nat.le_refl _) _)⟩
  subst e0
  by_cases e0 : a0 = 1
  case neg =>
    have x1 : (a0 == 1) = false := beq_eq_false_iff_ne.2 e0
    have x2 : (a0 != 1) = true := bne_iff_ne.2 e0
    have hc := HH.out
    rw [if_pos (fun h => e0 (Prod.mk.inj h).1)] at hc
    obtain ⟨rfl, _⟩ := Prod.mk.inj hc
    clear hc HH e0
    have z0 := (C1.out.2 0 _ rfl).1
    have y0 := (C1.out.2 0 _ rfl).2
    have z1 := (C1.out.2 1 _ rfl).1
    have y1 := (C1.out.2 1 _ rfl).2
    have z2 := (C1.out.2 2 _ rfl).1
    have y2 := (C1.out.2 2 _ rfl).2
    have z3 := (C1.out.2 3 _ rfl).1
    have y3 := (C1.out.2 3 _ rfl).2
    have z4 := (C1.out.2 4 _ rfl).1
    have y4 := (C1.out.2 4 _ rfl).2
    have z5 := (C1.out.2 5 _ rfl).1
    have y5 := (C1.out.2 5 _ rfl).2
    have z6 := (C1.out.2 6 _ rfl).1
    have y6 := (C1.out.2 6 _ rfl).2
    have z7 := (C1.out.2 7 _ rfl).1
    have y7 := (C1.out.2 7 _ rfl).2
    have z8 := (C1.out.2 8 _ rfl).1
    have y8 := (C1.out.2 8 _ rfl).2
    have z9 := (C1.out.2 9 _ rfl).1
    have y9 := (C1.out.2 9 _ rfl).2
    have z10 := (C1.out.2 10 _ rfl).1
    have y10 := (C1.out.2 10 _ rfl).2
    go_wp2
    exact bodyPost_ret (v := .tuple #[.agg #[.string ⟨#[]⟩, .int .i64 0, .int .i64 0, .int .i64 0, .int .i64 0, .int .i64 0, .int .i64 0, .int .i64 0, .int .i64 0, .int .i64 0, .string ⟨#[]⟩], .int .i64 7]) (by simp (maxDischargeDepth := 9) [results, Tryz.results32, go_sem, z0, z1, z2, z3, z4, z5, z6, z7, z8, z9, z10]) rfl ⟨⟨[], 0, 0, 0, 0, 0, 0, 0, 0, 0, []⟩, rfl, fun h => absurd h (by decide), by repeat (first | with_reducible exact B1.out | refine Below.setCell ?_ (by exact Nat.le_refl _) _)⟩
  subst e0
  by_cases e0 : f4 = [45]
  case neg =>
    have x1 : (f4 == [45]) = false := beq_eq_false_iff_ne.2 e0
    have x2 : ((⟨f4.toArray⟩ : ByteArray).toList == [45]) = false := by rw [Lib.toList_data]; exact x1
    have x3 : ¬ (⟨f4.toArray⟩ : ByteArray).toList = [45] := by rw [Lib.toList_data]; exact e0
    have hc := HH.out
    rw [if_neg (fun h => h rfl), if_pos e0] at hc
    obtain ⟨rfl, _⟩ := Prod.mk.inj hc
    clear hc HH
    have z0 := (C1.out.2 0 _ rfl).1
    have y0 := (C1.out.2 0 _ rfl).2
    have z1 := (C1.out.2 1 _ rfl).1
    have y1 := (C1.out.2 1 _ rfl).2
    have z2 := (C1.out.2 2 _ rfl).1
    have y2 := (C1.out.2 2 _ rfl).2
    have z3 := (C1.out.2 3 _ rfl).1
    have y3 := (C1.out.2 3 _ rfl).2
    have z4 := (C1.out.2 4 _ rfl).1
    have y4 := (C1.out.2 4 _ rfl).2
    have z5 := (C1.out.2 5 _ rfl).1
    have y5 := (C1.out.2 5 _ rfl).2
    have z6 := (C1.out.2 6 _ rfl).1
    have y6 := (C1.out.2 6 _ rfl).2
    have z7 := (C1.out.2 7 _ rfl).1
    have y7 := (C1.out.2 7 _ rfl).2
    have z8 := (C1.out.2 8 _ rfl).1
    have y8 := (C1.out.2 8 _ rfl).2
    have z9 := (C1.out.2 9 _ rfl).1
    have y9 := (C1.out.2 9 _ rfl).2
    have z10 := (C1.out.2 10 _ rfl).1
    have y10 := (C1.out.2 10 _ rfl).2
    go_wp2
    exact bodyPost_ret (v := .tuple #[.agg #[.string ⟨#[]⟩, .int .i64 0, .int .i64 0, .int .i64 0, .int .i64 0, .int .i64 0, .int .i64 0, .int .i64 0, .int .i64 0, .int .i64 0, .string ⟨#[]⟩], .int .i64 10]) (by simp (maxDischargeDepth := 9) [results, Tryz.results32, go_sem, z0, z1, z2, z3, z4, z5, z6, z7, z8, z9, z10]) rfl ⟨⟨[], 0, 0, 0, 0, 0, 0, 0, 0, 0, []⟩, rfl, fun h => absurd h (by decide), by repeat (first | with_reducible exact B1.out | refine Below.setCell ?_ (by exact Nat.le_refl _) _)⟩
  subst e0
  have HH := Lib.hid (by have hc := HH.out; rw [if_neg (fun h => h rfl), if_neg (fun h => h rfl)] at hc; exact hc)
  have z0 := (C1.out.2 0 _ rfl).1
  have y0 := (C1.out.2 0 _ rfl).2
  go_wp2_with fail
  refine (pfrom_to _ f2 a2 b2 _ Z2.out (Lib.hid rfl) HF).mono ?_
  rintro e w2 ⟨rfl, m2⟩
  have D1 := C1.out.set 0 (by simp) (.string ⟨f1.toArray⟩)
  simp only [List.set_cons_zero] at D1
  have C2 := Lib.hid (D1.below m2)
  clear D1
  have B2 : Hid (Below w.heap.size w w2) := Lib.hid (bstep (by repeat (first | with_reducible exact B1.out | refine Below.setCell ?_ (by exact Nat.le_refl _) _)) m2)
  clear z0 y0
  clear p4 p1 p2
  clear C1 m2
  have p3 := (B2.out.cell (p := ⟨bk, off + 3, none⟩) hbk).trans Q3.out
  by_cases e0 : b2 = 0
  case neg =>
    have x1 : (b2 == 0) = false := beq_eq_false_iff_ne.2 e0
    have x2 : (b2 != 0) = true := bne_iff_ne.2 e0
    have hc := HH.out
    rw [if_pos e0] at hc
    obtain ⟨rfl, _⟩ := Prod.mk.inj hc
    clear hc HH
    have z0 := (C2.out.2 0 _ rfl).1
    have y0 := (C2.out.2 0 _ rfl).2
    have z1 := (C2.out.2 1 _ rfl).1
    have y1 := (C2.out.2 1 _ rfl).2
    have z2 := (C2.out.2 2 _ rfl).1
    have y2 := (C2.out.2 2 _ rfl).2
    have z3 := (C2.out.2 3 _ rfl).1
    have y3 := (C2.out.2 3 _ rfl).2
    have z4 := (C2.out.2 4 _ rfl).1
    have y4 := (C2.out.2 4 _ rfl).2
    have z5 := (C2.out.2 5 _ rfl).1
    have y5 := (C2.out.2 5 _ rfl).2
    have z6 := (C2.out.2 6 _ rfl).1
    have y6 := (C2.out.2 6 _ rfl).2
    have z7 := (C2.out.2 7 _ rfl).1
    have y7 := (C2.out.2 7 _ rfl).2
    have z8 := (C2.out.2 8 _ rfl).1
    have y8 := (C2.out.2 8 _ rfl).2
    have z9 := (C2.out.2 9 _ rfl).1
    have y9 := (C2.out.2 9 _ rfl).2
    have z10 := (C2.out.2 10 _ rfl).1
    have y10 := (C2.out.2 10 _ rfl).2
    go_wp2
    exact bodyPost_ret (v := .tuple #[.agg #[.string ⟨f1.toArray⟩, .int .i64 a2, .int .i64 0, .int .i64 0, .int .i64 0, .int .i64 0, .int .i64 0, .int .i64 0, .int .i64 0, .int .i64 0, .string ⟨#[]⟩], .int .i64 b2]) (by simp (maxDischargeDepth := 9) [results, Tryz.results32, go_sem, z0, z1, z2, z3, z4, z5, z6, z7, z8, z9, z10]) rfl ⟨⟨f1, a2, 0, 0, 0, 0, 0, 0, 0, 0, []⟩, rfl, fun h => absurd h e0, by repeat (first | with_reducible exact B2.out | refine Below.setCell ?_ (by exact Nat.le_refl _) _)⟩
  subst e0
  have HH := Lib.hid (by have hc := HH.out; rw [if_neg (fun h => h rfl)] at hc; exact hc)
  have z1 := (C2.out.2 1 _ rfl).1
  have y1 := (C2.out.2 1 _ rfl).2
  have D1 := C2.out.set 1 (by simp) (.int .i64 a2)
  simp only [List.set_cons_succ, List.set_cons_zero] at D1
  have D1 := Lib.hid D1
  go_upto_region 12 with fail
  by_cases e0 : b3 = 0
  case neg =>
    have x1 : (b3 == 0) = false := beq_eq_false_iff_ne.2 e0
    have x2 : (b3 != 0) = true := bne_iff_ne.2 e0
    have hc := HH.out
    rw [if_pos e0] at hc
    obtain ⟨rfl, _⟩ := Prod.mk.inj hc
    clear hc HH
    go_region_with (go_at_call 76; (with_reducible refine (pto_to _ f3 a2 a3 b3 _ Z3.out (Lib.hid rfl) HT).mono ?_); rintro e w3 ⟨rfl, m3⟩; have C3 := Lib.hid ((cs_drew D1.out).below m3); have z2' := (C3.out.2 2 _ rfl).1; have y2' := (C3.out.2 2 _ rfl).2; have B3 : Hid (Below w.heap.size w w3) := Lib.hid (bstep (by repeat (first | with_reducible exact B2.out | refine Below.setCell ?_ (by exact Nat.le_refl _) _ | refine Below.drew ?_)) m3))
    all_goals
      clear z2' y2' z1 y1
      have z0 := (C3.out.2 0 _ rfl).1
      have y0 := (C3.out.2 0 _ rfl).2
      have z1 := (C3.out.2 1 _ rfl).1
      have y1 := (C3.out.2 1 _ rfl).2
      have z2 := (C3.out.2 2 _ rfl).1
      have y2 := (C3.out.2 2 _ rfl).2
      have z3 := (C3.out.2 3 _ rfl).1
      have y3 := (C3.out.2 3 _ rfl).2
      have z4 := (C3.out.2 4 _ rfl).1
      have y4 := (C3.out.2 4 _ rfl).2
      have z5 := (C3.out.2 5 _ rfl).1
      have y5 := (C3.out.2 5 _ rfl).2
      have z6 := (C3.out.2 6 _ rfl).1
      have y6 := (C3.out.2 6 _ rfl).2
      have z7 := (C3.out.2 7 _ rfl).1
      have y7 := (C3.out.2 7 _ rfl).2
      have z8 := (C3.out.2 8 _ rfl).1
      have y8 := (C3.out.2 8 _ rfl).2
      have z9 := (C3.out.2 9 _ rfl).1
      have y9 := (C3.out.2 9 _ rfl).2
      have z10 := (C3.out.2 10 _ rfl).1
      have y10 := (C3.out.2 10 _ rfl).2
      go_wp2
      exact bodyPost_ret (v := .tuple #[.agg #[.string ⟨f1.toArray⟩, .int .i64 a2, .int .i64 a3, .int .i64 0, .int .i64 0, .int .i64 0, .int .i64 0, .int .i64 0, .int .i64 0, .int .i64 0, .string ⟨#[]⟩], .int .i64 b3]) (by simp (maxDischargeDepth := 9) [results, Tryz.results32, go_sem, z0, z1, z2, z3, z4, z5, z6, z7, z8, z9, z10]) rfl ⟨⟨f1, a2, a3, 0, 0, 0, 0, 0, 0, 0, []⟩, rfl, fun h => absurd h e0, by repeat (first | with_reducible exact B3.out | refine Below.setCell ?_ (by exact Nat.le_refl _) _)⟩
  subst e0
  have HH := Lib.hid (by have hc := HH.out; rw [if_neg (fun h => h rfl)] at hc; exact hc)
  go_region_with (go_at_call 76; (with_reducible refine (pto_to _ f3 a2 a3 0 _ Z3.out (Lib.hid rfl) HT).mono ?_); rintro e w3 ⟨rfl, m3⟩; have C3 := Lib.hid ((cs_drew D1.out).below m3); have z2' := (C3.out.2 2 _ rfl).1; have y2' := (C3.out.2 2 _ rfl).2; have B3 : Hid (Below w.heap.size w w3) := Lib.hid (bstep (by repeat (first | with_reducible exact B2.out | refine Below.setCell ?_ (by exact Nat.le_refl _) _ | refine Below.drew ?_)) m3))
  all_goals
    clear z2' y2' z1 y1
    clear p3
    clear C2 D1
    have p5 := (B3.out.cell (p := ⟨bk, off + 5, none⟩) hbk).trans Q5.out
    have z2 := (C3.out.2 2 _ rfl).1
    have y2 := (C3.out.2 2 _ rfl).2
    go_wp2_with fail
    refine (Wrd.mon_to _ f5 a5 b5 _ Z5.out (Lib.hid rfl) HMo).mono ?_
    rintro e w4 ⟨rfl, m4⟩
    have D1 := C3.out.set 2 (by simp) (.int .i64 a3)
    simp only [List.set_cons_succ, List.set_cons_zero] at D1
    have C4 := Lib.hid (D1.below m4)
    clear D1
    have B4 : Hid (Below w.heap.size w w4) := Lib.hid (bstep (by repeat (first | with_reducible exact B3.out | refine Below.setCell ?_ (by exact Nat.le_refl _) _)) m4)
    clear z2 y2
    clear p5
    clear C3 m4
    have p6 := (B4.out.cell (p := ⟨bk, off + 6, none⟩) hbk).trans Q6.out
    by_cases e0 : b5 = 0
    case neg =>
      have x1 : (b5 == 0) = false := beq_eq_false_iff_ne.2 e0
      have x2 : (b5 != 0) = true := bne_iff_ne.2 e0
      have hc := HH.out
      rw [if_pos e0] at hc
      obtain ⟨rfl, _⟩ := Prod.mk.inj hc
      clear hc HH
      have z0 := (C4.out.2 0 _ rfl).1
      have y0 := (C4.out.2 0 _ rfl).2
      have z1 := (C4.out.2 1 _ rfl).1
      have y1 := (C4.out.2 1 _ rfl).2
      have z2 := (C4.out.2 2 _ rfl).1
      have y2 := (C4.out.2 2 _ rfl).2
      have z3 := (C4.out.2 3 _ rfl).1
      have y3 := (C4.out.2 3 _ rfl).2
      have z4 := (C4.out.2 4 _ rfl).1
      have y4 := (C4.out.2 4 _ rfl).2
      have z5 := (C4.out.2 5 _ rfl).1
      have y5 := (C4.out.2 5 _ rfl).2
      have z6 := (C4.out.2 6 _ rfl).1
      have y6 := (C4.out.2 6 _ rfl).2
      have z7 := (C4.out.2 7 _ rfl).1
      have y7 := (C4.out.2 7 _ rfl).2
      have z8 := (C4.out.2 8 _ rfl).1
      have y8 := (C4.out.2 8 _ rfl).2
      have z9 := (C4.out.2 9 _ rfl).1
      have y9 := (C4.out.2 9 _ rfl).2
      have z10 := (C4.out.2 10 _ rfl).1
      have y10 := (C4.out.2 10 _ rfl).2
      go_wp2
      exact bodyPost_ret (v := .tuple #[.agg #[.string ⟨f1.toArray⟩, .int .i64 a2, .int .i64 a3, .int .i64 a5, .int .i64 0, .int .i64 0, .int .i64 0, .int .i64 0, .int .i64 0, .int .i64 0, .string ⟨#[]⟩], .int .i64 b5]) (by simp (maxDischargeDepth := 9) [results, Tryz.results32, go_sem, z0, z1, z2, z3, z4, z5, z6, z7, z8, z9, z10]) rfl ⟨⟨f1, a2, a3, a5, 0, 0, 0, 0, 0, 0, []⟩, rfl, fun h => absurd h e0, by repeat (first | with_reducible exact B4.out | refine Below.setCell ?_ (by exact Nat.le_refl _) _)⟩
    subst e0
    have HH := Lib.hid (by have hc := HH.out; rw [if_neg (fun h => h rfl)] at hc; exact hc)
    have z3 := (C4.out.2 3 _ rfl).1
    have y3 := (C4.out.2 3 _ rfl).2
    go_wp2_with fail
    refine (Onf.oparse_to _ f6 a6 v6 d6 b6 _ (HM.out.stays (by repeat (first | with_reducible exact B4.out | refine Below.setCell ?_ (by exact Nat.le_refl _) _))) Z6.out (Lib.hid rfl) HO).mono ?_
    rintro e w5 ⟨rfl, m5⟩
    have D1 := C4.out.set 3 (by simp) (.int .i64 a5)
    simp only [List.set_cons_succ, List.set_cons_zero] at D1
    have C5 := Lib.hid (D1.below m5)
    clear D1
    have B5 : Hid (Below w.heap.size w w5) := Lib.hid (bstep (by repeat (first | with_reducible exact B4.out | refine Below.setCell ?_ (by exact Nat.le_refl _) _)) m5)
    clear z3 y3
    clear p6
    clear C4 m5
    have p7 := (B5.out.cell (p := ⟨bk, off + 7, none⟩) hbk).trans Q7.out
    by_cases e0 : b6 = 0
    case neg =>
      have x1 : (b6 == 0) = false := beq_eq_false_iff_ne.2 e0
      have x2 : (b6 != 0) = true := bne_iff_ne.2 e0
      have hc := HH.out
      rw [if_pos e0] at hc
      obtain ⟨rfl, _⟩ := Prod.mk.inj hc
      clear hc HH
      have z0 := (C5.out.2 0 _ rfl).1
      have y0 := (C5.out.2 0 _ rfl).2
      have z1 := (C5.out.2 1 _ rfl).1
      have y1 := (C5.out.2 1 _ rfl).2
      have z2 := (C5.out.2 2 _ rfl).1
      have y2 := (C5.out.2 2 _ rfl).2
      have z3 := (C5.out.2 3 _ rfl).1
      have y3 := (C5.out.2 3 _ rfl).2
      have z4 := (C5.out.2 4 _ rfl).1
      have y4 := (C5.out.2 4 _ rfl).2
      have z5 := (C5.out.2 5 _ rfl).1
      have y5 := (C5.out.2 5 _ rfl).2
      have z6 := (C5.out.2 6 _ rfl).1
      have y6 := (C5.out.2 6 _ rfl).2
      have z7 := (C5.out.2 7 _ rfl).1
      have y7 := (C5.out.2 7 _ rfl).2
      have z8 := (C5.out.2 8 _ rfl).1
      have y8 := (C5.out.2 8 _ rfl).2
      have z9 := (C5.out.2 9 _ rfl).1
      have y9 := (C5.out.2 9 _ rfl).2
      have z10 := (C5.out.2 10 _ rfl).1
      have y10 := (C5.out.2 10 _ rfl).2
      go_wp2
      exact bodyPost_ret (v := .tuple #[.agg #[.string ⟨f1.toArray⟩, .int .i64 a2, .int .i64 a3, .int .i64 a5, .int .i64 a6, .int .i64 v6, .int .i64 d6, .int .i64 0, .int .i64 0, .int .i64 0, .string ⟨#[]⟩], .int .i64 b6]) (by simp (maxDischargeDepth := 9) [results, Tryz.results32, go_sem, z0, z1, z2, z3, z4, z5, z6, z7, z8, z9, z10]) rfl ⟨⟨f1, a2, a3, a5, a6, v6, d6, 0, 0, 0, []⟩, rfl, fun h => absurd h e0, by repeat (first | with_reducible exact B5.out | refine Below.setCell ?_ (by exact Nat.le_refl _) _)⟩
    subst e0
    have HH := Lib.hid (by have hc := HH.out; rw [if_neg (fun h => h rfl)] at hc; exact hc)
    have z4 := (C5.out.2 4 _ rfl).1
    have y4 := (C5.out.2 4 _ rfl).2
    have z5 := (C5.out.2 5 _ rfl).1
    have y5 := (C5.out.2 5 _ rfl).2
    have z6 := (C5.out.2 6 _ rfl).1
    have y6 := (C5.out.2 6 _ rfl).2
    go_wp2_with fail
    refine (Atf.aparse_to _ f7 a7 k7 b7 _ Z7.out (Lib.hid rfl) HA).mono ?_
    rintro e w6 ⟨rfl, m6⟩
    have D1 := C5.out.set 4 (by simp) (.int .i64 a6)
    simp only [List.set_cons_succ, List.set_cons_zero] at D1
    have D2 := D1.set 5 (by simp) (.int .i64 v6)
    simp only [List.set_cons_succ, List.set_cons_zero] at D2
    have D3 := D2.set 6 (by simp) (.int .i64 d6)
    simp only [List.set_cons_succ, List.set_cons_zero] at D3
    have C6 := Lib.hid (D3.below m6)
    clear D1 D2 D3
    have B6 : Hid (Below w.heap.size w w6) := Lib.hid (bstep (by repeat (first | with_reducible exact B5.out | refine Below.setCell ?_ (by exact Nat.le_refl _) _)) m6)
    clear z4 y4 z5 y5 z6 y6
    clear p7
    clear C5 m6
    have p8 := (B6.out.cell (p := ⟨bk, off + 8, none⟩) hbk).trans Q8.out
    by_cases e0 : b7 = 0
    case neg =>
      have x1 : (b7 == 0) = false := beq_eq_false_iff_ne.2 e0
      have x2 : (b7 != 0) = true := bne_iff_ne.2 e0
      have hc := HH.out
      rw [if_pos e0] at hc
      obtain ⟨rfl, _⟩ := Prod.mk.inj hc
      clear hc HH
      have z0 := (C6.out.2 0 _ rfl).1
      have y0 := (C6.out.2 0 _ rfl).2
      have z1 := (C6.out.2 1 _ rfl).1
      have y1 := (C6.out.2 1 _ rfl).2
      have z2 := (C6.out.2 2 _ rfl).1
      have y2 := (C6.out.2 2 _ rfl).2
      have z3 := (C6.out.2 3 _ rfl).1
      have y3 := (C6.out.2 3 _ rfl).2
      have z4 := (C6.out.2 4 _ rfl).1
      have y4 := (C6.out.2 4 _ rfl).2
      have z5 := (C6.out.2 5 _ rfl).1
      have y5 := (C6.out.2 5 _ rfl).2
      have z6 := (C6.out.2 6 _ rfl).1
      have y6 := (C6.out.2 6 _ rfl).2
      have z7 := (C6.out.2 7 _ rfl).1
      have y7 := (C6.out.2 7 _ rfl).2
      have z8 := (C6.out.2 8 _ rfl).1
      have y8 := (C6.out.2 8 _ rfl).2
      have z9 := (C6.out.2 9 _ rfl).1
      have y9 := (C6.out.2 9 _ rfl).2
      have z10 := (C6.out.2 10 _ rfl).1
      have y10 := (C6.out.2 10 _ rfl).2
      go_wp2
      exact bodyPost_ret (v := .tuple #[.agg #[.string ⟨f1.toArray⟩, .int .i64 a2, .int .i64 a3, .int .i64 a5, .int .i64 a6, .int .i64 v6, .int .i64 d6, .int .i64 a7, .int .i64 k7, .int .i64 0, .string ⟨#[]⟩], .int .i64 b7]) (by simp (maxDischargeDepth := 9) [results, Tryz.results32, go_sem, z0, z1, z2, z3, z4, z5, z6, z7, z8, z9, z10]) rfl ⟨⟨f1, a2, a3, a5, a6, v6, d6, a7, k7, 0, []⟩, rfl, fun h => absurd h e0, by repeat (first | with_reducible exact B6.out | refine Below.setCell ?_ (by exact Nat.le_refl _) _)⟩
    subst e0
    have HH := Lib.hid (by have hc := HH.out; rw [if_neg (fun h => h rfl)] at hc; exact hc)
    have z7 := (C6.out.2 7 _ rfl).1
    have y7 := (C6.out.2 7 _ rfl).2
    have z8 := (C6.out.2 8 _ rfl).1
    have y8 := (C6.out.2 8 _ rfl).2
    go_wp2_with fail
    refine (psave_to _ f8 a8 b8 _ Z8.out (Lib.hid rfl) HS).mono ?_
    rintro e w7 ⟨rfl, m7⟩
    have D1 := C6.out.set 7 (by simp) (.int .i64 a7)
    simp only [List.set_cons_succ, List.set_cons_zero] at D1
    have D2 := D1.set 8 (by simp) (.int .i64 k7)
    simp only [List.set_cons_succ, List.set_cons_zero] at D2
    have C7 := Lib.hid (D2.below m7)
    clear D1 D2
    have B7 : Hid (Below w.heap.size w w7) := Lib.hid (bstep (by repeat (first | with_reducible exact B6.out | refine Below.setCell ?_ (by exact Nat.le_refl _) _)) m7)
    clear z7 y7 z8 y8
    clear p8
    clear C6 m7
    have p9 := (B7.out.cell (p := ⟨bk, off + 9, none⟩) hbk).trans Q9.out
    by_cases e0 : b8 = 0
    case neg =>
      have x1 : (b8 == 0) = false := beq_eq_false_iff_ne.2 e0
      have x2 : (b8 != 0) = true := bne_iff_ne.2 e0
      have hc := HH.out
      rw [if_pos e0] at hc
      obtain ⟨rfl, _⟩ := Prod.mk.inj hc
      clear hc HH
      have z0 := (C7.out.2 0 _ rfl).1
      have y0 := (C7.out.2 0 _ rfl).2
      have z1 := (C7.out.2 1 _ rfl).1
      have y1 := (C7.out.2 1 _ rfl).2
      have z2 := (C7.out.2 2 _ rfl).1
      have y2 := (C7.out.2 2 _ rfl).2
      have z3 := (C7.out.2 3 _ rfl).1
      have y3 := (C7.out.2 3 _ rfl).2
      have z4 := (C7.out.2 4 _ rfl).1
      have y4 := (C7.out.2 4 _ rfl).2
      have z5 := (C7.out.2 5 _ rfl).1
      have y5 := (C7.out.2 5 _ rfl).2
      have z6 := (C7.out.2 6 _ rfl).1
      have y6 := (C7.out.2 6 _ rfl).2
      have z7 := (C7.out.2 7 _ rfl).1
      have y7 := (C7.out.2 7 _ rfl).2
      have z8 := (C7.out.2 8 _ rfl).1
      have y8 := (C7.out.2 8 _ rfl).2
      have z9 := (C7.out.2 9 _ rfl).1
      have y9 := (C7.out.2 9 _ rfl).2
      have z10 := (C7.out.2 10 _ rfl).1
      have y10 := (C7.out.2 10 _ rfl).2
      go_wp2
      exact bodyPost_ret (v := .tuple #[.agg #[.string ⟨f1.toArray⟩, .int .i64 a2, .int .i64 a3, .int .i64 a5, .int .i64 a6, .int .i64 v6, .int .i64 d6, .int .i64 a7, .int .i64 k7, .int .i64 a8, .string ⟨#[]⟩], .int .i64 b8]) (by simp (maxDischargeDepth := 9) [results, Tryz.results32, go_sem, z0, z1, z2, z3, z4, z5, z6, z7, z8, z9, z10]) rfl ⟨⟨f1, a2, a3, a5, a6, v6, d6, a7, k7, a8, []⟩, rfl, fun h => absurd h e0, by repeat (first | with_reducible exact B7.out | refine Below.setCell ?_ (by exact Nat.le_refl _) _)⟩
    subst e0
    have HH := Lib.hid (by have hc := HH.out; rw [if_neg (fun h => h rfl)] at hc; exact hc)
    obtain ⟨rfl, HR⟩ := Prod.mk.inj HH.out
    have HR := Lib.hid HR
    clear HH
    by_cases e0 : f9 = [45]
    case neg =>
      have x1 : (f9 == [45]) = false := beq_eq_false_iff_ne.2 e0
      have x2 : ((⟨f9.toArray⟩ : ByteArray).toList == [45]) = false := by rw [Lib.toList_data]; exact x1
      have x3 : ¬ (⟨f9.toArray⟩ : ByteArray).toList = [45] := by rw [Lib.toList_data]; exact e0
      have z0 := (C7.out.2 0 _ rfl).1
      have y0 := (C7.out.2 0 _ rfl).2
      have z1 := (C7.out.2 1 _ rfl).1
      have y1 := (C7.out.2 1 _ rfl).2
      have z2 := (C7.out.2 2 _ rfl).1
      have y2 := (C7.out.2 2 _ rfl).2
      have z3 := (C7.out.2 3 _ rfl).1
      have y3 := (C7.out.2 3 _ rfl).2
      have z4 := (C7.out.2 4 _ rfl).1
      have y4 := (C7.out.2 4 _ rfl).2
      have z5 := (C7.out.2 5 _ rfl).1
      have y5 := (C7.out.2 5 _ rfl).2
      have z6 := (C7.out.2 6 _ rfl).1
      have y6 := (C7.out.2 6 _ rfl).2
      have z7 := (C7.out.2 7 _ rfl).1
      have y7 := (C7.out.2 7 _ rfl).2
      have z8 := (C7.out.2 8 _ rfl).1
      have y8 := (C7.out.2 8 _ rfl).2
      have z9 := (C7.out.2 9 _ rfl).1
      have y9 := (C7.out.2 9 _ rfl).2
      have z10 := (C7.out.2 10 _ rfl).1
      have y10 := (C7.out.2 10 _ rfl).2
      go_wp2
      exact bodyPost_ret (v := .tuple #[.agg #[.string ⟨f1.toArray⟩, .int .i64 a2, .int .i64 a3, .int .i64 a5, .int .i64 a6, .int .i64 v6, .int .i64 d6, .int .i64 a7, .int .i64 k7, .int .i64 a8, .string ⟨f9.toArray⟩], .int .i64 0]) (by simp (maxDischargeDepth := 9) [results, Tryz.results32, go_sem, z0, z1, z2, z3, z4, z5, z6, z7, z8, z9, z10]) rfl ⟨⟨f1, a2, a3, a5, a6, v6, d6, a7, k7, a8, f9⟩, rfl, by first | exact fun _ => (by rw [← HR.out, if_neg e0]) | (rw [← HR.out, if_neg e0]), by repeat (first | with_reducible exact B7.out | refine Below.setCell ?_ (by exact Nat.le_refl _) _)⟩
    subst e0
    have z0 := (C7.out.2 0 _ rfl).1
    have y0 := (C7.out.2 0 _ rfl).2
    have z1 := (C7.out.2 1 _ rfl).1
    have y1 := (C7.out.2 1 _ rfl).2
    have z2 := (C7.out.2 2 _ rfl).1
    have y2 := (C7.out.2 2 _ rfl).2
    have z3 := (C7.out.2 3 _ rfl).1
    have y3 := (C7.out.2 3 _ rfl).2
    have z4 := (C7.out.2 4 _ rfl).1
    have y4 := (C7.out.2 4 _ rfl).2
    have z5 := (C7.out.2 5 _ rfl).1
    have y5 := (C7.out.2 5 _ rfl).2
    have z6 := (C7.out.2 6 _ rfl).1
    have y6 := (C7.out.2 6 _ rfl).2
    have z7 := (C7.out.2 7 _ rfl).1
    have y7 := (C7.out.2 7 _ rfl).2
    have z8 := (C7.out.2 8 _ rfl).1
    have y8 := (C7.out.2 8 _ rfl).2
    have z9 := (C7.out.2 9 _ rfl).1
    have y9 := (C7.out.2 9 _ rfl).2
    have z10 := (C7.out.2 10 _ rfl).1
    have y10 := (C7.out.2 10 _ rfl).2
    go_wp2
    exact bodyPost_ret (v := .tuple #[.agg #[.string ⟨f1.toArray⟩, .int .i64 a2, .int .i64 a3, .int .i64 a5, .int .i64 a6, .int .i64 v6, .int .i64 d6, .int .i64 a7, .int .i64 k7, .int .i64 a8, .string ⟨#[]⟩], .int .i64 0]) (by simp (maxDischargeDepth := 9) [results, Tryz.results32, go_sem, z0, z1, z2, z3, z4, z5, z6, z7, z8, z9, z10]) rfl ⟨⟨f1, a2, a3, a5, a6, v6, d6, a7, k7, a8, []⟩, rfl, by first | exact fun _ => (by rw [← HR.out]; simp) | (rw [← HR.out]; simp), by repeat (first | with_reducible exact B7.out | refine Below.setCell ?_ (by exact Nat.le_refl _) _)⟩
end Rul
end Go.Proofs.YtopmcelfmkeamaaGreatDoor
