/-
  Contracts of package zone: parse, on 6 fields. (Written by gen/gen_zonp.py.)
-/
import Derived.Test.YthefgagmjamdkaaGreatDoorZonP
namespace Go.Proofs.YthefgagmjamdkaaGreatDoor
open Go.RowKit
namespace Zon
open Sol Clk Cel Rul
set_option maxHeartbeats 25600000 in
set_option maxRecDepth 100000 in
theorem zp6 (bk off cp : Nat) (f0 f1 f2 f3 f4 f5 : List UInt8) (c : Int) (r : EV) (w : World) (hm : Wrd.MaxL w) (hml : 0 < w.heap.size) (hbk : bk < w.heap.size)
    (q0 : w.cell? ⟨bk, off, none⟩ = some (.string ⟨f0.toArray⟩)) (l0 : f0.length ≤ 1000)
    (q1 : w.cell? ⟨bk, off + 1, none⟩ = some (.string ⟨f1.toArray⟩)) (l1 : f1.length ≤ 1000)
    (q2 : w.cell? ⟨bk, off + 2, none⟩ = some (.string ⟨f2.toArray⟩)) (l2 : f2.length ≤ 1000)
    (q3 : w.cell? ⟨bk, off + 3, none⟩ = some (.string ⟨f3.toArray⟩)) (l3 : f3.length ≤ 1000)
    (q4 : w.cell? ⟨bk, off + 4, none⟩ = some (.string ⟨f4.toArray⟩)) (l4 : f4.length ≤ 1000)
    (q5 : w.cell? ⟨bk, off + 5, none⟩ = some (.string ⟨f5.toArray⟩)) (l5 : f5.length ≤ 1000)
    (h : Hid (erX [f0, f1, f2, f3, f4, f5] = (c, r))) :
    Calls Tryz.prog 20 #[.slice (some ⟨bk, off, none⟩) 6 cp] w fun e w' => ∃ x : EV, e = .returned (.tuple #[x.val, .int .i64 c]) ∧ ((c : Int) = 0 → x = r) ∧ Below w.heap.size w w' := by
  have HM := Lib.hid hm
  clear hm
  have Q0 := Lib.hid q0
  have Z0 : Hid ((⟨f0.toArray⟩ : ByteArray).size ≤ 1000) := Lib.hid l0
  have Q1 := Lib.hid q1
  have Z1 : Hid ((⟨f1.toArray⟩ : ByteArray).size ≤ 1000) := Lib.hid l1
  have Q2 := Lib.hid q2
  have Z2 : Hid ((⟨f2.toArray⟩ : ByteArray).size ≤ 1000) := Lib.hid l2
  have Q3 := Lib.hid q3
  have Z3 : Hid ((⟨f3.toArray⟩ : ByteArray).size ≤ 1000) := Lib.hid l3
  have HQ : Hid (∀ W, Below w.heap.size w W → ∀ i f, ([f4, f5] : List (List UInt8))[i]? = some f → W.cell? ⟨bk, off + (4 + i), none⟩ = some (.string ⟨f.toArray⟩) ∧ f.length ≤ 1000) := Lib.hid fun W hb i f hf => by
    match i, hf with
    | 0, hf =>
      obtain rfl := Option.some.inj hf
      exact ⟨(hb.cell (p := ⟨bk, off + 4, none⟩) hbk).trans q4, l4⟩
    | 1, hf =>
      obtain rfl := Option.some.inj hf
      exact ⟨(hb.cell (p := ⟨bk, off + 5, none⟩) hbk).trans q5, l5⟩
    | i + 2, hf => simp at hf
  clear l0 l1 l2 l3 l4 l5 q1 q2 q3 q4 q5
  obtain ⟨a0, hA1⟩ : ∃ a, clV f0 = a := ⟨_, rfl⟩
  obtain ⟨b0, hA2⟩ : ∃ a, clE f0 = a := ⟨_, rfl⟩
  obtain ⟨k1, v1, t1, hS⟩ : ∃ a b d, svP f1 = (a, b, d) := ⟨_, _, _, rfl⟩
  obtain ⟨yb, hYB⟩ : ∃ a, parseB f3 = a := ⟨_, rfl⟩
  obtain ⟨yv, hYV⟩ : ∃ a, parseV f3 = a := ⟨_, rfl⟩
  obtain ⟨ua, mo, k, v, d, n, ak, hU⟩ : ∃ a b c d e f g, unX [f4, f5] = (a, (b, (c, d, e), (f, g))) := ⟨_, _, _, _, _, _, _, rfl⟩
  have HH := h.out
  rw [erX, if_neg (by simp)] at HH
  simp only [hA1, hA2, hS, hYB, hYV, hU] at HH
  have HA := Lib.hid (And.intro hA1 hA2)
  have HS := Lib.hid hS
  have HYB := Lib.hid hYB
  have HYV := Lib.hid hYV
  have HU := Lib.hid hU
  have HH := Lib.hid HH
  clear h hA1 hA2 hS hYB hYV hU
  have n1 : w.heap.size ≠ bk := by omega
  have n2 : bk ≠ w.heap.size := by omega
  have C0 : Cs w.heap.size (w.alloc (Obj.cells #[.int .i64 0, .int .i64 0, .int .i64 0, .string ⟨#[]⟩, .string ⟨#[]⟩, .bool false, .int .i64 0, .int .i64 0, .int .i64 0, .int .i64 0, .int .i64 0, .int .i64 0, .int .i64 0] 30)) [.int .i64 0, .int .i64 0, .int .i64 0, .string ⟨#[]⟩, .string ⟨#[]⟩, .bool false, .int .i64 0, .int .i64 0, .int .i64 0, .int .i64 0, .int .i64 0, .int .i64 0, .int .i64 0] := Cs.new _ _ _
  go_enter Tryz.func20, Tryz.ntmps20
  go_wp2_with fail
  refine (cpb_to _ f0 a0 b0 _ Z0.out (Lib.hid rfl) HA).mono ?_
  rintro e w1 ⟨rfl, m1⟩
  have C1 := Lib.hid (C0.below m1)
  have B1 := Lib.hid (bstep ((Below.refl w.heap.size w).alloc (Nat.le_refl _) _) m1)
  clear C0 m1 q0
  have p1 := (B1.out.cell (p := ⟨bk, off + 1, none⟩) hbk).trans Q1.out
  by_cases e0 : b0 = 0
  case neg =>
    have x1 : (b0 == 0) = false := beq_eq_false_iff_ne.2 e0
    have x2 : (b0 != 0) = true := bne_iff_ne.2 e0
    have hc := HH.out
    rw [if_pos e0] at hc
    obtain ⟨rfl, _⟩ := Prod.mk.inj hc
    clear hc HH
    have z0 := (C1.out.2 0 _ rfl).1
    have y0 := (C1.out.2 0 _ rfl).2
    have z1 := (C1.out.2 1 _ rfl).1
    have y1 := (C1.out.2 1 _ rfl).2
    have z2 := (C1.out.2 2 _ rfl).1
    have y2 := (C1.out.2 2 _ rfl).2
    have z3 := (C1.out.2 3 _ rfl).1
    have y3 := (C1.out.2 3 _ rfl).2
    have z4 := (C1.out.2 4 _ rfl).1
    have y4 := (C1.out.2 4 _ rfl).2
    have z5 := (C1.out.2 5 _ rfl).1
    have y5 := (C1.out.2 5 _ rfl).2
    have z6 := (C1.out.2 6 _ rfl).1
    have y6 := (C1.out.2 6 _ rfl).2
    have z7 := (C1.out.2 7 _ rfl).1
    have y7 := (C1.out.2 7 _ rfl).2
    have z8 := (C1.out.2 8 _ rfl).1
    have y8 := (C1.out.2 8 _ rfl).2
    have z9 := (C1.out.2 9 _ rfl).1
    have y9 := (C1.out.2 9 _ rfl).2
    have z10 := (C1.out.2 10 _ rfl).1
    have y10 := (C1.out.2 10 _ rfl).2
    have z11 := (C1.out.2 11 _ rfl).1
    have y11 := (C1.out.2 11 _ rfl).2
    have z12 := (C1.out.2 12 _ rfl).1
    have y12 := (C1.out.2 12 _ rfl).2
    go_wp2
    exact bodyPost_ret (v := .tuple #[.agg #[.int .i64 a0, .int .i64 0, .int .i64 0, .string ⟨#[]⟩, .string ⟨#[]⟩, .bool false, .int .i64 0, .int .i64 0, .int .i64 0, .int .i64 0, .int .i64 0, .int .i64 0, .int .i64 0], .int .i64 b0]) (by simp (maxDischargeDepth := 9) [results, Tryz.results20, go_sem, z0, z1, z2, z3, z4, z5, z6, z7, z8, z9, z10, z11, z12]) rfl ⟨⟨a0, 0, 0, [], [], false, 0, 0, 0, 0, 0, 0, 0⟩, rfl, fun h => absurd h e0, by repeat (first | with_reducible exact B1.out | with_reducible refine Below.setCell ?_ (by exact Nat.le_refl _) _)⟩
  subst e0
  have HH := Lib.hid (by have hc := HH.out; rw [if_neg (fun h => h rfl)] at hc; exact hc)
  have z0 := (C1.out.2 0 _ rfl).1
  have y0 := (C1.out.2 0 _ rfl).2
  go_wp2_with fail
  refine (psv_to f1 k1 v1 t1 _ Z1.out HS).mono ?_
  rintro e w2 ⟨rfl, m2⟩
  have D1 := C1.out.set 0 (by simp) (.int .i64 a0)
  simp only [List.set_cons_zero] at D1
  have C2 := Lib.hid (D1.below m2)
  have B2 : Hid (Below w.heap.size w w2) := Lib.hid (bstep (by repeat (first | with_reducible exact B1.out | with_reducible refine Below.setCell ?_ (by exact Nat.le_refl _) _)) m2)
  clear D1 z0 y0 p1 C1 m2
  have p2 := (B2.out.cell (p := ⟨bk, off + 2, none⟩) hbk).trans Q2.out
  have p3 := (B2.out.cell (p := ⟨bk, off + 3, none⟩) hbk).trans Q3.out
  have z1 := (C2.out.2 1 _ rfl).1
  have y1 := (C2.out.2 1 _ rfl).2
  have z2 := (C2.out.2 2 _ rfl).1
  have y2 := (C2.out.2 2 _ rfl).2
  have z3 := (C2.out.2 3 _ rfl).1
  have y3 := (C2.out.2 3 _ rfl).2
  have z4 := (C2.out.2 4 _ rfl).1
  have y4 := (C2.out.2 4 _ rfl).2
  go_wp2_with fail
  refine (Clk.parse_to _ f3 yv yb _ (by have := Z3.out; unfold maxLen; omega) (Lib.hid rfl) HYV HYB).mono ?_
  rintro e w3 ⟨rfl, rfl⟩
  clear z1 y1 z2 y2 z3 y3 z4 y4
  cases yb with
  | false =>
    have hc := HH.out
    rw [if_pos rfl] at hc
    obtain ⟨rfl, _⟩ := Prod.mk.inj hc
    clear hc HH
    have z0 := (C2.out.2 0 _ rfl).1
    have y0 := (C2.out.2 0 _ rfl).2
    have z1 := (C2.out.2 1 _ rfl).1
    have y1 := (C2.out.2 1 _ rfl).2
    have z2 := (C2.out.2 2 _ rfl).1
    have y2 := (C2.out.2 2 _ rfl).2
    have z3 := (C2.out.2 3 _ rfl).1
    have y3 := (C2.out.2 3 _ rfl).2
    have z4 := (C2.out.2 4 _ rfl).1
    have y4 := (C2.out.2 4 _ rfl).2
    have z5 := (C2.out.2 5 _ rfl).1
    have y5 := (C2.out.2 5 _ rfl).2
    have z6 := (C2.out.2 6 _ rfl).1
    have y6 := (C2.out.2 6 _ rfl).2
    have z7 := (C2.out.2 7 _ rfl).1
    have y7 := (C2.out.2 7 _ rfl).2
    have z8 := (C2.out.2 8 _ rfl).1
    have y8 := (C2.out.2 8 _ rfl).2
    have z9 := (C2.out.2 9 _ rfl).1
    have y9 := (C2.out.2 9 _ rfl).2
    have z10 := (C2.out.2 10 _ rfl).1
    have y10 := (C2.out.2 10 _ rfl).2
    have z11 := (C2.out.2 11 _ rfl).1
    have y11 := (C2.out.2 11 _ rfl).2
    have z12 := (C2.out.2 12 _ rfl).1
    have y12 := (C2.out.2 12 _ rfl).2
    go_wp2
    exact bodyPost_ret (v := .tuple #[.agg #[.int .i64 a0, .int .i64 k1, .int .i64 v1, .string ⟨t1.toArray⟩, .string ⟨f2.toArray⟩, .bool false, .int .i64 0, .int .i64 0, .int .i64 0, .int .i64 0, .int .i64 0, .int .i64 0, .int .i64 0], .int .i64 5]) (by simp (maxDischargeDepth := 9) [results, Tryz.results20, go_sem, z0, z1, z2, z3, z4, z5, z6, z7, z8, z9, z10, z11, z12]) rfl ⟨⟨a0, k1, v1, t1, f2, false, 0, 0, 0, 0, 0, 0, 0⟩, rfl, fun h => absurd h (by decide), by repeat (first | with_reducible exact B2.out | with_reducible refine Below.setCell ?_ (by exact Nat.le_refl _) _)⟩
  | true =>
    have HH := Lib.hid (by have hc := HH.out; rw [if_neg (by decide)] at hc; exact hc)
    have z5 := (C2.out.2 5 _ rfl).1
    have y5 := (C2.out.2 5 _ rfl).2
    have z6 := (C2.out.2 6 _ rfl).1
    have y6 := (C2.out.2 6 _ rfl).2
    have E0 := C2.out.set 1 (by simp) (.int .i64 k1)
    simp only [List.set_cons_succ, List.set_cons_zero] at E0
    have E1 := E0.set 2 (by simp) (.int .i64 v1)
    simp only [List.set_cons_succ, List.set_cons_zero] at E1
    have E2 := E1.set 3 (by simp) (.string ⟨t1.toArray⟩)
    simp only [List.set_cons_succ, List.set_cons_zero] at E2
    have E3 := E2.set 4 (by simp) (.string ⟨f2.toArray⟩)
    simp only [List.set_cons_succ, List.set_cons_zero] at E3
    have E4 := E3.set 5 (by simp) (.bool true)
    simp only [List.set_cons_succ, List.set_cons_zero] at E4
    have E5 := E4.set 6 (by simp) (.int .i64 yv)
    simp only [List.set_cons_succ, List.set_cons_zero] at E5
    have EE := Lib.hid E5
    clear E0 E1 E2 E3 E4 E5
    go_wp2_with fail
    refine (pun_n 6 w.heap.size bk off cp [f4, f5] rfl ua mo k v d n ak _ _ _ _ _ _ _ _ _ _ _ _ _ _ (HM.out.stays (by repeat (first | with_reducible exact B2.out | with_reducible refine Below.setCell ?_ (by exact Nat.le_refl _) _))) hml EE.out hbk (by simp) (HQ.out _ (by repeat (first | with_reducible exact B2.out | with_reducible refine Below.setCell ?_ (by exact Nat.le_refl _) _))) HU).mono ?_
    rintro e w4 ⟨rfl, ⟨u7, u8, u9, u10, u11, u12, C4, hu⟩, m4⟩
    have C4 := Lib.hid C4
    have hu := Lib.hid hu
    have B4 : Hid (Below w.heap.size w w4) := Lib.hid (Below.trans (by repeat (first | with_reducible exact B2.out | with_reducible refine Below.setCell ?_ (by exact Nat.le_refl _) _)) m4)
    clear m4 EE z5 y5 z6 y6
    have z0 := (C4.out.2 0 _ rfl).1
    have y0 := (C4.out.2 0 _ rfl).2
    have z1 := (C4.out.2 1 _ rfl).1
    have y1 := (C4.out.2 1 _ rfl).2
    have z2 := (C4.out.2 2 _ rfl).1
    have y2 := (C4.out.2 2 _ rfl).2
    have z3 := (C4.out.2 3 _ rfl).1
    have y3 := (C4.out.2 3 _ rfl).2
    have z4 := (C4.out.2 4 _ rfl).1
    have y4 := (C4.out.2 4 _ rfl).2
    have z5 := (C4.out.2 5 _ rfl).1
    have y5 := (C4.out.2 5 _ rfl).2
    have z6 := (C4.out.2 6 _ rfl).1
    have y6 := (C4.out.2 6 _ rfl).2
    have z7 := (C4.out.2 7 _ rfl).1
    have y7 := (C4.out.2 7 _ rfl).2
    have z8 := (C4.out.2 8 _ rfl).1
    have y8 := (C4.out.2 8 _ rfl).2
    have z9 := (C4.out.2 9 _ rfl).1
    have y9 := (C4.out.2 9 _ rfl).2
    have z10 := (C4.out.2 10 _ rfl).1
    have y10 := (C4.out.2 10 _ rfl).2
    have z11 := (C4.out.2 11 _ rfl).1
    have y11 := (C4.out.2 11 _ rfl).2
    have z12 := (C4.out.2 12 _ rfl).1
    have y12 := (C4.out.2 12 _ rfl).2
    go_wp2
    by_cases e0 : ua = 0
    · subst e0
      obtain ⟨rfl, rfl, rfl, rfl, rfl, rfl⟩ := hu.out rfl
      have hc := HH.out
      rw [if_neg (fun h => h rfl)] at hc
      obtain ⟨rfl, HR⟩ := Prod.mk.inj hc
      exact bodyPost_ret (v := .tuple #[.agg #[.int .i64 a0, .int .i64 k1, .int .i64 v1, .string ⟨t1.toArray⟩, .string ⟨f2.toArray⟩, .bool true, .int .i64 yv, .int .i64 u7, .int .i64 u8, .int .i64 u9, .int .i64 u10, .int .i64 u11, .int .i64 u12], .int .i64 0]) (by simp (maxDischargeDepth := 9) [results, Tryz.results20, go_sem, z0, z1, z2, z3, z4, z5, z6, z7, z8, z9, z10, z11, z12]) rfl ⟨⟨a0, k1, v1, t1, f2, true, yv, u7, u8, u9, u10, u11, u12⟩, rfl, fun _ => HR, by repeat (first | with_reducible exact B4.out | with_reducible refine Below.setCell ?_ (by exact Nat.le_refl _) _)⟩
    · have hc := HH.out
      rw [if_pos e0] at hc
      obtain ⟨rfl, _⟩ := Prod.mk.inj hc
      exact bodyPost_ret (v := .tuple #[.agg #[.int .i64 a0, .int .i64 k1, .int .i64 v1, .string ⟨t1.toArray⟩, .string ⟨f2.toArray⟩, .bool true, .int .i64 yv, .int .i64 u7, .int .i64 u8, .int .i64 u9, .int .i64 u10, .int .i64 u11, .int .i64 u12], .int .i64 ua]) (by simp (maxDischargeDepth := 9) [results, Tryz.results20, go_sem, z0, z1, z2, z3, z4, z5, z6, z7, z8, z9, z10, z11, z12]) rfl ⟨⟨a0, k1, v1, t1, f2, true, yv, u7, u8, u9, u10, u11, u12⟩, rfl, fun h => absurd h e0, by repeat (first | with_reducible exact B4.out | with_reducible refine Below.setCell ?_ (by exact Nat.le_refl _) _)⟩
end Zon
end Go.Proofs.YthefgagmjamdkaaGreatDoor
