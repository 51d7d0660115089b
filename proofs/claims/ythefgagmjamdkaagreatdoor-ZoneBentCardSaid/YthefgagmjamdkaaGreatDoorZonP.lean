/-
  Contracts of package zone: parse, on three to seven fields. (Written by gen/gen_zonp.py.)
-/
import Derived.Test.YthefgagmjamdkaaGreatDoorBdM
namespace Go.Proofs.YthefgagmjamdkaaGreatDoor
open Go.RowKit
namespace Zon
open Sol Clk Cel Rul
theorem cpb_to (s : ByteArray) (L : List UInt8) (v c : Int) (w : World) (hs : s.size ≤ 1000) (hL : Hid (s.data.toList = L)) (h : Hid (clV L = v ∧ clE L = c)) :
    Calls Tryz.prog 49 #[.string s] w fun e w' => e = .returned (.tuple #[.int .i64 v, .int .i64 c]) ∧ Below w.heap.size w w' :=
  (cparse_to s L v c w (by unfold maxLen; omega) hL h).mono fun _ _ ⟨he, n, hw⟩ => ⟨he, by rw [hw]; exact below_drewN (Below.refl _ _) n⟩
theorem pun_n (N g bk off cp : Nat) (Q : List (List UInt8)) (hN : N = 4 + Q.length) (a mo k v d n c : Int) (v0 v1 v2 v3 v4 v5 v6 o7 o8 o9 o10 o11 o12 : Value) (w : World) (hm : Wrd.MaxL w) (hml : 0 < g) (hC : Cs g w [v0, v1, v2, v3, v4, v5, v6, o7, o8, o9, o10, o11, o12]) (hg : bk < g) (hl : Q.length ≤ 3)
    (hq : ∀ i f, Q[i]? = some f → w.cell? ⟨bk, off + (4 + i), none⟩ = some (.string ⟨f.toArray⟩) ∧ f.length ≤ 1000) (h : Hid (unX Q = (a, (mo, (k, v, d), (n, c))))) :
    Calls Tryz.prog 52 #[.pointer (some ⟨g, 0, none⟩), .slice (some ⟨bk, off, none⟩) N cp] w fun e w' => e = .returned (.int .i64 a) ∧ (∃ u7 u8 u9 u10 u11 u12 : Int, Cs g w' [v0, v1, v2, v3, v4, v5, v6, .int .i64 u7, .int .i64 u8, .int .i64 u9, .int .i64 u10, .int .i64 u11, .int .i64 u12] ∧ (a = 0 → u7 = mo ∧ u8 = k ∧ u9 = v ∧ u10 = d ∧ u11 = n ∧ u12 = c)) ∧ Below g w w' := by
  subst hN
  exact pun_to g bk off cp Q a mo k v d n c v0 v1 v2 v3 v4 v5 v6 o7 o8 o9 o10 o11 o12 w hm hml hC hg hl hq h
set_option maxHeartbeats 25600000 in
set_option maxRecDepth 100000 in
theorem zp_lo (a : Option Addr) (n cp : Nat) (r : EV) (w : World) (h : n ≤ 2) :
    Calls Tryz.prog 20 #[.slice a n cp] w fun e w' => ∃ x : EV, e = .returned (.tuple #[x.val, .int .i64 6]) ∧ ((6 : Int) = 0 → x = r) ∧ Below w.heap.size w w' := by
  have x1 : ((n : Nat) : Int) ≤ 2 := by omega
  have C1 : Cs w.heap.size (w.alloc (Obj.cells #[.int .i64 0, .int .i64 0, .int .i64 0, .string ⟨#[]⟩, .string ⟨#[]⟩, .bool false, .int .i64 0, .int .i64 0, .int .i64 0, .int .i64 0, .int .i64 0, .int .i64 0, .int .i64 0] 30)) [.int .i64 0, .int .i64 0, .int .i64 0, .string ⟨#[]⟩, .string ⟨#[]⟩, .bool false, .int .i64 0, .int .i64 0, .int .i64 0, .int .i64 0, .int .i64 0, .int .i64 0, .int .i64 0] := Cs.new _ _ _
  have z0 := (C1.2 0 _ rfl).1
  have z1 := (C1.2 1 _ rfl).1
  have z2 := (C1.2 2 _ rfl).1
  have z3 := (C1.2 3 _ rfl).1
  have z4 := (C1.2 4 _ rfl).1
  have z5 := (C1.2 5 _ rfl).1
  have z6 := (C1.2 6 _ rfl).1
  have z7 := (C1.2 7 _ rfl).1
  have z8 := (C1.2 8 _ rfl).1
  have z9 := (C1.2 9 _ rfl).1
  have z10 := (C1.2 10 _ rfl).1
  have z11 := (C1.2 11 _ rfl).1
  have z12 := (C1.2 12 _ rfl).1
  clear C1
  go_enter Tryz.func20, Tryz.ntmps20
  go_wp2
  exact bodyPost_ret (v := .tuple #[.agg #[.int .i64 0, .int .i64 0, .int .i64 0, .string ⟨#[]⟩, .string ⟨#[]⟩, .bool false, .int .i64 0, .int .i64 0, .int .i64 0, .int .i64 0, .int .i64 0, .int .i64 0, .int .i64 0], .int .i64 6]) (by simp [results, Tryz.results20, go_sem, z0, z1, z2, z3, z4, z5, z6, z7, z8, z9, z10, z11, z12]) rfl (by first | exact ⟨⟨0, 0, 0, [], [], false, 0, 0, 0, 0, 0, 0, 0⟩, rfl, fun h => absurd h (by decide), (Below.refl _ _).alloc (Nat.le_refl _) _⟩ | trace_state)
set_option maxHeartbeats 25600000 in
set_option maxRecDepth 100000 in
theorem zp_hi (a : Option Addr) (n cp : Nat) (r : EV) (w : World) (h : 7 < n) (_h2 : n ≤ 1000000) :
    Calls Tryz.prog 20 #[.slice a n cp] w fun e w' => ∃ x : EV, e = .returned (.tuple #[x.val, .int .i64 6]) ∧ ((6 : Int) = 0 → x = r) ∧ Below w.heap.size w w' := by
  have x1 : ¬ n ≤ 2 := by omega
  have x3 : decide (((n : Nat) : Int) ≤ 2) = false := decide_eq_false (by omega)
  have x2 : decide ((7 : Int) < ((n : Nat) : Int)) = true := decide_eq_true (by omega)
  have C1 : Cs w.heap.size (w.alloc (Obj.cells #[.int .i64 0, .int .i64 0, .int .i64 0, .string ⟨#[]⟩, .string ⟨#[]⟩, .bool false, .int .i64 0, .int .i64 0, .int .i64 0, .int .i64 0, .int .i64 0, .int .i64 0, .int .i64 0] 30)) [.int .i64 0, .int .i64 0, .int .i64 0, .string ⟨#[]⟩, .string ⟨#[]⟩, .bool false, .int .i64 0, .int .i64 0, .int .i64 0, .int .i64 0, .int .i64 0, .int .i64 0, .int .i64 0] := Cs.new _ _ _
  have z0 := (C1.2 0 _ rfl).1
  have z1 := (C1.2 1 _ rfl).1
  have z2 := (C1.2 2 _ rfl).1
  have z3 := (C1.2 3 _ rfl).1
  have z4 := (C1.2 4 _ rfl).1
  have z5 := (C1.2 5 _ rfl).1
  have z6 := (C1.2 6 _ rfl).1
  have z7 := (C1.2 7 _ rfl).1
  have z8 := (C1.2 8 _ rfl).1
  have z9 := (C1.2 9 _ rfl).1
  have z10 := (C1.2 10 _ rfl).1
  have z11 := (C1.2 11 _ rfl).1
  have z12 := (C1.2 12 _ rfl).1
  clear C1
  go_enter Tryz.func20, Tryz.ntmps20
  go_wp2
  exact bodyPost_ret (v := .tuple #[.agg #[.int .i64 0, .int .i64 0, .int .i64 0, .string ⟨#[]⟩, .string ⟨#[]⟩, .bool false, .int .i64 0, .int .i64 0, .int .i64 0, .int .i64 0, .int .i64 0, .int .i64 0, .int .i64 0], .int .i64 6]) (by simp [results, Tryz.results20, go_sem, z0, z1, z2, z3, z4, z5, z6, z7, z8, z9, z10, z11, z12]) rfl (by first | exact ⟨⟨0, 0, 0, [], [], false, 0, 0, 0, 0, 0, 0, 0⟩, rfl, fun h => absurd h (by decide), (Below.refl _ _).alloc (Nat.le_refl _) _⟩ | trace_state)
set_option maxHeartbeats 25600000 in
set_option maxRecDepth 100000 in
theorem zp3 (bk off cp : Nat) (f0 f1 f2 : List UInt8) (c : Int) (r : EV) (w : World) (hbk : bk < w.heap.size)
    (q0 : w.cell? ⟨bk, off, none⟩ = some (.string ⟨f0.toArray⟩)) (l0 : f0.length ≤ 1000)
    (q1 : w.cell? ⟨bk, off + 1, none⟩ = some (.string ⟨f1.toArray⟩)) (l1 : f1.length ≤ 1000)
    (q2 : w.cell? ⟨bk, off + 2, none⟩ = some (.string ⟨f2.toArray⟩)) (l2 : f2.length ≤ 1000)
    (h : Hid (erX [f0, f1, f2] = (c, r))) :
    Calls Tryz.prog 20 #[.slice (some ⟨bk, off, none⟩) 3 cp] w fun e w' => ∃ x : EV, e = .returned (.tuple #[x.val, .int .i64 c]) ∧ ((c : Int) = 0 → x = r) ∧ Below w.heap.size w w' := by
  have Q0 := Lib.hid q0
  have Z0 : Hid ((⟨f0.toArray⟩ : ByteArray).size ≤ 1000) := Lib.hid l0
  have Q1 := Lib.hid q1
  have Z1 : Hid ((⟨f1.toArray⟩ : ByteArray).size ≤ 1000) := Lib.hid l1
  have Q2 := Lib.hid q2
  have Z2 : Hid ((⟨f2.toArray⟩ : ByteArray).size ≤ 1000) := Lib.hid l2
  clear l0 l1 l2 q1 q2
  obtain ⟨a0, hA1⟩ : ∃ a, clV f0 = a := ⟨_, rfl⟩
  obtain ⟨b0, hA2⟩ : ∃ a, clE f0 = a := ⟨_, rfl⟩
  obtain ⟨k1, v1, t1, hS⟩ : ∃ a b d, svP f1 = (a, b, d) := ⟨_, _, _, rfl⟩
  have HH := h.out
  rw [erX, if_neg (by simp)] at HH
  simp only [hA1, hA2, hS] at HH
  have HA := Lib.hid (And.intro hA1 hA2)
  have HS := Lib.hid hS
  have HH := Lib.hid HH
  clear h hA1 hA2 hS
  have n1 : w.heap.size ≠ bk := by omega
  have n2 : bk ≠ w.heap.size := by omega
  have C0 : Cs w.heap.size (w.alloc (Obj.cells #[.int .i64 0, .int .i64 0, .int .i64 0, .string ⟨#[]⟩, .string ⟨#[]⟩, .bool false, .int .i64 0, .int .i64 0, .int .i64 0, .int .i64 0, .int .i64 0, .int .i64 0, .int .i64 0] 30)) [.int .i64 0, .int .i64 0, .int .i64 0, .string ⟨#[]⟩, .string ⟨#[]⟩, .bool false, .int .i64 0, .int .i64 0, .int .i64 0, .int .i64 0, .int .i64 0, .int .i64 0, .int .i64 0] := Cs.new _ _ _
  go_enter Tryz.func20, Tryz.ntmps20
  go_wp2_with fail
  refine (cpb_to _ f0 a0 b0 _ Z0.out (Lib.hid rfl) HA).mono ?_
  rintro e w1 ⟨rfl, m1⟩
  have C1 := Lib.hid (C0.below m1)
  have B1 := Lib.hid (bstep ((Below.refl w.heap.size w).alloc (Nat.le_refl _) _) m1)
  clear C0 m1 q0
  have p1 := (B1.out.cell (p := ⟨bk, off + 1, none⟩) hbk).trans Q1.out
  by_cases e0 : b0 = 0
  case neg =>
    have x1 : (b0 == 0) = false := beq_eq_false_iff_ne.2 e0
    have x2 : (b0 != 0) = true := bne_iff_ne.2 e0
    have hc := HH.out
    rw [if_pos e0] at hc
    obtain ⟨rfl, _⟩ := Prod.mk.inj hc
    clear hc HH
    have z0 := (C1.out.2 0 _ rfl).1
    have y0 := (C1.out.2 0 _ rfl).2
    have z1 := (C1.out.2 1 _ rfl).1
    have y1 := (C1.out.2 1 _ rfl).2
    have z2 := (C1.out.2 2 _ rfl).1
    have y2 := (C1.out.2 2 _ rfl).2
    have z3 := (C1.out.2 3 _ rfl).1
    have y3 := (C1.out.2 3 _ rfl).2
    have z4 := (C1.out.2 4 _ rfl).1
    have y4 := (C1.out.2 4 _ rfl).2
    have z5 := (C1.out.2 5 _ rfl).1
    have y5 := (C1.out.2 5 _ rfl).2
    have z6 := (C1.out.2 6 _ rfl).1
    have y6 := (C1.out.2 6 _ rfl).2
    have z7 := (C1.out.2 7 _ rfl).1
    have y7 := (C1.out.2 7 _ rfl).2
    have z8 := (C1.out.2 8 _ rfl).1
    have y8 := (C1.out.2 8 _ rfl).2
    have z9 := (C1.out.2 9 _ rfl).1
    have y9 := (C1.out.2 9 _ rfl).2
    have z10 := (C1.out.2 10 _ rfl).1
    have y10 := (C1.out.2 10 _ rfl).2
    have z11 := (C1.out.2 11 _ rfl).1
    have y11 := (C1.out.2 11 _ rfl).2
    have z12 := (C1.out.2 12 _ rfl).1
    have y12 := (C1.out.2 12 _ rfl).2
    go_wp2
    exact bodyPost_ret (v := .tuple #[.agg #[.int .i64 a0, .int .i64 0, .int .i64 0, .string ⟨#[]⟩, .string ⟨#[]⟩, .bool false, .int .i64 0, .int .i64 0, .int .i64 0, .int .i64 0, .int .i64 0, .int .i64 0, .int .i64 0], .int .i64 b0]) (by simp (maxDischargeDepth := 9) [results, Tryz.results20, go_sem, z0, z1, z2, z3, z4, z5, z6, z7, z8, z9, z10, z11, z12]) rfl ⟨⟨a0, 0, 0, [], [], false, 0, 0, 0, 0, 0, 0, 0⟩, rfl, fun h => absurd h e0, by repeat (first | with_reducible exact B1.out | with_reducible refine Below.setCell ?_ (by exact Nat.le_refl _) _)⟩
  subst e0
  have HH := Lib.hid (by have hc := HH.out; rw [if_neg (fun h => h rfl)] at hc; exact hc)
  have z0 := (C1.out.2 0 _ rfl).1
  have y0 := (C1.out.2 0 _ rfl).2
  go_wp2_with fail
  refine (psv_to f1 k1 v1 t1 _ Z1.out HS).mono ?_
  rintro e w2 ⟨rfl, m2⟩
  have D1 := C1.out.set 0 (by simp) (.int .i64 a0)
  simp only [List.set_cons_zero] at D1
  have C2 := Lib.hid (D1.below m2)
  have B2 : Hid (Below w.heap.size w w2) := Lib.hid (bstep (by repeat (first | with_reducible exact B1.out | with_reducible refine Below.setCell ?_ (by exact Nat.le_refl _) _)) m2)
  clear D1 z0 y0 p1 C1 m2
  have p2 := (B2.out.cell (p := ⟨bk, off + 2, none⟩) hbk).trans Q2.out
  obtain ⟨rfl, HR⟩ := Prod.mk.inj HH.out
  have HR := Lib.hid HR
  clear HH
  have z0 := (C2.out.2 0 _ rfl).1
  have y0 := (C2.out.2 0 _ rfl).2
  have z1 := (C2.out.2 1 _ rfl).1
  have y1 := (C2.out.2 1 _ rfl).2
  have z2 := (C2.out.2 2 _ rfl).1
  have y2 := (C2.out.2 2 _ rfl).2
  have z3 := (C2.out.2 3 _ rfl).1
  have y3 := (C2.out.2 3 _ rfl).2
  have z4 := (C2.out.2 4 _ rfl).1
  have y4 := (C2.out.2 4 _ rfl).2
  have z5 := (C2.out.2 5 _ rfl).1
  have y5 := (C2.out.2 5 _ rfl).2
  have z6 := (C2.out.2 6 _ rfl).1
  have y6 := (C2.out.2 6 _ rfl).2
  have z7 := (C2.out.2 7 _ rfl).1
  have y7 := (C2.out.2 7 _ rfl).2
  have z8 := (C2.out.2 8 _ rfl).1
  have y8 := (C2.out.2 8 _ rfl).2
  have z9 := (C2.out.2 9 _ rfl).1
  have y9 := (C2.out.2 9 _ rfl).2
  have z10 := (C2.out.2 10 _ rfl).1
  have y10 := (C2.out.2 10 _ rfl).2
  have z11 := (C2.out.2 11 _ rfl).1
  have y11 := (C2.out.2 11 _ rfl).2
  have z12 := (C2.out.2 12 _ rfl).1
  have y12 := (C2.out.2 12 _ rfl).2
  go_wp2
  exact bodyPost_ret (v := .tuple #[.agg #[.int .i64 a0, .int .i64 k1, .int .i64 v1, .string ⟨t1.toArray⟩, .string ⟨f2.toArray⟩, .bool false, .int .i64 0, .int .i64 0, .int .i64 0, .int .i64 0, .int .i64 0, .int .i64 0, .int .i64 0], .int .i64 0]) (by simp (maxDischargeDepth := 9) [results, Tryz.results20, go_sem, z0, z1, z2, z3, z4, z5, z6, z7, z8, z9, z10, z11, z12]) rfl ⟨⟨a0, k1, v1, t1, f2, false, 0, 0, 0, 0, 0, 0, 0⟩, rfl, by first | exact fun _ => HR.out | exact HR.out, by repeat (first | with_reducible exact B2.out | with_reducible refine Below.setCell ?_ (by exact Nat.le_refl _) _)⟩
end Zon
end Go.Proofs.YthefgagmjamdkaaGreatDoor
