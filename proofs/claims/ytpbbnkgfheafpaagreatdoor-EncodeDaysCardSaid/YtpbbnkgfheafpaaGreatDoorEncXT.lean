/-
  encode.On, its whole answer. (Written by gen/gen_encx.py.)
-/
import Derived.Test.YtpbbnkgfheafpaaGreatDoorEncXU
namespace Go.Proofs.YtpbbnkgfheafpaaGreatDoor
open Go.RowKit
namespace Enc
open Wk Cel
open Rcv (CV RecV LisV IntV DayV aggR)
open Ap (RowI Grew)
noncomputable def codeX : Code := (Tryz.f5.body.bind (from_ 18)).getD .skip
set_option maxHeartbeats 25600000 in
set_option maxRecDepth 100000 in
theorem eonT (month k v d m P T L : Int) (x : CV) (c : Int) (w w3 : World) (gm gr : Nat) (hv : 0 ≤ v ∧ v ≤ 6) (_e1 : -40 ≤ m) (_e1' : m ≤ 40) (bP : -50 ≤ P ∧ P ≤ 80) (bT : -50 ≤ T ∧ T ≤ 80) (hPT : k = 1 ∧ P = d + m ∨ k ≠ 1 ∧ T = P + 6) (f2 : 1 ≤ P) (hgR : w.heap.size ≤ w.heap.size + 1) (d2 : gr ≠ w.heap.size + 1) (d3 : gr ≠ gm) (d4 : w.heap.size + 1 ≠ gm) (gw : w.heap.size ≤ gr)
    (HH : Hid (unO (if k = 1 then some (rcv month [] [d + m]) else if P % 7 = 1 ∧ P ≤ 22 then some (rcv month [(P / 7 + 1, (v + m) % 7)] []) else some (rcv month [(0, (v + m) % 7)] (sevL P 7))) = (x, c)))
    (O3 : Hid (Cs w.heap.size w3 [.int .i64 k, .int .i64 v, .int .i64 d])) (R3 : Hid (Cs (w.heap.size + 1) w3 [.int .i64 0, .int .i64 0, .int .i64 0, .bool false, .int .i64 0, .bool false, .slice none 0 0, .slice none 0 0, .slice none 0 0, .slice none 0 0, .slice none 0 0, .slice none 0 0, .slice none 0 0, .slice none 0 0, .slice none 0 0, .int .i64 0])) (M3 : Hid (Cs gm w3 [.int .i64 month])) (A3 : Hid (Cs gr w3 [.int .i64 7, .int .i64 1, .int .i64 0, .bool false, .int .i64 0, .bool false, .slice none 0 0, .slice none 0 0, .slice none 0 0, .slice none 0 0, .slice none 0 0, .slice none 0 0, .slice none 0 0, .slice (some ⟨gm, 0, none⟩) 1 1, .slice none 0 0, .int .i64 1])) (B3 : Hid (Below w.heap.size w w3))
    (x1 x3 x5 x7 x8 x13 x14 x15 x16 x17 x18 x19 x20 x21 x22 x23 x24 x25 x26 x27 x28 x29 x30 x31 x32 x33 x34 x35 x36 x37 x38 x39 x40 x41 x42 x43 x44 x45 x46 x47 x48 x49 x50 x51 x52 x53 x54 x55 x56 x57 x58 x59 x60 x61 x62 x63 x64 x65 x66 x67 x68 x69 x70 x71 x72 x73 x74 x75 x76 x77 x78 x79 x80 x81 x82 x83 x84 x85 x86 x87 x88 x89 x90 x91 x92 x93 x94 x95 x96 x97 x98 x99 x100 x101 x102 x103 x104 x105 x106 x107 x108 x109 x110 x111 x112 x113 : Value) : Code.wp Tryz.prog codeX (bodyPost Tryz.prog Tryz.f5 (EonQ x c w)) ⟨List.toArray (.int .i64 month :: x1 :: .int .i64 m :: x3 :: .pointer (some ⟨w.heap.size, 0, none⟩) :: x5 :: .pointer (some ⟨w.heap.size + 1, 0, none⟩) :: x7 :: x8 :: .pointer (some ⟨gr, 0, none⟩) :: .int .i64 P :: .int .i64 T :: .int .i64 L :: x13 :: x14 :: x15 :: x16 :: x17 :: x18 :: x19 :: x20 :: x21 :: x22 :: x23 :: x24 :: x25 :: x26 :: x27 :: x28 :: x29 :: x30 :: x31 :: x32 :: x33 :: x34 :: x35 :: x36 :: x37 :: x38 :: x39 :: x40 :: x41 :: x42 :: x43 :: x44 :: x45 :: x46 :: x47 :: x48 :: x49 :: x50 :: x51 :: x52 :: x53 :: x54 :: x55 :: x56 :: x57 :: x58 :: x59 :: x60 :: x61 :: x62 :: x63 :: x64 :: x65 :: x66 :: x67 :: x68 :: x69 :: x70 :: x71 :: x72 :: x73 :: x74 :: x75 :: x76 :: x77 :: x78 :: x79 :: x80 :: x81 :: x82 :: x83 :: x84 :: x85 :: x86 :: x87 :: x88 :: x89 :: x90 :: x91 :: x92 :: x93 :: x94 :: x95 :: x96 :: x97 :: x98 :: x99 :: x100 :: x101 :: x102 :: x103 :: x104 :: x105 :: x106 :: x107 :: x108 :: x109 :: x110 :: x111 :: x112 :: x113 :: []), []⟩ w3 := by
  conv => arg 2; whnf
  have q0 := (O3.out.2 0 _ rfl).1
  have q1 := (O3.out.2 1 _ rfl).1
  have q2 := (O3.out.2 2 _ rfl).1
  have r0 := A3.out.1
  have d5 : w.heap.size + 1 ≠ w3.heap.size := by have := R3.out.1; omega
  have d6 : gr ≠ w3.heap.size := by have := A3.out.1; omega
--@1
  by_cases k1 : k = 1
  case pos =>
    have hP : P = d + m := by rcases hPT with ⟨_, q⟩ | ⟨q, _⟩; exact q; exact absurd k1 q
    have HF := Lib.hid (show (rcv month [] [P], (0 : Int)) = (x, c) from by
      have q := HH.out
      rw [if_pos k1, ← hP] at q; exact q)
    subst k1
    clear HH hP hPT
    have s9 := (A3.out.2 10 _ rfl).1
    have y9 := (A3.out.2 10 _ rfl).2
    go_upto_region 19 with fail
    go_cut [] (fun w4 => Hid (Cs gr w4 [.int .i64 7, .int .i64 1, .int .i64 0, .bool false, .int .i64 0, .bool false, .slice none 0 0, .slice none 0 0, .slice none 0 0, .slice none 0 0, .slice (some ⟨w3.heap.size, 0, none⟩) 1 1, .slice none 0 0, .slice none 0 0, .slice (some ⟨gm, 0, none⟩) 1 1, .slice none 0 0, .int .i64 1]) ∧ Hid (Cs w3.heap.size w4 [.int .i64 P]) ∧ Hid (Cs gm w4 [.int .i64 month]) ∧ Hid (Cs (w.heap.size + 1) w4 [.int .i64 0, .int .i64 0, .int .i64 0, .bool false, .int .i64 0, .bool false, .slice none 0 0, .slice none 0 0, .slice none 0 0, .slice none 0 0, .slice none 0 0, .slice none 0 0, .slice none 0 0, .slice none 0 0, .slice none 0 0, .int .i64 0]) ∧ Hid (Below w.heap.size w w4))
    case first =>
      go_wp2
      go_meet
      have D := A3.out.set 10 (by simp) (.slice (some ⟨w3.heap.size, 0, none⟩) 1 1)
      simp only [List.set_cons_succ, List.set_cons_zero] at D
      exact ⟨Lib.hid (D.alloc _), Lib.hid (cs_newset w3 _ _ _ _), Lib.hid ((M3.out.other d3 _).alloc _), Lib.hid ((R3.out.other d2 _).alloc _), Lib.hid ((B3.out.setCell gw _).alloc (by simpa [World.setCell] using B3.out.size) _)⟩
    case rest =>
    obtain ⟨w4, rfl⟩ : ∃ x : World, x = wc := ⟨_, rfl⟩
    obtain ⟨A4, D4, M4, R4, B4⟩ := hcut
    clear O3 R3 B3 M3 A3 r0 s9 y9 q0 q1 q2
--<x
    obtain ⟨⟨s0, s1, s2, s3, s4, s5, s6, s7, s8, s9, s10, s11, s12, s13, s14, s15⟩, y0, y1, y2, y3, y4, y5, y6, y7, y8, y9, y10, y11, y12, y13, y14, y15⟩ := cells16 R4.out
    obtain ⟨⟨z0, z1, z2, z3, z4, z5, z6, z7, z8, z9, z10, z11, z12, z13, z14, z15⟩, _⟩ := cells16 A4.out
    go_wp2
    refine bodyPost_ret (v := .tuple #[.agg #[.int .i64 7, .int .i64 1, .int .i64 0, .bool false, .int .i64 0, .bool false, .slice none 0 0, .slice none 0 0, .slice none 0 0, .slice none 0 0, .slice (some ⟨w3.heap.size, 0, none⟩) 1 1, .slice none 0 0, .slice none 0 0, .slice (some ⟨gm, 0, none⟩) 1 1, .slice none 0 0, .int .i64 1], .int .i64 0]) (res_by (set16 R4.out _ _ _ _ _ _ _ _ _ _ _ _ _ _ _ _) (fun W h => by obtain ⟨⟨t0, t1, t2, t3, t4, t5, t6, t7, t8, t9, t10, t11, t12, t13, t14, t15⟩, _⟩ := cells16 h; simp [results, Tryz.results5, go_sem, t0, t1, t2, t3, t4, t5, t6, t7, t8, t9, t10, t11, t12, t13, t14, t15])) rfl ?_
    obtain ⟨rfl, rfl⟩ := Prod.mk.inj HF.out
    exact eon_yes rfl (DayV.none _) (Rcv.int_one (other16 d5 D4.out _ _ _ _ _ _ _ _ _ _ _ _ _ _ _ _)) (other16 d4 M4.out _ _ _ _ _ _ _ _ _ _ _ _ _ _ _ _) (below16 hgR B4.out _ _ _ _ _ _ _ _ _ _ _ _ _ _ _ _)
--x>
  have hk1 : (k == 1) = false := beq_eq_false_iff_ne.2 k1
  have hT6 : T = P + 6 := by rcases hPT with ⟨q, _⟩ | ⟨_, q⟩; exact absurd q k1; exact q
  subst hT6
  have HH := Lib.hid (by
    have q := HH.out
    rw [if_neg k1] at q; exact q)
  clear hPT
  obtain ⟨M7, hM7⟩ : ∃ a, m.tmod 7 = a := ⟨_, rfl⟩
  have t1 := Int.tmod_lt_of_pos m (show (0 : Int) < 7 by decide)
  have t2 := Int.lt_tmod_of_pos m (show (0 : Int) < 7 by decide)
  obtain ⟨W, hW⟩ : ∃ a, (v + m) % 7 = a := ⟨_, rfl⟩
  have hWM : (v + M7) % 7 = W := by
    have := Int.tmod_add_mul_tdiv m 7
    omega
  rw [hM7] at t1 t2
  rw [hW] at HH
  have HWM := Lib.hid hWM
  have hv0 := hv.1
  have hv6 := hv.2
  clear hW hWM hv
  go_upto_region 21 with fail
  go_cut [13] (fun p w4 => BlkIs w3.heap.size w4 p [.int .i64 0, .int .i64 W] ∧ Hid (Cs gr w4 [.int .i64 7, .int .i64 1, .int .i64 0, .bool false, .int .i64 0, .bool false, .slice none 0 0, .slice none 0 0, .slice none 0 0, .slice none 0 0, .slice none 0 0, .slice none 0 0, .slice none 0 0, .slice (some ⟨gm, 0, none⟩) 1 1, .slice none 0 0, .int .i64 1]) ∧ Hid (Cs gm w4 [.int .i64 month]) ∧ Hid (Cs (w.heap.size + 1) w4 [.int .i64 0, .int .i64 0, .int .i64 0, .bool false, .int .i64 0, .bool false, .slice none 0 0, .slice none 0 0, .slice none 0 0, .slice none 0 0, .slice none 0 0, .slice none 0 0, .slice none 0 0, .slice none 0 0, .slice none 0 0, .int .i64 0]) ∧ Hid (Below w.heap.size w w4))
  case first =>
    go_wp2
    go_meet
    have hW2 : (v + M7 + 7) % 7 = W := by rw [← HWM.out]; omega
    first
      | rw [hW2]
      | rw [HWM.out]
    exact ⟨BlkIs.newer (Nat.le_refl _) _ _, Lib.hid (A3.out.alloc _), Lib.hid (M3.out.alloc _), Lib.hid (R3.out.alloc _), Lib.hid (B3.out.alloc B3.out.size _)⟩
  case rest =>
  obtain ⟨w4, rfl⟩ : ∃ x : World, x = wc := ⟨_, rfl⟩
  obtain ⟨⟨gd, rfl, gd1, hdd⟩, A4, M4, R4, B4⟩ := hcut
  have D4 := Lib.hid hdd
  have hrs := R3.out.1
  have hms := M3.out.1
  have e1 : gd ≠ gr := by omega
  have e2 : gd ≠ gm := by omega
  have e3 : gd ≠ w.heap.size + 1 := by omega
  have e4 : gr ≠ gd := fun q => e1 q.symm
  have gwd : w.heap.size ≤ gd := by omega
  clear hdd O3 R3 B3 M3 A3 r0 q0 q1 q2 hrs hms gd1 d5 d6 hM7
  rename_i hK
  exact hK _ _ (eonU month P W x c w w4 gm gr gd bP f2 hgR d2 d3 d4 gw e1 e2 e3 e4 gwd (Lib.hid (by have q := HH.out; exact q)) A4 D4 M4 R4 B4 _ _ _ _ _ _ _ _ _ _ _ _ _ _ _ _ _ _ _ _ _ _ _ _ _ _ _ _ _ _ _ _ _ _ _ _ _ _ _ _ _ _ _ _ _ _ _ _ _ _ _ _ _ _ _ _ _ _ _ _ _ _ _ _ _ _ _ _ _ _ _ _ _ _ _ _ _ _ _ _ _ _ _ _ _ _ _ _ _ _ _ _ _ _ _ _ _ _ _ _ _ _ _ _ _ _ _ _ _)
end Enc
end Go.Proofs.YtpbbnkgfheafpaaGreatDoor
