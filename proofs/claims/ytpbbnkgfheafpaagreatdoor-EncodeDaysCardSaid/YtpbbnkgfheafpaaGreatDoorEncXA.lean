/-
  encode.On, its whole answer. (Written by gen/gen_encx.py.)
-/
import Derived.Test.YtpbbnkgfheafpaaGreatDoorEncXC
namespace Go.Proofs.YtpbbnkgfheafpaaGreatDoor
open Go.RowKit
namespace Enc
open Wk Cel
open Rcv (CV RecV LisV IntV DayV aggR)
open Ap (RowI Grew)
noncomputable def codeB : Code := (Tryz.f5.body.bind (from_ 9)).getD .skip
set_option maxHeartbeats 25600000 in
set_option maxRecDepth 100000 in
theorem eonA (month v d m : Int) (x : CV) (c : Int) (w w2 : World) (gm gr : Nat) (hgR : w.heap.size ≤ w.heap.size + 1) (d2 : gr ≠ w.heap.size + 1) (d3 : gr ≠ gm) (d4 : w.heap.size + 1 ≠ gm) (gw : w.heap.size ≤ gr) (_d1 : gr ≠ w.heap.size) 
    (HH : Hid (unO (if m = 0 then some (rcv month [(-1, v)] []) else none) = (x, c)))
    (O2 : Hid (Cs w.heap.size w2 [.int .i64 2, .int .i64 v, .int .i64 d])) (R2 : Hid (Cs (w.heap.size + 1) w2 [.int .i64 0, .int .i64 0, .int .i64 0, .bool false, .int .i64 0, .bool false, .slice none 0 0, .slice none 0 0, .slice none 0 0, .slice none 0 0, .slice none 0 0, .slice none 0 0, .slice none 0 0, .slice none 0 0, .slice none 0 0, .int .i64 0])) (M2 : Hid (Cs gm w2 [.int .i64 month])) (A2 : Hid (Cs gr w2 [.int .i64 7, .int .i64 1, .int .i64 0, .bool false, .int .i64 0, .bool false, .slice none 0 0, .slice none 0 0, .slice none 0 0, .slice none 0 0, .slice none 0 0, .slice none 0 0, .slice none 0 0, .slice (some ⟨gm, 0, none⟩) 1 1, .slice none 0 0, .int .i64 1])) (B2 : Hid (Below w.heap.size w w2))
    (x1 x3 x5 x7 x8 x10 x11 x12 x13 x14 x15 x16 x17 x18 x19 x20 x21 x22 x23 x24 x25 x26 x27 x28 x29 x30 x31 x32 x33 x34 x35 x36 x37 x38 x39 x40 x41 x42 x43 x44 x45 x46 x47 x48 x49 x50 x51 x52 x53 x54 x55 x56 x57 x58 x59 x60 x61 x62 x63 x64 x65 x66 x67 x68 x69 x70 x71 x72 x73 x74 x75 x76 x77 x78 x79 x80 x81 x82 x83 x84 x85 x86 x87 x88 x89 x90 x91 x92 x93 x94 x95 x96 x97 x98 x99 x100 x101 x102 x103 x104 x105 x106 x107 x108 x109 x110 x111 x112 x113 : Value) : Code.wp Tryz.prog codeB (bodyPost Tryz.prog Tryz.f5 (EonQ x c w)) ⟨List.toArray (.int .i64 month :: x1 :: .int .i64 m :: x3 :: .pointer (some ⟨w.heap.size, 0, none⟩) :: x5 :: .pointer (some ⟨w.heap.size + 1, 0, none⟩) :: x7 :: x8 :: .pointer (some ⟨gr, 0, none⟩) :: x10 :: x11 :: x12 :: x13 :: x14 :: x15 :: x16 :: x17 :: x18 :: x19 :: x20 :: x21 :: x22 :: x23 :: x24 :: x25 :: x26 :: x27 :: x28 :: x29 :: x30 :: x31 :: x32 :: x33 :: x34 :: x35 :: x36 :: x37 :: x38 :: x39 :: x40 :: x41 :: x42 :: x43 :: x44 :: x45 :: x46 :: x47 :: x48 :: x49 :: x50 :: x51 :: x52 :: x53 :: x54 :: x55 :: x56 :: x57 :: x58 :: x59 :: x60 :: x61 :: x62 :: x63 :: x64 :: x65 :: x66 :: x67 :: x68 :: x69 :: x70 :: x71 :: x72 :: x73 :: x74 :: x75 :: x76 :: x77 :: x78 :: x79 :: x80 :: x81 :: x82 :: x83 :: x84 :: x85 :: x86 :: x87 :: x88 :: x89 :: x90 :: x91 :: x92 :: x93 :: x94 :: x95 :: x96 :: x97 :: x98 :: x99 :: x100 :: x101 :: x102 :: x103 :: x104 :: x105 :: x106 :: x107 :: x108 :: x109 :: x110 :: x111 :: x112 :: x113 :: []), []⟩ w2 := by
  conv => arg 2; whnf
  have q0 := (O2.out.2 0 _ rfl).1
  have q1 := (O2.out.2 1 _ rfl).1
  have q2 := (O2.out.2 2 _ rfl).1
  by_cases em : m = 0
  case neg =>
    have x1 : (m == 0) = false := beq_eq_false_iff_ne.2 em
    have x2 : (m != 0) = true := bne_iff_ne.2 em
    have HF := Lib.hid (show (CV.zero, (17 : Int)) = (x, c) from by
      have q := HH.out
      rw [if_neg em] at q; exact q)
    clear HH
--<x
    obtain ⟨⟨s0, s1, s2, s3, s4, s5, s6, s7, s8, s9, s10, s11, s12, s13, s14, s15⟩, y0, y1, y2, y3, y4, y5, y6, y7, y8, y9, y10, y11, y12, y13, y14, y15⟩ := cells16 R2.out
    go_wp2
    refine bodyPost_ret (v := .tuple #[.agg #[.int .i64 0, .int .i64 0, .int .i64 0, .bool false, .int .i64 0, .bool false, .slice none 0 0, .slice none 0 0, .slice none 0 0, .slice none 0 0, .slice none 0 0, .slice none 0 0, .slice none 0 0, .slice none 0 0, .slice none 0 0, .int .i64 0], .int .i64 17]) (res_by (set16 R2.out _ _ _ _ _ _ _ _ _ _ _ _ _ _ _ _) (fun W h => by obtain ⟨⟨t0, t1, t2, t3, t4, t5, t6, t7, t8, t9, t10, t11, t12, t13, t14, t15⟩, _⟩ := cells16 h; simp [results, Tryz.results5, go_sem, t0, t1, t2, t3, t4, t5, t6, t7, t8, t9, t10, t11, t12, t13, t14, t15])) rfl ?_
    obtain ⟨rfl, rfl⟩ := Prod.mk.inj HF.out
    exact eon_no rfl rfl (below16 hgR B2.out _ _ _ _ _ _ _ _ _ _ _ _ _ _ _ _)
--x>
  subst em
  have HF := Lib.hid (show (rcv month [(-1, v)] [], (0 : Int)) = (x, c) from by
    have q := HH.out
    rw [if_pos rfl] at q; exact q)
  clear HH
  have r0 := A2.out.1
  have s9 := (A2.out.2 9 _ rfl).1
  have y9 := (A2.out.2 9 _ rfl).2
  go_upto_region 12 with fail
  go_cut [] (fun w3 => Hid (Cs gr w3 [.int .i64 7, .int .i64 1, .int .i64 0, .bool false, .int .i64 0, .bool false, .slice none 0 0, .slice none 0 0, .slice none 0 0, .slice (some ⟨w2.heap.size, 0, none⟩) 1 1, .slice none 0 0, .slice none 0 0, .slice none 0 0, .slice (some ⟨gm, 0, none⟩) 1 1, .slice none 0 0, .int .i64 1]) ∧ Hid (Cs w2.heap.size w3 [.int .i64 (-1), .int .i64 v]) ∧ Hid (Cs gm w3 [.int .i64 month]) ∧ Hid (Cs (w.heap.size + 1) w3 [.int .i64 0, .int .i64 0, .int .i64 0, .bool false, .int .i64 0, .bool false, .slice none 0 0, .slice none 0 0, .slice none 0 0, .slice none 0 0, .slice none 0 0, .slice none 0 0, .slice none 0 0, .slice none 0 0, .slice none 0 0, .int .i64 0]) ∧ Hid (Below w.heap.size w w3))
  case first =>
    go_wp2
    go_meet
    have D := A2.out.set 9 (by simp) (.slice (some ⟨w2.heap.size, 0, none⟩) 1 1)
    simp only [List.set_cons_succ, List.set_cons_zero] at D
    exact ⟨Lib.hid (D.alloc _), Lib.hid (cs_newset w2 _ _ _ _), Lib.hid ((M2.out.other d3 _).alloc _), Lib.hid ((R2.out.other d2 _).alloc _), Lib.hid ((B2.out.setCell gw _).alloc (by simpa [World.setCell] using B2.out.size) _)⟩
  case rest =>
  obtain ⟨w3, rfl⟩ : ∃ x : World, x = wc := ⟨_, rfl⟩
  obtain ⟨A3, D3, M3, R3, B3⟩ := hcut
  rename_i hK
  exact hK _ _ (eonC month v x c w w3 gm gr w2.heap.size hgR d4 (by have := R2.out.1; omega) HF A3 D3 M3 R3 B3 _ _ _ _ _ _ _ _ _ _ _ _ _ _ _ _ _ _ _ _ _ _ _ _ _ _ _ _ _ _ _ _ _ _ _ _ _ _ _ _ _ _ _ _ _ _ _ _ _ _ _ _ _ _ _ _ _ _ _ _ _ _ _ _ _ _ _ _ _ _ _ _ _ _ _ _ _ _ _ _ _ _ _ _ _ _ _ _ _ _ _ _ _ _ _ _ _ _ _ _ _ _ _ _ _ _ _ _ _ _ _ _ _)
end Enc
end Go.Proofs.YtpbbnkgfheafpaaGreatDoor
