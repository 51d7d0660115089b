/-
  encode.On, its whole answer. (Written by gen/gen_encx.py.)
-/
import Derived.Test.YtpbbnkgfheafpaaGreatDoorEncH
namespace Go.Proofs.YtpbbnkgfheafpaaGreatDoor
open Go.RowKit
namespace Enc
open Wk Cel
open Rcv (CV RecV LisV IntV DayV aggR)
open Ap (RowI Grew)
noncomputable def codeV : Code := (Tryz.f5.body.bind (from_ 28)).getD .skip
set_option maxHeartbeats 25600000 in
set_option maxRecDepth 100000 in
theorem eonV (month NM W : Int) (MD : List Int) (mA : Option Addr) (mn mc B5_ : Nat) (x : CV) (c : Int) (w w5 : World) (gm gr gd : Nat) (hgR : w.heap.size ≤ w.heap.size + 1) (d2 : gr ≠ w.heap.size + 1) (d3 : gr ≠ gm) (d4 : w.heap.size + 1 ≠ gm) (gw : w.heap.size ≤ gr) (hgr4 : gr < B5_) (hgR4 : w.heap.size + 1 < B5_) (HF : Hid ((rcv month [(NM, W)] MD, (0 : Int)) = (x, c)))
    (A5 : Hid (Cs gr w5 [.int .i64 7, .int .i64 1, .int .i64 0, .bool false, .int .i64 0, .bool false, .slice none 0 0, .slice none 0 0, .slice none 0 0, .slice none 0 0, .slice mA mn mc, .slice none 0 0, .slice none 0 0, .slice (some ⟨gm, 0, none⟩) 1 1, .slice none 0 0, .int .i64 1])) (HR5 : Hid (RowI B5_ w5 (.slice mA mn mc) MD)) (D5 : Hid (Cs gd w5 [.int .i64 NM, .int .i64 W])) (M5 : Hid (Cs gm w5 [.int .i64 month])) (R5 : Hid (Cs (w.heap.size + 1) w5 [.int .i64 0, .int .i64 0, .int .i64 0, .bool false, .int .i64 0, .bool false, .slice none 0 0, .slice none 0 0, .slice none 0 0, .slice none 0 0, .slice none 0 0, .slice none 0 0, .slice none 0 0, .slice none 0 0, .slice none 0 0, .int .i64 0])) (B5 : Hid (Below w.heap.size w w5))
    (x0 x1 x2 x3 x4 x5 x7 x8 x10 x11 x12 x14 x15 x16 x17 x18 x19 x20 x21 x22 x23 x24 x25 x26 x27 x28 x29 x30 x31 x32 x33 x34 x35 x36 x37 x38 x39 x40 x41 x42 x43 x44 x45 x46 x47 x48 x49 x50 x51 x52 x53 x54 x55 x56 x57 x58 x59 x60 x61 x62 x63 x64 x65 x66 x67 x68 x69 x70 x71 x72 x73 x74 x75 x76 x77 x78 x79 x80 x81 x82 x83 x84 x85 x86 x87 x88 x89 x90 x91 x92 x93 x94 x95 x96 x97 x98 x99 x100 x101 x102 x103 x104 x105 x106 x107 x108 x109 x110 x111 x112 x113 : Value) : Code.wp Tryz.prog codeV (bodyPost Tryz.prog Tryz.f5 (EonQ x c w)) ⟨List.toArray (x0 :: x1 :: x2 :: x3 :: x4 :: x5 :: .pointer (some ⟨w.heap.size + 1, 0, none⟩) :: x7 :: x8 :: .pointer (some ⟨gr, 0, none⟩) :: x10 :: x11 :: x12 :: .pointer (some ⟨gd, 0, none⟩) :: x14 :: x15 :: x16 :: x17 :: x18 :: x19 :: x20 :: x21 :: x22 :: x23 :: x24 :: x25 :: x26 :: x27 :: x28 :: x29 :: x30 :: x31 :: x32 :: x33 :: x34 :: x35 :: x36 :: x37 :: x38 :: x39 :: x40 :: x41 :: x42 :: x43 :: x44 :: x45 :: x46 :: x47 :: x48 :: x49 :: x50 :: x51 :: x52 :: x53 :: x54 :: x55 :: x56 :: x57 :: x58 :: x59 :: x60 :: x61 :: x62 :: x63 :: x64 :: x65 :: x66 :: x67 :: x68 :: x69 :: x70 :: x71 :: x72 :: x73 :: x74 :: x75 :: x76 :: x77 :: x78 :: x79 :: x80 :: x81 :: x82 :: x83 :: x84 :: x85 :: x86 :: x87 :: x88 :: x89 :: x90 :: x91 :: x92 :: x93 :: x94 :: x95 :: x96 :: x97 :: x98 :: x99 :: x100 :: x101 :: x102 :: x103 :: x104 :: x105 :: x106 :: x107 :: x108 :: x109 :: x110 :: x111 :: x112 :: x113 :: []), []⟩ w5 := by
  conv => arg 2; whnf
  have d5 : w.heap.size + 1 ≠ w5.heap.size := by have := R5.out.1; omega
  have y0 := (D5.out.2 0 _ rfl).1
  have y1 := (D5.out.2 1 _ rfl).1
  have z9 := (A5.out.2 9 _ rfl).1
  have y9 := (A5.out.2 9 _ rfl).2
  have r0 := A5.out.1
  go_upto_region 28 with fail
  go_cut [] (fun w6 => Hid (Cs gr w6 [.int .i64 7, .int .i64 1, .int .i64 0, .bool false, .int .i64 0, .bool false, .slice none 0 0, .slice none 0 0, .slice none 0 0, .slice (some ⟨w5.heap.size, 0, none⟩) 1 1, .slice mA mn mc, .slice none 0 0, .slice none 0 0, .slice (some ⟨gm, 0, none⟩) 1 1, .slice none 0 0, .int .i64 1]) ∧ Hid (Cs w5.heap.size w6 [.int .i64 NM, .int .i64 W]) ∧ Hid (Cs gm w6 [.int .i64 month]) ∧ Hid (RowI B5_ w6 (.slice mA mn mc) MD) ∧ Hid (Cs (w.heap.size + 1) w6 [.int .i64 0, .int .i64 0, .int .i64 0, .bool false, .int .i64 0, .bool false, .slice none 0 0, .slice none 0 0, .slice none 0 0, .slice none 0 0, .slice none 0 0, .slice none 0 0, .slice none 0 0, .slice none 0 0, .slice none 0 0, .int .i64 0]) ∧ Hid (Below w.heap.size w w6))
  case first =>
    go_wp2
    go_meet
    have D := A5.out.set 9 (by simp) (.slice (some ⟨w5.heap.size, 0, none⟩) 1 1)
    simp only [List.set_cons_succ, List.set_cons_zero] at D
    exact ⟨Lib.hid (D.alloc _), Lib.hid (cs_newset w5 _ _ _ _), Lib.hid ((M5.out.other d3 _).alloc _), Lib.hid (World.ownsRow.alloc (row_set HR5.out hgr4 9 _) _), Lib.hid ((R5.out.other d2 _).alloc _), Lib.hid ((B5.out.setCell gw _).alloc (by simpa [World.setCell] using B5.out.size) _)⟩
  case rest =>
  obtain ⟨w6, rfl⟩ : ∃ x : World, x = wc := ⟨_, rfl⟩
  obtain ⟨A6, D6, M6, HR6, R6, B6⟩ := hcut
  clear A5 D5 M5 HR5 R5 B5 y0 y1 z9 y9 r0
--<x
  obtain ⟨⟨s0, s1, s2, s3, s4, s5, s6, s7, s8, s9, s10, s11, s12, s13, s14, s15⟩, y0, y1, y2, y3, y4, y5, y6, y7, y8, y9, y10, y11, y12, y13, y14, y15⟩ := cells16 R6.out
  obtain ⟨⟨z0, z1, z2, z3, z4, z5, z6, z7, z8, z9, z10, z11, z12, z13, z14, z15⟩, _⟩ := cells16 A6.out
  go_wp2
  refine bodyPost_ret (v := .tuple #[.agg #[.int .i64 7, .int .i64 1, .int .i64 0, .bool false, .int .i64 0, .bool false, .slice none 0 0, .slice none 0 0, .slice none 0 0, .slice (some ⟨w5.heap.size, 0, none⟩) 1 1, .slice mA mn mc, .slice none 0 0, .slice none 0 0, .slice (some ⟨gm, 0, none⟩) 1 1, .slice none 0 0, .int .i64 1], .int .i64 0]) (res_by (set16 R6.out _ _ _ _ _ _ _ _ _ _ _ _ _ _ _ _) (fun W h => by obtain ⟨⟨t0, t1, t2, t3, t4, t5, t6, t7, t8, t9, t10, t11, t12, t13, t14, t15⟩, _⟩ := cells16 h; simp [results, Tryz.results5, go_sem, t0, t1, t2, t3, t4, t5, t6, t7, t8, t9, t10, t11, t12, t13, t14, t15])) rfl ?_
  obtain ⟨rfl, rfl⟩ := Prod.mk.inj HF.out
  exact eon_yes rfl (Rcv.day_one (other16 d5 D6.out _ _ _ _ _ _ _ _ _ _ _ _ _ _ _ _)) (IntV.of_row (row16 HR6.out hgR4 _ _ _ _ _ _ _ _ _ _ _ _ _ _ _ _)) (other16 d4 M6.out _ _ _ _ _ _ _ _ _ _ _ _ _ _ _ _) (below16 hgR B6.out _ _ _ _ _ _ _ _ _ _ _ _ _ _ _ _)
--x>
end Enc
end Go.Proofs.YtpbbnkgfheafpaaGreatDoor
