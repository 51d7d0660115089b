/-
  solsticeref21.On, its whole answer. (Written by gen/gen_ency.py, bin/split_y.py.)
-/
import Derived.Test.YtkbgobbkhiaabaaEncYH
namespace Go.Proofs.Ytkbgobbkhiaabaa
open Go.RowKit
namespace Enc
open Wk Cel
open Rcv (CV RecV LisV IntV DayV aggR)
open Ap (RowI Grew)
noncomputable def codeN : Code := (Try.f8.body.bind (find_ 21)).getD .skip
set_option maxHeartbeats 25600000 in
set_option maxRecDepth 100000 in
theorem ronN (month P W : Int) (x : Option CV) (w w5 : World) (gm gr gq : Nat) (gmw : w.heap.size ≤ gm) (gqw : w.heap.size ≤ gq) (hgR : w.heap.size ≤ w.heap.size + 1) (d4 : w.heap.size + 1 ≠ gm) (d5 : w.heap.size + 1 ≠ gq)
    (HF : Hid (some (rcv month [(P / 7 + 1, W)] []) = x))
    (A5 : Hid (Cs gr w5 [.int .i64 7, .int .i64 1, .int .i64 0, .bool false, .int .i64 0, .bool false, .slice none 0 0, .slice none 0 0, .slice none 0 0, .slice (some ⟨gq, 0, none⟩) 1 1, .slice none 0 0, .slice none 0 0, .slice none 0 0, .slice (some ⟨gm, 0, none⟩) 1 1, .slice none 0 0, .int .i64 1])) (D5 : Hid (Cs gq w5 [.int .i64 (P / 7 + 1), .int .i64 W])) (M5 : Hid (Cs gm w5 [.int .i64 month])) (R5 : Hid (Cs (w.heap.size + 1) w5 [.int .i64 0, .int .i64 0, .int .i64 0, .bool false, .int .i64 0, .bool false, .slice none 0 0, .slice none 0 0, .slice none 0 0, .slice none 0 0, .slice none 0 0, .slice none 0 0, .slice none 0 0, .slice none 0 0, .slice none 0 0, .int .i64 0])) (B5 : Hid (Below w.heap.size w w5))
    (x0 x1 x2 x3 x4 x5 x7 x9 x10 x11 x12 x13 x14 x15 x16 x17 x18 x19 x20 x21 x22 x23 x24 x25 x26 x27 x28 x29 x30 x31 x32 x33 x34 x35 x36 x37 x38 x39 x40 x41 x42 x43 x44 x45 x46 x47 x48 x49 x50 x51 x52 x53 x54 x55 x56 x57 x58 x59 x60 x61 x62 x63 x64 x65 x66 x67 x68 x69 x70 x71 x72 x73 x74 x75 x76 x77 x78 x79 x80 x81 x82 x83 x84 x85 x86 x87 x88 x89 x90 x91 x92 x93 x94 x95 x96 x97 x98 x99 x100 x101 x102 x103 x104 x105 x106 x107 x108 x109 x110 x111 x112 : Value) (K : Act → World → Prop) : Code.wp Try.prog codeN (Exit.then K (bodyPost Try.prog Try.f8 (RonP x w))) ⟨List.toArray (x0 :: x1 :: x2 :: x3 :: x4 :: x5 :: .pointer (some ⟨w.heap.size + 1, 0, none⟩) :: x7 :: .pointer (some ⟨gr, 0, none⟩) :: x9 :: x10 :: x11 :: x12 :: x13 :: x14 :: x15 :: x16 :: x17 :: x18 :: x19 :: x20 :: x21 :: x22 :: x23 :: x24 :: x25 :: x26 :: x27 :: x28 :: x29 :: x30 :: x31 :: x32 :: x33 :: x34 :: x35 :: x36 :: x37 :: x38 :: x39 :: x40 :: x41 :: x42 :: x43 :: x44 :: x45 :: x46 :: x47 :: x48 :: x49 :: x50 :: x51 :: x52 :: x53 :: x54 :: x55 :: x56 :: x57 :: x58 :: x59 :: x60 :: x61 :: x62 :: x63 :: x64 :: x65 :: x66 :: x67 :: x68 :: x69 :: x70 :: x71 :: x72 :: x73 :: x74 :: x75 :: x76 :: x77 :: x78 :: x79 :: x80 :: x81 :: x82 :: x83 :: x84 :: x85 :: x86 :: x87 :: x88 :: x89 :: x90 :: x91 :: x92 :: x93 :: x94 :: x95 :: x96 :: x97 :: x98 :: x99 :: x100 :: x101 :: x102 :: x103 :: x104 :: x105 :: x106 :: x107 :: x108 :: x109 :: x110 :: x111 :: x112 :: []), []⟩ w5 := by
  conv => arg 2; whnf
--<x
  obtain ⟨⟨s0, s1, s2, s3, s4, s5, s6, s7, s8, s9, s10, s11, s12, s13, s14, s15⟩, y0, y1, y2, y3, y4, y5, y6, y7, y8, y9, y10, y11, y12, y13, y14, y15⟩ := cells16 R5.out
  obtain ⟨⟨z0, z1, z2, z3, z4, z5, z6, z7, z8, z9, z10, z11, z12, z13, z14, z15⟩, _⟩ := cells16 A5.out
  go_wp2
  refine bodyPost_ret (v := .tuple #[.agg #[.int .i64 7, .int .i64 1, .int .i64 0, .bool false, .int .i64 0, .bool false, .slice none 0 0, .slice none 0 0, .slice none 0 0, .slice (some ⟨gq, 0, none⟩) 1 1, .slice none 0 0, .slice none 0 0, .slice none 0 0, .slice (some ⟨gm, 0, none⟩) 1 1, .slice none 0 0, .int .i64 1], .bool true]) (res_by (set16 R5.out _ _ _ _ _ _ _ _ _ _ _ _ _ _ _ _) (fun W h => by obtain ⟨⟨t0, t1, t2, t3, t4, t5, t6, t7, t8, t9, t10, t11, t12, t13, t14, t15⟩, _⟩ := cells16 h; simp [results, Try.results8, go_sem, t0, t1, t2, t3, t4, t5, t6, t7, t8, t9, t10, t11, t12, t13, t14, t15])) rfl ?_
  exact ron_yes HF.out rfl (fun _ hk => Rcv.day_one (hk.1 _ _ gqw (other16 d5 D5.out _ _ _ _ _ _ _ _ _ _ _ _ _ _ _ _))) (fun _ _ => IntV.none _) gmw (other16 d4 M5.out _ _ _ _ _ _ _ _ _ _ _ _ _ _ _ _) (below16 hgR B5.out _ _ _ _ _ _ _ _ _ _ _ _ _ _ _ _)
--x>
noncomputable def codeG : Code := (Try.f8.body.bind (from_ 27)).getD .skip
set_option maxHeartbeats 25600000 in
set_option maxRecDepth 100000 in
theorem ronG (month P W : Int) (mA : Option Addr) (mn mc BB : Nat) (x : Option CV) (w w6 : World) (gm gr gq : Nat) (gmw : w.heap.size ≤ gm) (gqw : w.heap.size ≤ gq) (hBB : w.heap.size ≤ BB) (hgR : w.heap.size ≤ w.heap.size + 1) (d4 : w.heap.size + 1 ≠ gm) (d6 : w.heap.size + 1 ≠ gq) (hgR4 : w.heap.size + 1 < BB)
    (HF : Hid (some (rcv month [(0, W)] (sevL P 7)) = x))
    (A6 : Hid (Cs gr w6 [.int .i64 7, .int .i64 1, .int .i64 0, .bool false, .int .i64 0, .bool false, .slice none 0 0, .slice none 0 0, .slice none 0 0, .slice (some ⟨gq, 0, none⟩) 1 1, .slice mA mn mc, .slice none 0 0, .slice none 0 0, .slice (some ⟨gm, 0, none⟩) 1 1, .slice none 0 0, .int .i64 1])) (D6 : Hid (Cs gq w6 [.int .i64 0, .int .i64 W])) (M6 : Hid (Cs gm w6 [.int .i64 month])) (HR6 : Hid (RowI BB w6 (.slice mA mn mc) (sevL P 7))) (R6 : Hid (Cs (w.heap.size + 1) w6 [.int .i64 0, .int .i64 0, .int .i64 0, .bool false, .int .i64 0, .bool false, .slice none 0 0, .slice none 0 0, .slice none 0 0, .slice none 0 0, .slice none 0 0, .slice none 0 0, .slice none 0 0, .slice none 0 0, .slice none 0 0, .int .i64 0])) (B6 : Hid (Below w.heap.size w w6))
    (x0 x1 x2 x3 x4 x5 x7 x9 x10 x11 x12 x13 x14 x15 x16 x17 x18 x19 x20 x21 x22 x23 x24 x25 x26 x27 x28 x29 x30 x31 x32 x33 x34 x35 x36 x37 x38 x39 x40 x41 x42 x43 x44 x45 x46 x47 x48 x49 x50 x51 x52 x53 x54 x55 x56 x57 x58 x59 x60 x61 x62 x63 x64 x65 x66 x67 x68 x69 x70 x71 x72 x73 x74 x75 x76 x77 x78 x79 x80 x81 x82 x83 x84 x85 x86 x87 x88 x89 x90 x91 x92 x93 x94 x95 x96 x97 x98 x99 x100 x101 x102 x103 x104 x105 x106 x107 x108 x109 x110 x111 x112 : Value) : Code.wp Try.prog codeG (bodyPost Try.prog Try.f8 (RonP x w)) ⟨List.toArray (x0 :: x1 :: x2 :: x3 :: x4 :: x5 :: .pointer (some ⟨w.heap.size + 1, 0, none⟩) :: x7 :: .pointer (some ⟨gr, 0, none⟩) :: x9 :: x10 :: x11 :: x12 :: x13 :: x14 :: x15 :: x16 :: x17 :: x18 :: x19 :: x20 :: x21 :: x22 :: x23 :: x24 :: x25 :: x26 :: x27 :: x28 :: x29 :: x30 :: x31 :: x32 :: x33 :: x34 :: x35 :: x36 :: x37 :: x38 :: x39 :: x40 :: x41 :: x42 :: x43 :: x44 :: x45 :: x46 :: x47 :: x48 :: x49 :: x50 :: x51 :: x52 :: x53 :: x54 :: x55 :: x56 :: x57 :: x58 :: x59 :: x60 :: x61 :: x62 :: x63 :: x64 :: x65 :: x66 :: x67 :: x68 :: x69 :: x70 :: x71 :: x72 :: x73 :: x74 :: x75 :: x76 :: x77 :: x78 :: x79 :: x80 :: x81 :: x82 :: x83 :: x84 :: x85 :: x86 :: x87 :: x88 :: x89 :: x90 :: x91 :: x92 :: x93 :: x94 :: x95 :: x96 :: x97 :: x98 :: x99 :: x100 :: x101 :: x102 :: x103 :: x104 :: x105 :: x106 :: x107 :: x108 :: x109 :: x110 :: x111 :: x112 :: []), []⟩ w6 := by
  conv => arg 2; whnf
--<x
  obtain ⟨⟨s0, s1, s2, s3, s4, s5, s6, s7, s8, s9, s10, s11, s12, s13, s14, s15⟩, y0, y1, y2, y3, y4, y5, y6, y7, y8, y9, y10, y11, y12, y13, y14, y15⟩ := cells16 R6.out
  obtain ⟨⟨z0, z1, z2, z3, z4, z5, z6, z7, z8, z9, z10, z11, z12, z13, z14, z15⟩, _⟩ := cells16 A6.out
  go_wp2
  refine bodyPost_ret (v := .tuple #[.agg #[.int .i64 7, .int .i64 1, .int .i64 0, .bool false, .int .i64 0, .bool false, .slice none 0 0, .slice none 0 0, .slice none 0 0, .slice (some ⟨gq, 0, none⟩) 1 1, .slice mA mn mc, .slice none 0 0, .slice none 0 0, .slice (some ⟨gm, 0, none⟩) 1 1, .slice none 0 0, .int .i64 1], .bool true]) (res_by (set16 R6.out _ _ _ _ _ _ _ _ _ _ _ _ _ _ _ _) (fun W h => by obtain ⟨⟨t0, t1, t2, t3, t4, t5, t6, t7, t8, t9, t10, t11, t12, t13, t14, t15⟩, _⟩ := cells16 h; simp [results, Try.results8, go_sem, t0, t1, t2, t3, t4, t5, t6, t7, t8, t9, t10, t11, t12, t13, t14, t15])) rfl ?_
  exact ron_yes HF.out rfl (fun _ hk => Rcv.day_one (hk.1 _ _ gqw (other16 d6 D6.out _ _ _ _ _ _ _ _ _ _ _ _ _ _ _ _))) (fun _ hk => hk.ints hBB (row16 HR6.out hgR4 _ _ _ _ _ _ _ _ _ _ _ _ _ _ _ _)) gmw (other16 d4 M6.out _ _ _ _ _ _ _ _ _ _ _ _ _ _ _ _) (below16 hgR B6.out _ _ _ _ _ _ _ _ _ _ _ _ _ _ _ _)
--x>
end Enc
end Go.Proofs.Ytkbgobbkhiaabaa
