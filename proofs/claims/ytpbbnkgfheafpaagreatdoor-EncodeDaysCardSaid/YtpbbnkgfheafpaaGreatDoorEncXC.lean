/-
  encode.On, its whole answer. (Written by gen/gen_encx.py.)
-/
import Derived.Test.YtpbbnkgfheafpaaGreatDoorEncH
namespace Go.Proofs.YtpbbnkgfheafpaaGreatDoor
open Go.RowKit
namespace Enc
open Wk Cel
open Rcv (CV RecV LisV IntV DayV aggR)
open Ap (RowI Grew)
def find2_ (n : Nat) : Code → Option Code
  | .seq a b => if starts n a = true then some (.seq a b) else (find2_ n a).orElse (fun _ => find2_ n b)
  | .cond _ a b => (find2_ n a).orElse (fun _ => find2_ n b)
  | .block _ a => find2_ n a
  | .scope a => find2_ n a
  | c => if starts n c = true then some c else none
noncomputable def codeC : Code := (Tryz.f5.body.bind (find2_ 13)).getD .skip
set_option maxHeartbeats 25600000 in
set_option maxRecDepth 100000 in
theorem eonC (month v : Int) (x : CV) (c : Int) (w w3 : World) (gm gr gq : Nat) (hgR : w.heap.size ≤ w.heap.size + 1) (d4 : w.heap.size + 1 ≠ gm) (d5 : w.heap.size + 1 ≠ gq)
    (HF : Hid ((rcv month [(-1, v)] [], (0 : Int)) = (x, c)))
    (A3 : Hid (Cs gr w3 [.int .i64 7, .int .i64 1, .int .i64 0, .bool false, .int .i64 0, .bool false, .slice none 0 0, .slice none 0 0, .slice none 0 0, .slice (some ⟨gq, 0, none⟩) 1 1, .slice none 0 0, .slice none 0 0, .slice none 0 0, .slice (some ⟨gm, 0, none⟩) 1 1, .slice none 0 0, .int .i64 1])) (D3 : Hid (Cs gq w3 [.int .i64 (-1), .int .i64 v])) (M3 : Hid (Cs gm w3 [.int .i64 month])) (R3 : Hid (Cs (w.heap.size + 1) w3 [.int .i64 0, .int .i64 0, .int .i64 0, .bool false, .int .i64 0, .bool false, .slice none 0 0, .slice none 0 0, .slice none 0 0, .slice none 0 0, .slice none 0 0, .slice none 0 0, .slice none 0 0, .slice none 0 0, .slice none 0 0, .int .i64 0])) (B3 : Hid (Below w.heap.size w w3))
    (x0 x1 x2 x3 x4 x5 x7 x8 x10 x11 x12 x13 x14 x15 x16 x17 x18 x19 x20 x21 x22 x23 x24 x25 x26 x27 x28 x29 x30 x31 x32 x33 x34 x35 x36 x37 x38 x39 x40 x41 x42 x43 x44 x45 x46 x47 x48 x49 x50 x51 x52 x53 x54 x55 x56 x57 x58 x59 x60 x61 x62 x63 x64 x65 x66 x67 x68 x69 x70 x71 x72 x73 x74 x75 x76 x77 x78 x79 x80 x81 x82 x83 x84 x85 x86 x87 x88 x89 x90 x91 x92 x93 x94 x95 x96 x97 x98 x99 x100 x101 x102 x103 x104 x105 x106 x107 x108 x109 x110 x111 x112 x113 : Value) (K : Act → World → Prop) : Code.wp Tryz.prog codeC (Exit.then K (bodyPost Tryz.prog Tryz.f5 (EonQ x c w))) ⟨List.toArray (x0 :: x1 :: x2 :: x3 :: x4 :: x5 :: .pointer (some ⟨w.heap.size + 1, 0, none⟩) :: x7 :: x8 :: .pointer (some ⟨gr, 0, none⟩) :: x10 :: x11 :: x12 :: x13 :: x14 :: x15 :: x16 :: x17 :: x18 :: x19 :: x20 :: x21 :: x22 :: x23 :: x24 :: x25 :: x26 :: x27 :: x28 :: x29 :: x30 :: x31 :: x32 :: x33 :: x34 :: x35 :: x36 :: x37 :: x38 :: x39 :: x40 :: x41 :: x42 :: x43 :: x44 :: x45 :: x46 :: x47 :: x48 :: x49 :: x50 :: x51 :: x52 :: x53 :: x54 :: x55 :: x56 :: x57 :: x58 :: x59 :: x60 :: x61 :: x62 :: x63 :: x64 :: x65 :: x66 :: x67 :: x68 :: x69 :: x70 :: x71 :: x72 :: x73 :: x74 :: x75 :: x76 :: x77 :: x78 :: x79 :: x80 :: x81 :: x82 :: x83 :: x84 :: x85 :: x86 :: x87 :: x88 :: x89 :: x90 :: x91 :: x92 :: x93 :: x94 :: x95 :: x96 :: x97 :: x98 :: x99 :: x100 :: x101 :: x102 :: x103 :: x104 :: x105 :: x106 :: x107 :: x108 :: x109 :: x110 :: x111 :: x112 :: x113 :: []), []⟩ w3 := by
  conv => arg 2; whnf
--<x
  obtain ⟨⟨s0, s1, s2, s3, s4, s5, s6, s7, s8, s9, s10, s11, s12, s13, s14, s15⟩, y0, y1, y2, y3, y4, y5, y6, y7, y8, y9, y10, y11, y12, y13, y14, y15⟩ := cells16 R3.out
  obtain ⟨⟨z0, z1, z2, z3, z4, z5, z6, z7, z8, z9, z10, z11, z12, z13, z14, z15⟩, _⟩ := cells16 A3.out
  go_wp2
  refine bodyPost_ret (v := .tuple #[.agg #[.int .i64 7, .int .i64 1, .int .i64 0, .bool false, .int .i64 0, .bool false, .slice none 0 0, .slice none 0 0, .slice none 0 0, .slice (some ⟨gq, 0, none⟩) 1 1, .slice none 0 0, .slice none 0 0, .slice none 0 0, .slice (some ⟨gm, 0, none⟩) 1 1, .slice none 0 0, .int .i64 1], .int .i64 0]) (res_by (set16 R3.out _ _ _ _ _ _ _ _ _ _ _ _ _ _ _ _) (fun W h => by obtain ⟨⟨t0, t1, t2, t3, t4, t5, t6, t7, t8, t9, t10, t11, t12, t13, t14, t15⟩, _⟩ := cells16 h; simp [results, Tryz.results5, go_sem, t0, t1, t2, t3, t4, t5, t6, t7, t8, t9, t10, t11, t12, t13, t14, t15])) rfl ?_
  obtain ⟨rfl, rfl⟩ := Prod.mk.inj HF.out
  exact eon_yes rfl (Rcv.day_one (other16 d5 D3.out _ _ _ _ _ _ _ _ _ _ _ _ _ _ _ _)) (IntV.none _) (other16 d4 M3.out _ _ _ _ _ _ _ _ _ _ _ _ _ _ _ _) (below16 hgR B3.out _ _ _ _ _ _ _ _ _ _ _ _ _ _ _ _)
--x>
end Enc
end Go.Proofs.YtpbbnkgfheafpaaGreatDoor
