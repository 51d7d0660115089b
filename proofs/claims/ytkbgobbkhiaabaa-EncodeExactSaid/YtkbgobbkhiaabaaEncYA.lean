/-
  solsticeref21.On, its whole answer. (Written by gen/gen_ency.py, bin/split_y.py.)
-/
import Derived.Test.YtkbgobbkhiaabaaEncYM
namespace Go.Proofs.Ytkbgobbkhiaabaa
open Go.RowKit
namespace Enc
open Wk Cel
open Rcv (CV RecV LisV IntV DayV aggR)
open Ap (RowI Grew)
set_option maxHeartbeats 25600000 in
set_option maxRecDepth 100000 in
theorem ronA (month k v d m P T L : Int) (x : Option CV) (w w3 : World) (gm gr : Nat) (_hv : 0 ≤ v ∧ v ≤ 6) (_hd : 0 ≤ d ∧ d ≤ 31) (_lb : 0 ≤ L ∧ L ≤ 31) (_e1 : -40 ≤ m) (_e1' : m ≤ 40) (_bP : -50 ≤ P ∧ P ≤ 80) (_bT : -50 ≤ T ∧ T ≤ 80) (hPT : k = 1 ∧ P = d + m ∧ T = P ∨ k ≠ 1 ∧ T = P + 6 ∧ (k = 3 ∧ P = d + m ∨ k = 4 ∧ P = d + m - 6)) (_f1 : d ≤ L) (hgR : w.heap.size ≤ w.heap.size + 1) (d1 : gr ≠ w.heap.size) (d2 : gr ≠ w.heap.size + 1) (d3 : gr ≠ gm) (d4 : w.heap.size + 1 ≠ gm) (gw : w.heap.size ≤ gr) (gmw : w.heap.size ≤ gm) (k1 : k = 1)
    (HH : Hid ((if L < d ∨ P < 1 ∨ L < T then none else if k = 1 then some (rcv month [] [d + m]) else if P % 7 = 1 ∧ P ≤ 22 then some (rcv month [(P / 7 + 1, (v + m) % 7)] []) else some (rcv month [(0, (v + m) % 7)] (sevL P 7))) = x))
    (O3 : Hid (Cs w.heap.size w3 [.int .i64 k, .int .i64 v, .int .i64 d])) (R3 : Hid (Cs (w.heap.size + 1) w3 [.int .i64 0, .int .i64 0, .int .i64 0, .bool false, .int .i64 0, .bool false, .slice none 0 0, .slice none 0 0, .slice none 0 0, .slice none 0 0, .slice none 0 0, .slice none 0 0, .slice none 0 0, .slice none 0 0, .slice none 0 0, .int .i64 0])) (M3 : Hid (Cs gm w3 [.int .i64 month])) (A3 : Hid (Cs gr w3 [.int .i64 7, .int .i64 1, .int .i64 0, .bool false, .int .i64 0, .bool false, .slice none 0 0, .slice none 0 0, .slice none 0 0, .slice none 0 0, .slice none 0 0, .slice none 0 0, .slice none 0 0, .slice (some ⟨gm, 0, none⟩) 1 1, .slice none 0 0, .int .i64 1])) (B3 : Hid (Below w.heap.size w w3))
    (x1 x3 x5 x7 x10 x11 x12 x13 x14 x15 x16 x17 x18 x19 x20 x21 x22 x23 x24 x25 x26 x27 x28 x29 x30 x31 x32 x33 x34 x35 x36 x37 x38 x39 x40 x41 x42 x43 x44 x45 x46 x47 x48 x49 x50 x51 x52 x53 x54 x55 x56 x57 x58 x59 x60 x61 x62 x63 x64 x65 x66 x67 x68 x69 x70 x71 x72 x73 x74 x75 x76 x77 x78 x79 x80 x81 x82 x83 x84 x85 x86 x87 x88 x89 x90 x91 x92 x93 x94 x95 x96 x97 x98 x99 x100 x101 x102 x103 x104 x105 x106 x107 x108 x109 x110 x111 x112 : Value) : Code.wp Try.prog codeY (bodyPost Try.prog Try.f8 (RonP x w)) ⟨List.toArray (.int .i64 month :: x1 :: .int .i64 m :: x3 :: .pointer (some ⟨w.heap.size, 0, none⟩) :: x5 :: .pointer (some ⟨w.heap.size + 1, 0, none⟩) :: x7 :: .pointer (some ⟨gr, 0, none⟩) :: .int .i64 L :: x10 :: x11 :: x12 :: x13 :: x14 :: x15 :: x16 :: x17 :: x18 :: x19 :: x20 :: x21 :: x22 :: x23 :: x24 :: x25 :: x26 :: x27 :: x28 :: x29 :: x30 :: x31 :: x32 :: x33 :: x34 :: x35 :: x36 :: x37 :: x38 :: x39 :: x40 :: x41 :: x42 :: x43 :: x44 :: x45 :: x46 :: x47 :: x48 :: x49 :: x50 :: x51 :: x52 :: x53 :: x54 :: x55 :: x56 :: x57 :: x58 :: x59 :: x60 :: x61 :: x62 :: x63 :: x64 :: x65 :: x66 :: x67 :: x68 :: x69 :: x70 :: x71 :: x72 :: x73 :: x74 :: x75 :: x76 :: x77 :: x78 :: x79 :: x80 :: x81 :: x82 :: x83 :: x84 :: x85 :: x86 :: x87 :: x88 :: x89 :: x90 :: x91 :: x92 :: x93 :: x94 :: x95 :: x96 :: x97 :: x98 :: x99 :: x100 :: x101 :: x102 :: x103 :: x104 :: x105 :: x106 :: x107 :: x108 :: x109 :: x110 :: x111 :: x112 :: []), []⟩ w3 := by
  conv => arg 2; whnf
  have q0 := (O3.out.2 0 _ rfl).1
  have q1 := (O3.out.2 1 _ rfl).1
  have q2 := (O3.out.2 2 _ rfl).1
  have r0 := A3.out.1
  have d5 : w.heap.size + 1 ≠ w3.heap.size := by have := R3.out.1; omega
  have hP : P = d + m ∧ T = P := by rcases hPT with ⟨_, q⟩ | ⟨q, _⟩; exact q; exact absurd k1 q
  obtain ⟨hP, rfl⟩ := hP
  obtain ⟨ib, hib⟩ : ∃ b, decide (1 ≤ T ∧ T ≤ L) = b := ⟨_, rfl⟩
  have s10 : IntKind.i64.wrap (d + m) = T := by rw [hP]; exact IntWalk.i64_in _ (by omega)
  have s11 : d + m = T := hP.symm
  have s14 : IntKind.i64.wrap T = T := IntWalk.i64_in _ (by omega)
  have HIB := Lib.hid hib
  have HX := Lib.hid (show (if T < 1 ∨ L < T then none else some (rcv month [] [T])) = x from by
    have q := HH.out
    by_cases g : T < 1 ∨ L < T
    · rw [if_pos (Or.inr g)] at q; rw [if_pos g]; exact q
    · rw [if_neg (by omega), if_pos k1, ← hP] at q; rw [if_neg g]; exact q)
  subst k1
  clear HH hPT hib hP
  have s9 := (A3.out.2 10 _ rfl).1
  have y9 := (A3.out.2 10 _ rfl).2
  go_upto_region 11 with fail
  go_cut [] (fun w4 => Hid (Cs gr w4 [.int .i64 7, .int .i64 1, .int .i64 0, .bool false, .int .i64 0, .bool false, .slice none 0 0, .slice none 0 0, .slice none 0 0, .slice none 0 0, .slice (some ⟨w3.heap.size, 0, none⟩) 1 1, .slice none 0 0, .slice none 0 0, .slice (some ⟨gm, 0, none⟩) 1 1, .slice none 0 0, .int .i64 1]) ∧ Hid (Cs w3.heap.size w4 [.int .i64 T]) ∧ Hid (Cs gm w4 [.int .i64 month]) ∧ Hid (Cs w.heap.size w4 [.int .i64 1, .int .i64 v, .int .i64 d]) ∧ Hid (Cs (w.heap.size + 1) w4 [.int .i64 0, .int .i64 0, .int .i64 0, .bool false, .int .i64 0, .bool false, .slice none 0 0, .slice none 0 0, .slice none 0 0, .slice none 0 0, .slice none 0 0, .slice none 0 0, .slice none 0 0, .slice none 0 0, .slice none 0 0, .int .i64 0]) ∧ Hid (Below w.heap.size w w4))
  case first =>
    go_wp2
    go_meet
    have D := A3.out.set 10 (by simp) (.slice (some ⟨w3.heap.size, 0, none⟩) 1 1)
    simp only [List.set_cons_succ, List.set_cons_zero] at D
    exact ⟨Lib.hid (D.alloc _), Lib.hid (cs_newset w3 _ _ _ _), Lib.hid ((M3.out.other d3 _).alloc _), Lib.hid ((O3.out.other d1 _).alloc _), Lib.hid ((R3.out.other d2 _).alloc _), Lib.hid ((B3.out.setCell gw _).alloc (by simpa [World.setCell] using B3.out.size) _)⟩
  case rest =>
  obtain ⟨w4, rfl⟩ : ∃ x : World, x = wc := ⟨_, rfl⟩
  obtain ⟨A4, D4, M4, O4, R4, B4⟩ := hcut
  rename_i hK
  exact hK _ _ (ronM month v d m T L x w w4 gm gr w3.heap.size (Lib.hid ⟨gmw, B3.out.size⟩) hgR d2 d4 d5 ib s10 s11 s14 HIB HX A4 D4 M4 O4 R4 B4 _ _ _ _ _ _ _ _ _ _ _ _ _ _ _ _ _ _ _ _ _ _ _ _ _ _ _ _ _ _ _ _ _ _ _ _ _ _ _ _ _ _ _ _ _ _ _ _ _ _ _ _ _ _ _ _ _ _ _ _ _ _ _ _ _ _ _ _ _ _ _ _ _ _ _ _ _ _ _ _ _ _ _ _ _ _ _ _ _ _ _ _ _ _ _ _ _ _ _ _ _ _ _ _ _ _ _ _)
end Enc
end Go.Proofs.Ytkbgobbkhiaabaa
