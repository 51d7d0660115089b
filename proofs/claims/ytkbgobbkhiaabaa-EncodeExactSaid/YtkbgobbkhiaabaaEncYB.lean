/-
  solsticeref21.On, its whole answer. (Written by gen/gen_ency.py, bin/split_y.py.)
-/
import Derived.Test.YtkbgobbkhiaabaaEncYS
namespace Go.Proofs.Ytkbgobbkhiaabaa
open Go.RowKit
namespace Enc
open Wk Cel
open Rcv (CV RecV LisV IntV DayV aggR)
open Ap (RowI Grew)
set_option maxHeartbeats 25600000 in
set_option maxRecDepth 100000 in
theorem ronB (month k v d m P T L : Int) (x : Option CV) (w w3 : World) (gm gr : Nat) (hv : 0 ≤ v ∧ v ≤ 6) (hd : 0 ≤ d ∧ d ≤ 31) (_lb : 0 ≤ L ∧ L ≤ 31) (e1 : -40 ≤ m) (e1' : m ≤ 40) (bP : -50 ≤ P ∧ P ≤ 80) (bT : -50 ≤ T ∧ T ≤ 80) (hPT : k = 1 ∧ P = d + m ∧ T = P ∨ k ≠ 1 ∧ T = P + 6 ∧ (k = 3 ∧ P = d + m ∨ k = 4 ∧ P = d + m - 6)) (f1 : d ≤ L) (hgR : w.heap.size ≤ w.heap.size + 1) (_d1 : gr ≠ w.heap.size) (d2 : gr ≠ w.heap.size + 1) (d3 : gr ≠ gm) (d4 : w.heap.size + 1 ≠ gm) (gw : w.heap.size ≤ gr) (gmw : w.heap.size ≤ gm) (k1 : ¬ k = 1)
    (HH : Hid ((if L < d ∨ P < 1 ∨ L < T then none else if k = 1 then some (rcv month [] [d + m]) else if P % 7 = 1 ∧ P ≤ 22 then some (rcv month [(P / 7 + 1, (v + m) % 7)] []) else some (rcv month [(0, (v + m) % 7)] (sevL P 7))) = x))
    (O3 : Hid (Cs w.heap.size w3 [.int .i64 k, .int .i64 v, .int .i64 d])) (R3 : Hid (Cs (w.heap.size + 1) w3 [.int .i64 0, .int .i64 0, .int .i64 0, .bool false, .int .i64 0, .bool false, .slice none 0 0, .slice none 0 0, .slice none 0 0, .slice none 0 0, .slice none 0 0, .slice none 0 0, .slice none 0 0, .slice none 0 0, .slice none 0 0, .int .i64 0])) (M3 : Hid (Cs gm w3 [.int .i64 month])) (A3 : Hid (Cs gr w3 [.int .i64 7, .int .i64 1, .int .i64 0, .bool false, .int .i64 0, .bool false, .slice none 0 0, .slice none 0 0, .slice none 0 0, .slice none 0 0, .slice none 0 0, .slice none 0 0, .slice none 0 0, .slice (some ⟨gm, 0, none⟩) 1 1, .slice none 0 0, .int .i64 1])) (B3 : Hid (Below w.heap.size w w3))
    (x1 x3 x5 x7 x10 x11 x12 x13 x14 x15 x16 x17 x18 x19 x20 x21 x22 x23 x24 x25 x26 x27 x28 x29 x30 x31 x32 x33 x34 x35 x36 x37 x38 x39 x40 x41 x42 x43 x44 x45 x46 x47 x48 x49 x50 x51 x52 x53 x54 x55 x56 x57 x58 x59 x60 x61 x62 x63 x64 x65 x66 x67 x68 x69 x70 x71 x72 x73 x74 x75 x76 x77 x78 x79 x80 x81 x82 x83 x84 x85 x86 x87 x88 x89 x90 x91 x92 x93 x94 x95 x96 x97 x98 x99 x100 x101 x102 x103 x104 x105 x106 x107 x108 x109 x110 x111 x112 : Value) : Code.wp Try.prog codeY (bodyPost Try.prog Try.f8 (RonP x w)) ⟨List.toArray (.int .i64 month :: x1 :: .int .i64 m :: x3 :: .pointer (some ⟨w.heap.size, 0, none⟩) :: x5 :: .pointer (some ⟨w.heap.size + 1, 0, none⟩) :: x7 :: .pointer (some ⟨gr, 0, none⟩) :: .int .i64 L :: x10 :: x11 :: x12 :: x13 :: x14 :: x15 :: x16 :: x17 :: x18 :: x19 :: x20 :: x21 :: x22 :: x23 :: x24 :: x25 :: x26 :: x27 :: x28 :: x29 :: x30 :: x31 :: x32 :: x33 :: x34 :: x35 :: x36 :: x37 :: x38 :: x39 :: x40 :: x41 :: x42 :: x43 :: x44 :: x45 :: x46 :: x47 :: x48 :: x49 :: x50 :: x51 :: x52 :: x53 :: x54 :: x55 :: x56 :: x57 :: x58 :: x59 :: x60 :: x61 :: x62 :: x63 :: x64 :: x65 :: x66 :: x67 :: x68 :: x69 :: x70 :: x71 :: x72 :: x73 :: x74 :: x75 :: x76 :: x77 :: x78 :: x79 :: x80 :: x81 :: x82 :: x83 :: x84 :: x85 :: x86 :: x87 :: x88 :: x89 :: x90 :: x91 :: x92 :: x93 :: x94 :: x95 :: x96 :: x97 :: x98 :: x99 :: x100 :: x101 :: x102 :: x103 :: x104 :: x105 :: x106 :: x107 :: x108 :: x109 :: x110 :: x111 :: x112 :: []), []⟩ w3 := by
  conv => arg 2; whnf
  have q0 := (O3.out.2 0 _ rfl).1
  have q1 := (O3.out.2 1 _ rfl).1
  have q2 := (O3.out.2 2 _ rfl).1
  have r0 := A3.out.1
  have d5 : w.heap.size + 1 ≠ w3.heap.size := by have := R3.out.1; omega
  have hk1 : (k == 1) = false := beq_eq_false_iff_ne.2 k1
  obtain ⟨hT6, hP34⟩ : T = P + 6 ∧ (k = 3 ∧ P = d + m ∨ k = 4 ∧ P = d + m - 6) := by
    rcases hPT with ⟨q, _⟩ | ⟨_, q⟩
    · exact absurd q k1
    · exact q
  have HPH := Lib.hid hP34
  obtain ⟨W, hW⟩ : ∃ a, (v + m) % 7 = a := ⟨_, rfl⟩
  have HH := Lib.hid (by
    have q := HH.out
    rw [if_neg k1, hW] at q; exact q)
  have s10 : IntKind.i64.wrap (d + m) = d + m := IntWalk.i64_in _ (by omega)
  have s12 : IntKind.i64.wrap (v + m) = v + m := IntWalk.i64_in _ (by omega)
  clear hPT hP34
  go_upto_if 61 with fail
  go_cut [10] (fun u wz => u = .int .i64 P ∧ w3 = wz)
  case first =>
    rcases HPH.out with ⟨rfl, hp⟩ | ⟨rfl, hp⟩
    · go_wp2
      go_meet
      exact ⟨by rw [hp], rfl⟩
    · go_wp2
      go_meet
      exact ⟨by rw [hp], rfl⟩
  case rest =>
  obtain ⟨rfl, hw3⟩ := hcut
  subst hw3
  go_wp2_with fail
  refine (rdiv_l (v + m) 7 _ W _ (by decide) (by decide) (by omega) (by omega) rfl hW).mono ?_
  rintro e w4 ⟨rfl, m4⟩
  have R4 := Lib.hid (R3.out.below m4)
  have M4 := Lib.hid (M3.out.below m4)
  have A4 := Lib.hid (A3.out.below m4)
  have B4 := Lib.hid (bstep B3.out m4)
  clear m4 O3 R3 M3 A3 B3 q0 q1 q2 r0 d5 HPH s10 s12 hW
  have s13 : IntKind.i64.wrap (P + 6) = P + 6 := IntWalk.i64_in _ (by omega)
  by_cases f2 : P < 1
  case pos =>
    have HF := Lib.hid (show none = x from by
      have q := HH.out
      rw [if_pos (Or.inr (Or.inl f2))] at q; exact q)
    clear HH
--<x
    obtain ⟨⟨s0, s1, s2, s3, s4, s5, s6, s7, s8, s9, s10, s11, s12, s13, s14, s15⟩, y0, y1, y2, y3, y4, y5, y6, y7, y8, y9, y10, y11, y12, y13, y14, y15⟩ := cells16 R4.out
    go_wp2
    refine bodyPost_ret (v := .tuple #[.agg #[.int .i64 0, .int .i64 0, .int .i64 0, .bool false, .int .i64 0, .bool false, .slice none 0 0, .slice none 0 0, .slice none 0 0, .slice none 0 0, .slice none 0 0, .slice none 0 0, .slice none 0 0, .slice none 0 0, .slice none 0 0, .int .i64 0], .bool false]) (res_by (set16 R4.out _ _ _ _ _ _ _ _ _ _ _ _ _ _ _ _) (fun W h => by obtain ⟨⟨t0, t1, t2, t3, t4, t5, t6, t7, t8, t9, t10, t11, t12, t13, t14, t15⟩, _⟩ := cells16 h; simp [results, Try.results8, go_sem, t0, t1, t2, t3, t4, t5, t6, t7, t8, t9, t10, t11, t12, t13, t14, t15])) rfl ?_
    exact ron_no HF.out rfl (below16 hgR B4.out _ _ _ _ _ _ _ _ _ _ _ _ _ _ _ _)
--x>
  by_cases f3 : L < P + 6
  case pos =>
    have HF := Lib.hid (show none = x from by
      have q := HH.out
      rw [if_pos (Or.inr (Or.inr (by omega)))] at q; exact q)
    clear HH
--<x
    obtain ⟨⟨s0, s1, s2, s3, s4, s5, s6, s7, s8, s9, s10, s11, s12, s13, s14, s15⟩, y0, y1, y2, y3, y4, y5, y6, y7, y8, y9, y10, y11, y12, y13, y14, y15⟩ := cells16 R4.out
    go_wp2
    refine bodyPost_ret (v := .tuple #[.agg #[.int .i64 0, .int .i64 0, .int .i64 0, .bool false, .int .i64 0, .bool false, .slice none 0 0, .slice none 0 0, .slice none 0 0, .slice none 0 0, .slice none 0 0, .slice none 0 0, .slice none 0 0, .slice none 0 0, .slice none 0 0, .int .i64 0], .bool false]) (res_by (set16 R4.out _ _ _ _ _ _ _ _ _ _ _ _ _ _ _ _) (fun W h => by obtain ⟨⟨t0, t1, t2, t3, t4, t5, t6, t7, t8, t9, t10, t11, t12, t13, t14, t15⟩, _⟩ := cells16 h; simp [results, Try.results8, go_sem, t0, t1, t2, t3, t4, t5, t6, t7, t8, t9, t10, t11, t12, t13, t14, t15])) rfl ?_
    exact ron_no HF.out rfl (below16 hgR B4.out _ _ _ _ _ _ _ _ _ _ _ _ _ _ _ _)
--x>
  have HH := Lib.hid (by
    have q := HH.out
    rw [if_neg (by omega)] at q; exact q)
  go_upto_if 79 with fail
  go_cut [] (fun wz => w4 = wz)
  case first =>
    go_wp2
    go_meet
    exact rfl
  case rest =>
  subst hcut
  rename_i hK
  exact hK _ _ (ronS month P W x w w4 gm gr bP (by omega) hgR d2 d3 d4 gw gmw HH R4 M4 A4 B4 _ _ _ _ _ _ _ _ _ _ _ _ _ _ _ _ _ _ _ _ _ _ _ _ _ _ _ _ _ _ _ _ _ _ _ _ _ _ _ _ _ _ _ _ _ _ _ _ _ _ _ _ _ _ _ _ _ _ _ _ _ _ _ _ _ _ _ _ _ _ _ _ _ _ _ _ _ _ _ _ _ _ _ _ _ _ _ _ _ _ _ _ _ _ _ _ _ _ _ _ _ _ _ _ _ _ _ _ _)
end Enc
end Go.Proofs.Ytkbgobbkhiaabaa
