/-
  encode.On, its whole answer. (Written by gen/gen_encx.py.)
-/
import Derived.Test.YtpbbnkgfheafpaaGreatDoorEncXT
import Derived.Test.YtpbbnkgfheafpaaGreatDoorEncXA
namespace Go.Proofs.YtpbbnkgfheafpaaGreatDoor
open Go.RowKit
namespace Enc
open Wk Cel
open Rcv (CV RecV LisV IntV DayV aggR)
open Ap (RowI Grew)
set_option maxHeartbeats 25600000 in
set_option maxRecDepth 100000 in
theorem eonB (month k v d m L : Int) (x : CV) (c : Int) (w w2 : World) (gm gr : Nat) (hgR : w.heap.size ≤ w.heap.size + 1) (d2 : gr ≠ w.heap.size + 1) (d3 : gr ≠ gm) (d4 : w.heap.size + 1 ≠ gm) (gw : w.heap.size ≤ gr) (_d1 : gr ≠ w.heap.size) (hv : 0 ≤ v ∧ v ≤ 6) (hk : 1 ≤ k ∧ k ≤ 4) (hd : 0 ≤ d ∧ d ≤ 31) (_lb : 0 ≤ L ∧ L ≤ 31) (e1 : ¬ m < -40) (e1' : ¬ 40 < m) (ek : ¬ k = 2) (_mo1 : 1 ≤ month) (_mo2 : month ≤ 12) (HLL : Hid (Cal.mlen 2001 month = L))
    (HH : Hid (unO (if L < d ∨ fromV k d m < 1 ∨ L < toV k d m then none else if k = 1 then some (rcv month [] [d + m]) else if fromV k d m % 7 = 1 ∧ fromV k d m ≤ 22 then some (rcv month [(fromV k d m / 7 + 1, (v + m) % 7)] []) else some (rcv month [(0, (v + m) % 7)] (sevL (fromV k d m) 7))) = (x, c)))
    (O2 : Hid (Cs w.heap.size w2 [.int .i64 k, .int .i64 v, .int .i64 d])) (R2 : Hid (Cs (w.heap.size + 1) w2 [.int .i64 0, .int .i64 0, .int .i64 0, .bool false, .int .i64 0, .bool false, .slice none 0 0, .slice none 0 0, .slice none 0 0, .slice none 0 0, .slice none 0 0, .slice none 0 0, .slice none 0 0, .slice none 0 0, .slice none 0 0, .int .i64 0])) (M2 : Hid (Cs gm w2 [.int .i64 month])) (A2 : Hid (Cs gr w2 [.int .i64 7, .int .i64 1, .int .i64 0, .bool false, .int .i64 0, .bool false, .slice none 0 0, .slice none 0 0, .slice none 0 0, .slice none 0 0, .slice none 0 0, .slice none 0 0, .slice none 0 0, .slice (some ⟨gm, 0, none⟩) 1 1, .slice none 0 0, .int .i64 1])) (B2 : Hid (Below w.heap.size w w2))
    (x1 x3 x5 x7 x8 x10 x11 x12 x13 x14 x15 x16 x17 x18 x19 x20 x21 x22 x23 x24 x25 x26 x27 x28 x29 x30 x31 x32 x33 x34 x35 x36 x37 x38 x39 x40 x41 x42 x43 x44 x45 x46 x47 x48 x49 x50 x51 x52 x53 x54 x55 x56 x57 x58 x59 x60 x61 x62 x63 x64 x65 x66 x67 x68 x69 x70 x71 x72 x73 x74 x75 x76 x77 x78 x79 x80 x81 x82 x83 x84 x85 x86 x87 x88 x89 x90 x91 x92 x93 x94 x95 x96 x97 x98 x99 x100 x101 x102 x103 x104 x105 x106 x107 x108 x109 x110 x111 x112 x113 : Value) : Code.wp Tryz.prog codeB (bodyPost Tryz.prog Tryz.f5 (EonQ x c w)) ⟨List.toArray (.int .i64 month :: x1 :: .int .i64 m :: x3 :: .pointer (some ⟨w.heap.size, 0, none⟩) :: x5 :: .pointer (some ⟨w.heap.size + 1, 0, none⟩) :: x7 :: x8 :: .pointer (some ⟨gr, 0, none⟩) :: x10 :: x11 :: x12 :: x13 :: x14 :: x15 :: x16 :: x17 :: x18 :: x19 :: x20 :: x21 :: x22 :: x23 :: x24 :: x25 :: x26 :: x27 :: x28 :: x29 :: x30 :: x31 :: x32 :: x33 :: x34 :: x35 :: x36 :: x37 :: x38 :: x39 :: x40 :: x41 :: x42 :: x43 :: x44 :: x45 :: x46 :: x47 :: x48 :: x49 :: x50 :: x51 :: x52 :: x53 :: x54 :: x55 :: x56 :: x57 :: x58 :: x59 :: x60 :: x61 :: x62 :: x63 :: x64 :: x65 :: x66 :: x67 :: x68 :: x69 :: x70 :: x71 :: x72 :: x73 :: x74 :: x75 :: x76 :: x77 :: x78 :: x79 :: x80 :: x81 :: x82 :: x83 :: x84 :: x85 :: x86 :: x87 :: x88 :: x89 :: x90 :: x91 :: x92 :: x93 :: x94 :: x95 :: x96 :: x97 :: x98 :: x99 :: x100 :: x101 :: x102 :: x103 :: x104 :: x105 :: x106 :: x107 :: x108 :: x109 :: x110 :: x111 :: x112 :: x113 :: []), []⟩ w2 := by
  conv => arg 2; whnf
  have q0 := (O2.out.2 0 _ rfl).1
  have q1 := (O2.out.2 1 _ rfl).1
  have q2 := (O2.out.2 2 _ rfl).1
  have hk2 : (k == 2) = false := beq_eq_false_iff_ne.2 ek
  obtain ⟨P, hP⟩ : ∃ a, fromV k d m = a := ⟨_, rfl⟩
  obtain ⟨T, hT⟩ : ∃ a, toV k d m = a := ⟨_, rfl⟩
  have HP := Lib.hid (And.intro hP hT)
  have bP : -50 ≤ P ∧ P ≤ 80 := by rw [← hP, fromV]; split <;> omega
  have bT : -50 ≤ T ∧ T ≤ 80 := by rw [← hT, toV]; split <;> omega
  have hPT : k = 1 ∧ P = d + m ∨ k ≠ 1 ∧ T = P + 6 := by
    rw [← hP, ← hT, fromV, toV]
    by_cases c1 : k = 1
    · left; exact ⟨c1, by rw [if_neg (by omega)]⟩
    · right
      refine ⟨c1, ?_⟩
      by_cases c3 : k = 3
      · rw [if_pos c3, if_neg (by omega)]
      · rw [if_neg c3, if_pos (by omega)]; omega
  have HH := Lib.hid (by
    have q := HH.out
    rw [hP, hT] at q; exact q)
  clear hP hT
  go_wp2_with fail
  refine (days_to k v d m P T _ hk hd (by omega) HP).mono ?_
  rintro e w3 ⟨rfl, m3⟩
  have O3 := Lib.hid (O2.out.below m3)
  have R3 := Lib.hid (R2.out.below m3)
  have M3 := Lib.hid (M2.out.below m3)
  have A3 := Lib.hid (A2.out.below m3)
  have B3 := Lib.hid (bstep B2.out m3)
  clear m3 O2 R2 M2 A2 B2 q0 q1 q2
  have q0 := (O3.out.2 0 _ rfl).1
  have q1 := (O3.out.2 1 _ rfl).1
  have q2 := (O3.out.2 2 _ rfl).1
  go_wp2_with fail
  refine (mlen_to 2001 month L _ HLL).mono ?_
  rintro e w4 ⟨rfl, rfl⟩
  by_cases f1 : L < d
  case pos =>
    have HF := Lib.hid (show (CV.zero, (17 : Int)) = (x, c) from by
      have q := HH.out
      rw [if_pos (Or.inl f1)] at q; exact q)
    clear HH
--<x
    obtain ⟨⟨s0, s1, s2, s3, s4, s5, s6, s7, s8, s9, s10, s11, s12, s13, s14, s15⟩, y0, y1, y2, y3, y4, y5, y6, y7, y8, y9, y10, y11, y12, y13, y14, y15⟩ := cells16 R3.out
    go_wp2
    refine bodyPost_ret (v := .tuple #[.agg #[.int .i64 0, .int .i64 0, .int .i64 0, .bool false, .int .i64 0, .bool false, .slice none 0 0, .slice none 0 0, .slice none 0 0, .slice none 0 0, .slice none 0 0, .slice none 0 0, .slice none 0 0, .slice none 0 0, .slice none 0 0, .int .i64 0], .int .i64 17]) (res_by (set16 R3.out _ _ _ _ _ _ _ _ _ _ _ _ _ _ _ _) (fun W h => by obtain ⟨⟨t0, t1, t2, t3, t4, t5, t6, t7, t8, t9, t10, t11, t12, t13, t14, t15⟩, _⟩ := cells16 h; simp [results, Tryz.results5, go_sem, t0, t1, t2, t3, t4, t5, t6, t7, t8, t9, t10, t11, t12, t13, t14, t15])) rfl ?_
    obtain ⟨rfl, rfl⟩ := Prod.mk.inj HF.out
    exact eon_no rfl rfl (below16 hgR B3.out _ _ _ _ _ _ _ _ _ _ _ _ _ _ _ _)
--x>
  by_cases f2 : P < 1
  case pos =>
    have HF := Lib.hid (show (CV.zero, (17 : Int)) = (x, c) from by
      have q := HH.out
      rw [if_pos (Or.inr (Or.inl f2))] at q; exact q)
    clear HH
--<x
    obtain ⟨⟨s0, s1, s2, s3, s4, s5, s6, s7, s8, s9, s10, s11, s12, s13, s14, s15⟩, y0, y1, y2, y3, y4, y5, y6, y7, y8, y9, y10, y11, y12, y13, y14, y15⟩ := cells16 R3.out
    go_wp2
    refine bodyPost_ret (v := .tuple #[.agg #[.int .i64 0, .int .i64 0, .int .i64 0, .bool false, .int .i64 0, .bool false, .slice none 0 0, .slice none 0 0, .slice none 0 0, .slice none 0 0, .slice none 0 0, .slice none 0 0, .slice none 0 0, .slice none 0 0, .slice none 0 0, .int .i64 0], .int .i64 17]) (res_by (set16 R3.out _ _ _ _ _ _ _ _ _ _ _ _ _ _ _ _) (fun W h => by obtain ⟨⟨t0, t1, t2, t3, t4, t5, t6, t7, t8, t9, t10, t11, t12, t13, t14, t15⟩, _⟩ := cells16 h; simp [results, Tryz.results5, go_sem, t0, t1, t2, t3, t4, t5, t6, t7, t8, t9, t10, t11, t12, t13, t14, t15])) rfl ?_
    obtain ⟨rfl, rfl⟩ := Prod.mk.inj HF.out
    exact eon_no rfl rfl (below16 hgR B3.out _ _ _ _ _ _ _ _ _ _ _ _ _ _ _ _)
--x>
  by_cases f3 : L < T
  case pos =>
    have HF := Lib.hid (show (CV.zero, (17 : Int)) = (x, c) from by
      have q := HH.out
      rw [if_pos (Or.inr (Or.inr f3))] at q; exact q)
    clear HH
--<x
    obtain ⟨⟨s0, s1, s2, s3, s4, s5, s6, s7, s8, s9, s10, s11, s12, s13, s14, s15⟩, y0, y1, y2, y3, y4, y5, y6, y7, y8, y9, y10, y11, y12, y13, y14, y15⟩ := cells16 R3.out
    go_wp2
    refine bodyPost_ret (v := .tuple #[.agg #[.int .i64 0, .int .i64 0, .int .i64 0, .bool false, .int .i64 0, .bool false, .slice none 0 0, .slice none 0 0, .slice none 0 0, .slice none 0 0, .slice none 0 0, .slice none 0 0, .slice none 0 0, .slice none 0 0, .slice none 0 0, .int .i64 0], .int .i64 17]) (res_by (set16 R3.out _ _ _ _ _ _ _ _ _ _ _ _ _ _ _ _) (fun W h => by obtain ⟨⟨t0, t1, t2, t3, t4, t5, t6, t7, t8, t9, t10, t11, t12, t13, t14, t15⟩, _⟩ := cells16 h; simp [results, Tryz.results5, go_sem, t0, t1, t2, t3, t4, t5, t6, t7, t8, t9, t10, t11, t12, t13, t14, t15])) rfl ?_
    obtain ⟨rfl, rfl⟩ := Prod.mk.inj HF.out
    exact eon_no rfl rfl (below16 hgR B3.out _ _ _ _ _ _ _ _ _ _ _ _ _ _ _ _)
--x>
  have HH := Lib.hid (by
    have q := HH.out
    rw [if_neg (by omega)] at q; exact q)
  go_upto_if 70 with fail
  go_cut [] (fun wz => w3 = wz)
  case first =>
    go_wp2
    go_meet
    exact rfl
  case rest =>
  subst hcut
  rename_i hK
  exact hK _ _ (eonT month k v d m P T L x c w w3 gm gr hv (by omega) (by omega) bP bT hPT (by omega) hgR d2 d3 d4 gw HH O3 R3 M3 A3 B3 _ _ _ _ _ _ _ _ _ _ _ _ _ _ _ _ _ _ _ _ _ _ _ _ _ _ _ _ _ _ _ _ _ _ _ _ _ _ _ _ _ _ _ _ _ _ _ _ _ _ _ _ _ _ _ _ _ _ _ _ _ _ _ _ _ _ _ _ _ _ _ _ _ _ _ _ _ _ _ _ _ _ _ _ _ _ _ _ _ _ _ _ _ _ _ _ _ _ _ _ _ _ _ _ _ _)
end Enc
end Go.Proofs.YtpbbnkgfheafpaaGreatDoor
