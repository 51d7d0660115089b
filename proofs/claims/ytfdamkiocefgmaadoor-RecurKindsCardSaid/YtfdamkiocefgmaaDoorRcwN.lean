/-
  RecurKinds: the law's last region, a frequency at a time. (Written by gen/gen_rcwk.py.)
-/
import Derived.Test.YtfdamkiocefgmaaDoorRcwL
namespace Go.Proofs.YtfdamkiocefgmaaDoor
open Go.RowKit
namespace Rct
open Cel
open Rcp
open Rcv (CV IntV DayV LisV RecV)
open Rck (ckE Small)
open Civ (Ahead)
set_option maxHeartbeats 12800000 in
set_option maxRecDepth 100000 in
theorem kndT1 (w w6 : World) (TT : Hid (Tabs w)) (g1 g2 g3 g4 g5 g6 : Nat) (B_kn1 : Hid (BlkX w6 (.pointer (some ⟨g1, 0, none⟩)) (kn1 1))) (B_kn2 : Hid (BlkX w6 (.pointer (some ⟨g2, 0, none⟩)) (kn2 1))) (B_kn3 : Hid (BlkX w6 (.pointer (some ⟨g3, 0, none⟩)) (kn3 1))) (B_kn4 : Hid (BlkX w6 (.pointer (some ⟨g4, 0, none⟩)) (kn4 1))) (B_kn5 : Hid (BlkX w6 (.pointer (some ⟨g5, 0, none⟩)) (kn5 1))) (B_kn6 : Hid (BlkX w6 (.pointer (some ⟨g6, 0, none⟩)) (kn6 1))) (BB : Hid (Below w.heap.size w w6))
    (x1 x2 x9 x10 x11 x12 x13 x14 x15 x16 x17 x18 x19 x20 x21 x22 x23 x24 x25 x26 x27 x28 x29 x30 x31 x32 x33 x34 x35 x36 x37 x38 x39 x40 x41 x42 x43 x44 x45 x46 x47 x48 x49 x50 x51 x52 x53 x54 x55 x56 x57 x58 x59 x60 x61 x62 x63 x64 x65 x66 x67 x68 x69 x70 x71 x72 x73 x74 x75 x76 x77 x78 x79 x80 x81 x82 x83 x84 x85 : Value) : Code.wp Tryd.prog codeK (bodyPost Tryd.prog Tryd.f4 (fun e w' => e = .returned (.bool true) ∧ Below w.heap.size w w')) ⟨List.toArray (.int .i64 1 :: x1 :: x2 :: .pointer (some ⟨g1, 0, none⟩) :: .pointer (some ⟨g2, 0, none⟩) :: .pointer (some ⟨g3, 0, none⟩) :: .pointer (some ⟨g4, 0, none⟩) :: .pointer (some ⟨g5, 0, none⟩) :: .pointer (some ⟨g6, 0, none⟩) :: x9 :: x10 :: x11 :: x12 :: x13 :: x14 :: x15 :: x16 :: x17 :: x18 :: x19 :: x20 :: x21 :: x22 :: x23 :: x24 :: x25 :: x26 :: x27 :: x28 :: x29 :: x30 :: x31 :: x32 :: x33 :: x34 :: x35 :: x36 :: x37 :: x38 :: x39 :: x40 :: x41 :: x42 :: x43 :: x44 :: x45 :: x46 :: x47 :: x48 :: x49 :: x50 :: x51 :: x52 :: x53 :: x54 :: x55 :: x56 :: x57 :: x58 :: x59 :: x60 :: x61 :: x62 :: x63 :: x64 :: x65 :: x66 :: x67 :: x68 :: x69 :: x70 :: x71 :: x72 :: x73 :: x74 :: x75 :: x76 :: x77 :: x78 :: x79 :: x80 :: x81 :: x82 :: x83 :: x84 :: x85 :: []), []⟩ w6 := by
  conv => arg 2; whnf
  obtain ⟨q1, t16, t17, t18, t19, t110, t111, t112, t113, t114, hq1, hc1, hl1⟩ := B_kn1.out
  obtain rfl : g1 = q1 := by simpa using hq1
  have C1 := Lib.hid hc1
  have L1 := Lib.hid hl1
  have HK1 : Hid (ckE (kn1 1) = 21) := Lib.hid (by decide +kernel)
  obtain ⟨q2, t26, t27, t28, t29, t210, t211, t212, t213, t214, hq2, hc2, hl2⟩ := B_kn2.out
  obtain rfl : g2 = q2 := by simpa using hq2
  have C2 := Lib.hid hc2
  have L2 := Lib.hid hl2
  have HK2 : Hid (ckE (kn2 1) = 0) := Lib.hid (by decide +kernel)
  obtain ⟨q3, t36, t37, t38, t39, t310, t311, t312, t313, t314, hq3, hc3, hl3⟩ := B_kn3.out
  obtain rfl : g3 = q3 := by simpa using hq3
  have C3 := Lib.hid hc3
  have L3 := Lib.hid hl3
  have HK3 : Hid (ckE (kn3 1) = 0) := Lib.hid (by decide +kernel)
  obtain ⟨q4, t46, t47, t48, t49, t410, t411, t412, t413, t414, hq4, hc4, hl4⟩ := B_kn4.out
  obtain rfl : g4 = q4 := by simpa using hq4
  have C4 := Lib.hid hc4
  have L4 := Lib.hid hl4
  have HK4 : Hid (ckE (kn4 1) = 21) := Lib.hid (by decide +kernel)
  obtain ⟨q5, t56, t57, t58, t59, t510, t511, t512, t513, t514, hq5, hc5, hl5⟩ := B_kn5.out
  obtain rfl : g5 = q5 := by simpa using hq5
  have C5 := Lib.hid hc5
  have L5 := Lib.hid hl5
  have HK5 : Hid (ckE (kn5 1) = 21) := Lib.hid (by decide +kernel)
  obtain ⟨q6, t66, t67, t68, t69, t610, t611, t612, t613, t614, hq6, hc6, hl6⟩ := B_kn6.out
  obtain rfl : g6 = q6 := by simpa using hq6
  have C6 := Lib.hid hc6
  have L6 := Lib.hid hl6
  have HK6 : Hid (ckE (kn6 1) = 0) := Lib.hid (by decide +kernel)
  clear hq1 hc1 hl1 B_kn1 hq2 hc2 hl2 B_kn2 hq3 hc3 hl3 B_kn3 hq4 hc4 hl4 B_kn4 hq5 hc5 hl5 B_kn5 hq6 hc6 hl6 B_kn6
  go_wp2_with (refine kn_load C1.out rfl (by rfl) (by rfl) (by rfl) ?_; intro K hK; go_simp)
  refine (chk_b (x := kn1 1) _ _ _ _ _ _ _ _ _ (TT.out.stays BB.out).2.2.2.1 rfl L1.out (by simp [kn1]) HK1).mono ?_
  rintro e v1 ⟨rfl, k1⟩
  have C2 := Lib.hid (C2.out.below k1)
  have L2 := Lib.hid (L2.out.below k1)
  have C3 := Lib.hid (C3.out.below k1)
  have L3 := Lib.hid (L3.out.below k1)
  have C4 := Lib.hid (C4.out.below k1)
  have L4 := Lib.hid (L4.out.below k1)
  have C5 := Lib.hid (C5.out.below k1)
  have L5 := Lib.hid (L5.out.below k1)
  have C6 := Lib.hid (C6.out.below k1)
  have L6 := Lib.hid (L6.out.below k1)
  have BB := Lib.hid (bstep BB.out k1)
  clear k1 C1 L1 HK1
  go_wp2_with (refine kn_load C2.out rfl (by rfl) (by rfl) (by rfl) ?_; intro K hK; go_simp)
  refine (chk_b (x := kn2 1) _ _ _ _ _ _ _ _ _ (TT.out.stays BB.out).2.2.2.1 rfl L2.out (by simp [kn2]) HK2).mono ?_
  rintro e v2 ⟨rfl, k2⟩
  have C3 := Lib.hid (C3.out.below k2)
  have L3 := Lib.hid (L3.out.below k2)
  have C4 := Lib.hid (C4.out.below k2)
  have L4 := Lib.hid (L4.out.below k2)
  have C5 := Lib.hid (C5.out.below k2)
  have L5 := Lib.hid (L5.out.below k2)
  have C6 := Lib.hid (C6.out.below k2)
  have L6 := Lib.hid (L6.out.below k2)
  have BB := Lib.hid (bstep BB.out k2)
  clear k2 C2 L2 HK2
  go_wp2_with (refine kn_load C3.out rfl (by rfl) (by rfl) (by rfl) ?_; intro K hK; go_simp)
  refine (chk_b (x := kn3 1) _ _ _ _ _ _ _ _ _ (TT.out.stays BB.out).2.2.2.1 rfl L3.out (by simp [kn3]) HK3).mono ?_
  rintro e v3 ⟨rfl, k3⟩
  have C4 := Lib.hid (C4.out.below k3)
  have L4 := Lib.hid (L4.out.below k3)
  have C5 := Lib.hid (C5.out.below k3)
  have L5 := Lib.hid (L5.out.below k3)
  have C6 := Lib.hid (C6.out.below k3)
  have L6 := Lib.hid (L6.out.below k3)
  have BB := Lib.hid (bstep BB.out k3)
  clear k3 C3 L3 HK3
  go_wp2_with (refine kn_load C4.out rfl (by rfl) (by rfl) (by rfl) ?_; intro K hK; go_simp)
  refine (chk_b (x := kn4 1) _ _ _ _ _ _ _ _ _ (TT.out.stays BB.out).2.2.2.1 rfl L4.out (by simp [kn4]) HK4).mono ?_
  rintro e v4 ⟨rfl, k4⟩
  have C5 := Lib.hid (C5.out.below k4)
  have L5 := Lib.hid (L5.out.below k4)
  have C6 := Lib.hid (C6.out.below k4)
  have L6 := Lib.hid (L6.out.below k4)
  have BB := Lib.hid (bstep BB.out k4)
  clear k4 C4 L4 HK4
  go_wp2_with (refine kn_load C5.out rfl (by rfl) (by rfl) (by rfl) ?_; intro K hK; go_simp)
  refine (chk_b (x := kn5 1) _ _ _ _ _ _ _ _ _ (TT.out.stays BB.out).2.2.2.1 rfl L5.out (by simp [kn5]) HK5).mono ?_
  rintro e v5 ⟨rfl, k5⟩
  have C6 := Lib.hid (C6.out.below k5)
  have L6 := Lib.hid (L6.out.below k5)
  have BB := Lib.hid (bstep BB.out k5)
  clear k5 C5 L5 HK5
  go_wp2_with (refine kn_load C6.out rfl (by rfl) (by rfl) (by rfl) ?_; intro K hK; go_simp)
  refine (chk_b (x := kn6 1) _ _ _ _ _ _ _ _ _ (TT.out.stays BB.out).2.2.2.1 rfl L6.out (by simp [kn6]) HK6).mono ?_
  rintro e v6 ⟨rfl, k6⟩
  have BB := Lib.hid (bstep BB.out k6)
  clear k6 C6 L6 HK6
  go_wp2_with fail
  refine (wakes21_any _ (TT.out.stays BB.out)).mono ?_
  rintro e v7 ⟨rfl, k7⟩
  go_wp2
  go_ret
  exact ⟨rfl, bstep BB.out k7⟩
set_option maxHeartbeats 12800000 in
set_option maxRecDepth 100000 in
theorem kndT2 (w w6 : World) (TT : Hid (Tabs w)) (g1 g2 g3 g4 g5 g6 : Nat) (B_kn1 : Hid (BlkX w6 (.pointer (some ⟨g1, 0, none⟩)) (kn1 2))) (B_kn2 : Hid (BlkX w6 (.pointer (some ⟨g2, 0, none⟩)) (kn2 2))) (B_kn3 : Hid (BlkX w6 (.pointer (some ⟨g3, 0, none⟩)) (kn3 2))) (B_kn4 : Hid (BlkX w6 (.pointer (some ⟨g4, 0, none⟩)) (kn4 2))) (B_kn5 : Hid (BlkX w6 (.pointer (some ⟨g5, 0, none⟩)) (kn5 2))) (B_kn6 : Hid (BlkX w6 (.pointer (some ⟨g6, 0, none⟩)) (kn6 2))) (BB : Hid (Below w.heap.size w w6))
    (x1 x2 x9 x10 x11 x12 x13 x14 x15 x16 x17 x18 x19 x20 x21 x22 x23 x24 x25 x26 x27 x28 x29 x30 x31 x32 x33 x34 x35 x36 x37 x38 x39 x40 x41 x42 x43 x44 x45 x46 x47 x48 x49 x50 x51 x52 x53 x54 x55 x56 x57 x58 x59 x60 x61 x62 x63 x64 x65 x66 x67 x68 x69 x70 x71 x72 x73 x74 x75 x76 x77 x78 x79 x80 x81 x82 x83 x84 x85 : Value) : Code.wp Tryd.prog codeK (bodyPost Tryd.prog Tryd.f4 (fun e w' => e = .returned (.bool true) ∧ Below w.heap.size w w')) ⟨List.toArray (.int .i64 2 :: x1 :: x2 :: .pointer (some ⟨g1, 0, none⟩) :: .pointer (some ⟨g2, 0, none⟩) :: .pointer (some ⟨g3, 0, none⟩) :: .pointer (some ⟨g4, 0, none⟩) :: .pointer (some ⟨g5, 0, none⟩) :: .pointer (some ⟨g6, 0, none⟩) :: x9 :: x10 :: x11 :: x12 :: x13 :: x14 :: x15 :: x16 :: x17 :: x18 :: x19 :: x20 :: x21 :: x22 :: x23 :: x24 :: x25 :: x26 :: x27 :: x28 :: x29 :: x30 :: x31 :: x32 :: x33 :: x34 :: x35 :: x36 :: x37 :: x38 :: x39 :: x40 :: x41 :: x42 :: x43 :: x44 :: x45 :: x46 :: x47 :: x48 :: x49 :: x50 :: x51 :: x52 :: x53 :: x54 :: x55 :: x56 :: x57 :: x58 :: x59 :: x60 :: x61 :: x62 :: x63 :: x64 :: x65 :: x66 :: x67 :: x68 :: x69 :: x70 :: x71 :: x72 :: x73 :: x74 :: x75 :: x76 :: x77 :: x78 :: x79 :: x80 :: x81 :: x82 :: x83 :: x84 :: x85 :: []), []⟩ w6 := by
  conv => arg 2; whnf
  obtain ⟨q1, t16, t17, t18, t19, t110, t111, t112, t113, t114, hq1, hc1, hl1⟩ := B_kn1.out
  obtain rfl : g1 = q1 := by simpa using hq1
  have C1 := Lib.hid hc1
  have L1 := Lib.hid hl1
  have HK1 : Hid (ckE (kn1 2) = 21) := Lib.hid (by decide +kernel)
  obtain ⟨q2, t26, t27, t28, t29, t210, t211, t212, t213, t214, hq2, hc2, hl2⟩ := B_kn2.out
  obtain rfl : g2 = q2 := by simpa using hq2
  have C2 := Lib.hid hc2
  have L2 := Lib.hid hl2
  have HK2 : Hid (ckE (kn2 2) = 0) := Lib.hid (by decide +kernel)
  obtain ⟨q3, t36, t37, t38, t39, t310, t311, t312, t313, t314, hq3, hc3, hl3⟩ := B_kn3.out
  obtain rfl : g3 = q3 := by simpa using hq3
  have C3 := Lib.hid hc3
  have L3 := Lib.hid hl3
  have HK3 : Hid (ckE (kn3 2) = 0) := Lib.hid (by decide +kernel)
  obtain ⟨q4, t46, t47, t48, t49, t410, t411, t412, t413, t414, hq4, hc4, hl4⟩ := B_kn4.out
  obtain rfl : g4 = q4 := by simpa using hq4
  have C4 := Lib.hid hc4
  have L4 := Lib.hid hl4
  have HK4 : Hid (ckE (kn4 2) = 21) := Lib.hid (by decide +kernel)
  obtain ⟨q5, t56, t57, t58, t59, t510, t511, t512, t513, t514, hq5, hc5, hl5⟩ := B_kn5.out
  obtain rfl : g5 = q5 := by simpa using hq5
  have C5 := Lib.hid hc5
  have L5 := Lib.hid hl5
  have HK5 : Hid (ckE (kn5 2) = 21) := Lib.hid (by decide +kernel)
  obtain ⟨q6, t66, t67, t68, t69, t610, t611, t612, t613, t614, hq6, hc6, hl6⟩ := B_kn6.out
  obtain rfl : g6 = q6 := by simpa using hq6
  have C6 := Lib.hid hc6
  have L6 := Lib.hid hl6
  have HK6 : Hid (ckE (kn6 2) = 0) := Lib.hid (by decide +kernel)
  clear hq1 hc1 hl1 B_kn1 hq2 hc2 hl2 B_kn2 hq3 hc3 hl3 B_kn3 hq4 hc4 hl4 B_kn4 hq5 hc5 hl5 B_kn5 hq6 hc6 hl6 B_kn6
  go_wp2_with (refine kn_load C1.out rfl (by rfl) (by rfl) (by rfl) ?_; intro K hK; go_simp)
  refine (chk_b (x := kn1 2) _ _ _ _ _ _ _ _ _ (TT.out.stays BB.out).2.2.2.1 rfl L1.out (by simp [kn1]) HK1).mono ?_
  rintro e v1 ⟨rfl, k1⟩
  have C2 := Lib.hid (C2.out.below k1)
  have L2 := Lib.hid (L2.out.below k1)
  have C3 := Lib.hid (C3.out.below k1)
  have L3 := Lib.hid (L3.out.below k1)
  have C4 := Lib.hid (C4.out.below k1)
  have L4 := Lib.hid (L4.out.below k1)
  have C5 := Lib.hid (C5.out.below k1)
  have L5 := Lib.hid (L5.out.below k1)
  have C6 := Lib.hid (C6.out.below k1)
  have L6 := Lib.hid (L6.out.below k1)
  have BB := Lib.hid (bstep BB.out k1)
  clear k1 C1 L1 HK1
  go_wp2_with (refine kn_load C2.out rfl (by rfl) (by rfl) (by rfl) ?_; intro K hK; go_simp)
  refine (chk_b (x := kn2 2) _ _ _ _ _ _ _ _ _ (TT.out.stays BB.out).2.2.2.1 rfl L2.out (by simp [kn2]) HK2).mono ?_
  rintro e v2 ⟨rfl, k2⟩
  have C3 := Lib.hid (C3.out.below k2)
  have L3 := Lib.hid (L3.out.below k2)
  have C4 := Lib.hid (C4.out.below k2)
  have L4 := Lib.hid (L4.out.below k2)
  have C5 := Lib.hid (C5.out.below k2)
  have L5 := Lib.hid (L5.out.below k2)
  have C6 := Lib.hid (C6.out.below k2)
  have L6 := Lib.hid (L6.out.below k2)
  have BB := Lib.hid (bstep BB.out k2)
  clear k2 C2 L2 HK2
  go_wp2_with (refine kn_load C3.out rfl (by rfl) (by rfl) (by rfl) ?_; intro K hK; go_simp)
  refine (chk_b (x := kn3 2) _ _ _ _ _ _ _ _ _ (TT.out.stays BB.out).2.2.2.1 rfl L3.out (by simp [kn3]) HK3).mono ?_
  rintro e v3 ⟨rfl, k3⟩
  have C4 := Lib.hid (C4.out.below k3)
  have L4 := Lib.hid (L4.out.below k3)
  have C5 := Lib.hid (C5.out.below k3)
  have L5 := Lib.hid (L5.out.below k3)
  have C6 := Lib.hid (C6.out.below k3)
  have L6 := Lib.hid (L6.out.below k3)
  have BB := Lib.hid (bstep BB.out k3)
  clear k3 C3 L3 HK3
  go_wp2_with (refine kn_load C4.out rfl (by rfl) (by rfl) (by rfl) ?_; intro K hK; go_simp)
  refine (chk_b (x := kn4 2) _ _ _ _ _ _ _ _ _ (TT.out.stays BB.out).2.2.2.1 rfl L4.out (by simp [kn4]) HK4).mono ?_
  rintro e v4 ⟨rfl, k4⟩
  have C5 := Lib.hid (C5.out.below k4)
  have L5 := Lib.hid (L5.out.below k4)
  have C6 := Lib.hid (C6.out.below k4)
  have L6 := Lib.hid (L6.out.below k4)
  have BB := Lib.hid (bstep BB.out k4)
  clear k4 C4 L4 HK4
  go_wp2_with (refine kn_load C5.out rfl (by rfl) (by rfl) (by rfl) ?_; intro K hK; go_simp)
  refine (chk_b (x := kn5 2) _ _ _ _ _ _ _ _ _ (TT.out.stays BB.out).2.2.2.1 rfl L5.out (by simp [kn5]) HK5).mono ?_
  rintro e v5 ⟨rfl, k5⟩
  have C6 := Lib.hid (C6.out.below k5)
  have L6 := Lib.hid (L6.out.below k5)
  have BB := Lib.hid (bstep BB.out k5)
  clear k5 C5 L5 HK5
  go_wp2_with (refine kn_load C6.out rfl (by rfl) (by rfl) (by rfl) ?_; intro K hK; go_simp)
  refine (chk_b (x := kn6 2) _ _ _ _ _ _ _ _ _ (TT.out.stays BB.out).2.2.2.1 rfl L6.out (by simp [kn6]) HK6).mono ?_
  rintro e v6 ⟨rfl, k6⟩
  have BB := Lib.hid (bstep BB.out k6)
  clear k6 C6 L6 HK6
  go_wp2_with fail
  refine (wakes21_any _ (TT.out.stays BB.out)).mono ?_
  rintro e v7 ⟨rfl, k7⟩
  go_wp2
  go_ret
  exact ⟨rfl, bstep BB.out k7⟩
set_option maxHeartbeats 12800000 in
set_option maxRecDepth 100000 in
theorem kndT3 (w w6 : World) (TT : Hid (Tabs w)) (g1 g2 g3 g4 g5 g6 : Nat) (B_kn1 : Hid (BlkX w6 (.pointer (some ⟨g1, 0, none⟩)) (kn1 3))) (B_kn2 : Hid (BlkX w6 (.pointer (some ⟨g2, 0, none⟩)) (kn2 3))) (B_kn3 : Hid (BlkX w6 (.pointer (some ⟨g3, 0, none⟩)) (kn3 3))) (B_kn4 : Hid (BlkX w6 (.pointer (some ⟨g4, 0, none⟩)) (kn4 3))) (B_kn5 : Hid (BlkX w6 (.pointer (some ⟨g5, 0, none⟩)) (kn5 3))) (B_kn6 : Hid (BlkX w6 (.pointer (some ⟨g6, 0, none⟩)) (kn6 3))) (BB : Hid (Below w.heap.size w w6))
    (x1 x2 x9 x10 x11 x12 x13 x14 x15 x16 x17 x18 x19 x20 x21 x22 x23 x24 x25 x26 x27 x28 x29 x30 x31 x32 x33 x34 x35 x36 x37 x38 x39 x40 x41 x42 x43 x44 x45 x46 x47 x48 x49 x50 x51 x52 x53 x54 x55 x56 x57 x58 x59 x60 x61 x62 x63 x64 x65 x66 x67 x68 x69 x70 x71 x72 x73 x74 x75 x76 x77 x78 x79 x80 x81 x82 x83 x84 x85 : Value) : Code.wp Tryd.prog codeK (bodyPost Tryd.prog Tryd.f4 (fun e w' => e = .returned (.bool true) ∧ Below w.heap.size w w')) ⟨List.toArray (.int .i64 3 :: x1 :: x2 :: .pointer (some ⟨g1, 0, none⟩) :: .pointer (some ⟨g2, 0, none⟩) :: .pointer (some ⟨g3, 0, none⟩) :: .pointer (some ⟨g4, 0, none⟩) :: .pointer (some ⟨g5, 0, none⟩) :: .pointer (some ⟨g6, 0, none⟩) :: x9 :: x10 :: x11 :: x12 :: x13 :: x14 :: x15 :: x16 :: x17 :: x18 :: x19 :: x20 :: x21 :: x22 :: x23 :: x24 :: x25 :: x26 :: x27 :: x28 :: x29 :: x30 :: x31 :: x32 :: x33 :: x34 :: x35 :: x36 :: x37 :: x38 :: x39 :: x40 :: x41 :: x42 :: x43 :: x44 :: x45 :: x46 :: x47 :: x48 :: x49 :: x50 :: x51 :: x52 :: x53 :: x54 :: x55 :: x56 :: x57 :: x58 :: x59 :: x60 :: x61 :: x62 :: x63 :: x64 :: x65 :: x66 :: x67 :: x68 :: x69 :: x70 :: x71 :: x72 :: x73 :: x74 :: x75 :: x76 :: x77 :: x78 :: x79 :: x80 :: x81 :: x82 :: x83 :: x84 :: x85 :: []), []⟩ w6 := by
  conv => arg 2; whnf
  obtain ⟨q1, t16, t17, t18, t19, t110, t111, t112, t113, t114, hq1, hc1, hl1⟩ := B_kn1.out
  obtain rfl : g1 = q1 := by simpa using hq1
  have C1 := Lib.hid hc1
  have L1 := Lib.hid hl1
  have HK1 : Hid (ckE (kn1 3) = 21) := Lib.hid (by decide +kernel)
  obtain ⟨q2, t26, t27, t28, t29, t210, t211, t212, t213, t214, hq2, hc2, hl2⟩ := B_kn2.out
  obtain rfl : g2 = q2 := by simpa using hq2
  have C2 := Lib.hid hc2
  have L2 := Lib.hid hl2
  have HK2 : Hid (ckE (kn2 3) = 0) := Lib.hid (by decide +kernel)
  obtain ⟨q3, t36, t37, t38, t39, t310, t311, t312, t313, t314, hq3, hc3, hl3⟩ := B_kn3.out
  obtain rfl : g3 = q3 := by simpa using hq3
  have C3 := Lib.hid hc3
  have L3 := Lib.hid hl3
  have HK3 : Hid (ckE (kn3 3) = 0) := Lib.hid (by decide +kernel)
  obtain ⟨q4, t46, t47, t48, t49, t410, t411, t412, t413, t414, hq4, hc4, hl4⟩ := B_kn4.out
  obtain rfl : g4 = q4 := by simpa using hq4
  have C4 := Lib.hid hc4
  have L4 := Lib.hid hl4
  have HK4 : Hid (ckE (kn4 3) = 21) := Lib.hid (by decide +kernel)
  obtain ⟨q5, t56, t57, t58, t59, t510, t511, t512, t513, t514, hq5, hc5, hl5⟩ := B_kn5.out
  obtain rfl : g5 = q5 := by simpa using hq5
  have C5 := Lib.hid hc5
  have L5 := Lib.hid hl5
  have HK5 : Hid (ckE (kn5 3) = 21) := Lib.hid (by decide +kernel)
  obtain ⟨q6, t66, t67, t68, t69, t610, t611, t612, t613, t614, hq6, hc6, hl6⟩ := B_kn6.out
  obtain rfl : g6 = q6 := by simpa using hq6
  have C6 := Lib.hid hc6
  have L6 := Lib.hid hl6
  have HK6 : Hid (ckE (kn6 3) = 0) := Lib.hid (by decide +kernel)
  clear hq1 hc1 hl1 B_kn1 hq2 hc2 hl2 B_kn2 hq3 hc3 hl3 B_kn3 hq4 hc4 hl4 B_kn4 hq5 hc5 hl5 B_kn5 hq6 hc6 hl6 B_kn6
  go_wp2_with (refine kn_load C1.out rfl (by rfl) (by rfl) (by rfl) ?_; intro K hK; go_simp)
  refine (chk_b (x := kn1 3) _ _ _ _ _ _ _ _ _ (TT.out.stays BB.out).2.2.2.1 rfl L1.out (by simp [kn1]) HK1).mono ?_
  rintro e v1 ⟨rfl, k1⟩
  have C2 := Lib.hid (C2.out.below k1)
  have L2 := Lib.hid (L2.out.below k1)
  have C3 := Lib.hid (C3.out.below k1)
  have L3 := Lib.hid (L3.out.below k1)
  have C4 := Lib.hid (C4.out.below k1)
  have L4 := Lib.hid (L4.out.below k1)
  have C5 := Lib.hid (C5.out.below k1)
  have L5 := Lib.hid (L5.out.below k1)
  have C6 := Lib.hid (C6.out.below k1)
  have L6 := Lib.hid (L6.out.below k1)
  have BB := Lib.hid (bstep BB.out k1)
  clear k1 C1 L1 HK1
  go_wp2_with (refine kn_load C2.out rfl (by rfl) (by rfl) (by rfl) ?_; intro K hK; go_simp)
  refine (chk_b (x := kn2 3) _ _ _ _ _ _ _ _ _ (TT.out.stays BB.out).2.2.2.1 rfl L2.out (by simp [kn2]) HK2).mono ?_
  rintro e v2 ⟨rfl, k2⟩
  have C3 := Lib.hid (C3.out.below k2)
  have L3 := Lib.hid (L3.out.below k2)
  have C4 := Lib.hid (C4.out.below k2)
  have L4 := Lib.hid (L4.out.below k2)
  have C5 := Lib.hid (C5.out.below k2)
  have L5 := Lib.hid (L5.out.below k2)
  have C6 := Lib.hid (C6.out.below k2)
  have L6 := Lib.hid (L6.out.below k2)
  have BB := Lib.hid (bstep BB.out k2)
  clear k2 C2 L2 HK2
  go_wp2_with (refine kn_load C3.out rfl (by rfl) (by rfl) (by rfl) ?_; intro K hK; go_simp)
  refine (chk_b (x := kn3 3) _ _ _ _ _ _ _ _ _ (TT.out.stays BB.out).2.2.2.1 rfl L3.out (by simp [kn3]) HK3).mono ?_
  rintro e v3 ⟨rfl, k3⟩
  have C4 := Lib.hid (C4.out.below k3)
  have L4 := Lib.hid (L4.out.below k3)
  have C5 := Lib.hid (C5.out.below k3)
  have L5 := Lib.hid (L5.out.below k3)
  have C6 := Lib.hid (C6.out.below k3)
  have L6 := Lib.hid (L6.out.below k3)
  have BB := Lib.hid (bstep BB.out k3)
  clear k3 C3 L3 HK3
  go_wp2_with (refine kn_load C4.out rfl (by rfl) (by rfl) (by rfl) ?_; intro K hK; go_simp)
  refine (chk_b (x := kn4 3) _ _ _ _ _ _ _ _ _ (TT.out.stays BB.out).2.2.2.1 rfl L4.out (by simp [kn4]) HK4).mono ?_
  rintro e v4 ⟨rfl, k4⟩
  have C5 := Lib.hid (C5.out.below k4)
  have L5 := Lib.hid (L5.out.below k4)
  have C6 := Lib.hid (C6.out.below k4)
  have L6 := Lib.hid (L6.out.below k4)
  have BB := Lib.hid (bstep BB.out k4)
  clear k4 C4 L4 HK4
  go_wp2_with (refine kn_load C5.out rfl (by rfl) (by rfl) (by rfl) ?_; intro K hK; go_simp)
  refine (chk_b (x := kn5 3) _ _ _ _ _ _ _ _ _ (TT.out.stays BB.out).2.2.2.1 rfl L5.out (by simp [kn5]) HK5).mono ?_
  rintro e v5 ⟨rfl, k5⟩
  have C6 := Lib.hid (C6.out.below k5)
  have L6 := Lib.hid (L6.out.below k5)
  have BB := Lib.hid (bstep BB.out k5)
  clear k5 C5 L5 HK5
  go_wp2_with (refine kn_load C6.out rfl (by rfl) (by rfl) (by rfl) ?_; intro K hK; go_simp)
  refine (chk_b (x := kn6 3) _ _ _ _ _ _ _ _ _ (TT.out.stays BB.out).2.2.2.1 rfl L6.out (by simp [kn6]) HK6).mono ?_
  rintro e v6 ⟨rfl, k6⟩
  have BB := Lib.hid (bstep BB.out k6)
  clear k6 C6 L6 HK6
  go_wp2_with fail
  refine (wakes21_any _ (TT.out.stays BB.out)).mono ?_
  rintro e v7 ⟨rfl, k7⟩
  go_wp2
  go_ret
  exact ⟨rfl, bstep BB.out k7⟩
set_option maxHeartbeats 12800000 in
set_option maxRecDepth 100000 in
theorem kndT4 (w w6 : World) (TT : Hid (Tabs w)) (g1 g2 g3 g4 g5 g6 : Nat) (B_kn1 : Hid (BlkX w6 (.pointer (some ⟨g1, 0, none⟩)) (kn1 4))) (B_kn2 : Hid (BlkX w6 (.pointer (some ⟨g2, 0, none⟩)) (kn2 4))) (B_kn3 : Hid (BlkX w6 (.pointer (some ⟨g3, 0, none⟩)) (kn3 4))) (B_kn4 : Hid (BlkX w6 (.pointer (some ⟨g4, 0, none⟩)) (kn4 4))) (B_kn5 : Hid (BlkX w6 (.pointer (some ⟨g5, 0, none⟩)) (kn5 4))) (B_kn6 : Hid (BlkX w6 (.pointer (some ⟨g6, 0, none⟩)) (kn6 4))) (BB : Hid (Below w.heap.size w w6))
    (x1 x2 x9 x10 x11 x12 x13 x14 x15 x16 x17 x18 x19 x20 x21 x22 x23 x24 x25 x26 x27 x28 x29 x30 x31 x32 x33 x34 x35 x36 x37 x38 x39 x40 x41 x42 x43 x44 x45 x46 x47 x48 x49 x50 x51 x52 x53 x54 x55 x56 x57 x58 x59 x60 x61 x62 x63 x64 x65 x66 x67 x68 x69 x70 x71 x72 x73 x74 x75 x76 x77 x78 x79 x80 x81 x82 x83 x84 x85 : Value) : Code.wp Tryd.prog codeK (bodyPost Tryd.prog Tryd.f4 (fun e w' => e = .returned (.bool true) ∧ Below w.heap.size w w')) ⟨List.toArray (.int .i64 4 :: x1 :: x2 :: .pointer (some ⟨g1, 0, none⟩) :: .pointer (some ⟨g2, 0, none⟩) :: .pointer (some ⟨g3, 0, none⟩) :: .pointer (some ⟨g4, 0, none⟩) :: .pointer (some ⟨g5, 0, none⟩) :: .pointer (some ⟨g6, 0, none⟩) :: x9 :: x10 :: x11 :: x12 :: x13 :: x14 :: x15 :: x16 :: x17 :: x18 :: x19 :: x20 :: x21 :: x22 :: x23 :: x24 :: x25 :: x26 :: x27 :: x28 :: x29 :: x30 :: x31 :: x32 :: x33 :: x34 :: x35 :: x36 :: x37 :: x38 :: x39 :: x40 :: x41 :: x42 :: x43 :: x44 :: x45 :: x46 :: x47 :: x48 :: x49 :: x50 :: x51 :: x52 :: x53 :: x54 :: x55 :: x56 :: x57 :: x58 :: x59 :: x60 :: x61 :: x62 :: x63 :: x64 :: x65 :: x66 :: x67 :: x68 :: x69 :: x70 :: x71 :: x72 :: x73 :: x74 :: x75 :: x76 :: x77 :: x78 :: x79 :: x80 :: x81 :: x82 :: x83 :: x84 :: x85 :: []), []⟩ w6 := by
  conv => arg 2; whnf
  obtain ⟨q1, t16, t17, t18, t19, t110, t111, t112, t113, t114, hq1, hc1, hl1⟩ := B_kn1.out
  obtain rfl : g1 = q1 := by simpa using hq1
  have C1 := Lib.hid hc1
  have L1 := Lib.hid hl1
  have HK1 : Hid (ckE (kn1 4) = 21) := Lib.hid (by decide +kernel)
  obtain ⟨q2, t26, t27, t28, t29, t210, t211, t212, t213, t214, hq2, hc2, hl2⟩ := B_kn2.out
  obtain rfl : g2 = q2 := by simpa using hq2
  have C2 := Lib.hid hc2
  have L2 := Lib.hid hl2
  have HK2 : Hid (ckE (kn2 4) = 0) := Lib.hid (by decide +kernel)
  obtain ⟨q3, t36, t37, t38, t39, t310, t311, t312, t313, t314, hq3, hc3, hl3⟩ := B_kn3.out
  obtain rfl : g3 = q3 := by simpa using hq3
  have C3 := Lib.hid hc3
  have L3 := Lib.hid hl3
  have HK3 : Hid (ckE (kn3 4) = 21) := Lib.hid (by decide +kernel)
  obtain ⟨q4, t46, t47, t48, t49, t410, t411, t412, t413, t414, hq4, hc4, hl4⟩ := B_kn4.out
  obtain rfl : g4 = q4 := by simpa using hq4
  have C4 := Lib.hid hc4
  have L4 := Lib.hid hl4
  have HK4 : Hid (ckE (kn4 4) = 21) := Lib.hid (by decide +kernel)
  obtain ⟨q5, t56, t57, t58, t59, t510, t511, t512, t513, t514, hq5, hc5, hl5⟩ := B_kn5.out
  obtain rfl : g5 = q5 := by simpa using hq5
  have C5 := Lib.hid hc5
  have L5 := Lib.hid hl5
  have HK5 : Hid (ckE (kn5 4) = 21) := Lib.hid (by decide +kernel)
  obtain ⟨q6, t66, t67, t68, t69, t610, t611, t612, t613, t614, hq6, hc6, hl6⟩ := B_kn6.out
  obtain rfl : g6 = q6 := by simpa using hq6
  have C6 := Lib.hid hc6
  have L6 := Lib.hid hl6
  have HK6 : Hid (ckE (kn6 4) = 0) := Lib.hid (by decide +kernel)
  clear hq1 hc1 hl1 B_kn1 hq2 hc2 hl2 B_kn2 hq3 hc3 hl3 B_kn3 hq4 hc4 hl4 B_kn4 hq5 hc5 hl5 B_kn5 hq6 hc6 hl6 B_kn6
  go_wp2_with (refine kn_load C1.out rfl (by rfl) (by rfl) (by rfl) ?_; intro K hK; go_simp)
  refine (chk_b (x := kn1 4) _ _ _ _ _ _ _ _ _ (TT.out.stays BB.out).2.2.2.1 rfl L1.out (by simp [kn1]) HK1).mono ?_
  rintro e v1 ⟨rfl, k1⟩
  have C2 := Lib.hid (C2.out.below k1)
  have L2 := Lib.hid (L2.out.below k1)
  have C3 := Lib.hid (C3.out.below k1)
  have L3 := Lib.hid (L3.out.below k1)
  have C4 := Lib.hid (C4.out.below k1)
  have L4 := Lib.hid (L4.out.below k1)
  have C5 := Lib.hid (C5.out.below k1)
  have L5 := Lib.hid (L5.out.below k1)
  have C6 := Lib.hid (C6.out.below k1)
  have L6 := Lib.hid (L6.out.below k1)
  have BB := Lib.hid (bstep BB.out k1)
  clear k1 C1 L1 HK1
  go_wp2_with (refine kn_load C2.out rfl (by rfl) (by rfl) (by rfl) ?_; intro K hK; go_simp)
  refine (chk_b (x := kn2 4) _ _ _ _ _ _ _ _ _ (TT.out.stays BB.out).2.2.2.1 rfl L2.out (by simp [kn2]) HK2).mono ?_
  rintro e v2 ⟨rfl, k2⟩
  have C3 := Lib.hid (C3.out.below k2)
  have L3 := Lib.hid (L3.out.below k2)
  have C4 := Lib.hid (C4.out.below k2)
  have L4 := Lib.hid (L4.out.below k2)
  have C5 := Lib.hid (C5.out.below k2)
  have L5 := Lib.hid (L5.out.below k2)
  have C6 := Lib.hid (C6.out.below k2)
  have L6 := Lib.hid (L6.out.below k2)
  have BB := Lib.hid (bstep BB.out k2)
  clear k2 C2 L2 HK2
  go_wp2_with (refine kn_load C3.out rfl (by rfl) (by rfl) (by rfl) ?_; intro K hK; go_simp)
  refine (chk_b (x := kn3 4) _ _ _ _ _ _ _ _ _ (TT.out.stays BB.out).2.2.2.1 rfl L3.out (by simp [kn3]) HK3).mono ?_
  rintro e v3 ⟨rfl, k3⟩
  have C4 := Lib.hid (C4.out.below k3)
  have L4 := Lib.hid (L4.out.below k3)
  have C5 := Lib.hid (C5.out.below k3)
  have L5 := Lib.hid (L5.out.below k3)
  have C6 := Lib.hid (C6.out.below k3)
  have L6 := Lib.hid (L6.out.below k3)
  have BB := Lib.hid (bstep BB.out k3)
  clear k3 C3 L3 HK3
  go_wp2_with (refine kn_load C4.out rfl (by rfl) (by rfl) (by rfl) ?_; intro K hK; go_simp)
  refine (chk_b (x := kn4 4) _ _ _ _ _ _ _ _ _ (TT.out.stays BB.out).2.2.2.1 rfl L4.out (by simp [kn4]) HK4).mono ?_
  rintro e v4 ⟨rfl, k4⟩
  have C5 := Lib.hid (C5.out.below k4)
  have L5 := Lib.hid (L5.out.below k4)
  have C6 := Lib.hid (C6.out.below k4)
  have L6 := Lib.hid (L6.out.below k4)
  have BB := Lib.hid (bstep BB.out k4)
  clear k4 C4 L4 HK4
  go_wp2_with (refine kn_load C5.out rfl (by rfl) (by rfl) (by rfl) ?_; intro K hK; go_simp)
  refine (chk_b (x := kn5 4) _ _ _ _ _ _ _ _ _ (TT.out.stays BB.out).2.2.2.1 rfl L5.out (by simp [kn5]) HK5).mono ?_
  rintro e v5 ⟨rfl, k5⟩
  have C6 := Lib.hid (C6.out.below k5)
  have L6 := Lib.hid (L6.out.below k5)
  have BB := Lib.hid (bstep BB.out k5)
  clear k5 C5 L5 HK5
  go_wp2_with (refine kn_load C6.out rfl (by rfl) (by rfl) (by rfl) ?_; intro K hK; go_simp)
  refine (chk_b (x := kn6 4) _ _ _ _ _ _ _ _ _ (TT.out.stays BB.out).2.2.2.1 rfl L6.out (by simp [kn6]) HK6).mono ?_
  rintro e v6 ⟨rfl, k6⟩
  have BB := Lib.hid (bstep BB.out k6)
  clear k6 C6 L6 HK6
  go_wp2_with fail
  refine (wakes21_any _ (TT.out.stays BB.out)).mono ?_
  rintro e v7 ⟨rfl, k7⟩
  go_wp2
  go_ret
  exact ⟨rfl, bstep BB.out k7⟩
end Rct
end Go.Proofs.YtfdamkiocefgmaaDoor
