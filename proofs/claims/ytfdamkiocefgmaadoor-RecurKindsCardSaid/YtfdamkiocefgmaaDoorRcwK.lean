/-
  RecurKinds: the law's walk. (Written by gen/gen_rcwk.py.)
-/
import Derived.Test.YtfdamkiocefgmaaDoorRcwN
import Derived.Test.YtfdamkiocefgmaaDoorRcwO
namespace Go.Proofs.YtfdamkiocefgmaaDoor
open Go.RowKit
namespace Rct
open Cel
open Rcp
open Rcv (CV IntV DayV LisV RecV)
open Rck (ckE Small)
open Civ (Ahead)
theorem kndT (f : Int) (f1 : 1 ≤ f) (f2 : f ≤ 7) (w w6 : World) (TT : Hid (Tabs w)) (g1 g2 g3 g4 g5 g6 : Nat) (B_kn1 : Hid (BlkX w6 (.pointer (some ⟨g1, 0, none⟩)) (kn1 f))) (B_kn2 : Hid (BlkX w6 (.pointer (some ⟨g2, 0, none⟩)) (kn2 f))) (B_kn3 : Hid (BlkX w6 (.pointer (some ⟨g3, 0, none⟩)) (kn3 f))) (B_kn4 : Hid (BlkX w6 (.pointer (some ⟨g4, 0, none⟩)) (kn4 f))) (B_kn5 : Hid (BlkX w6 (.pointer (some ⟨g5, 0, none⟩)) (kn5 f))) (B_kn6 : Hid (BlkX w6 (.pointer (some ⟨g6, 0, none⟩)) (kn6 f))) (BB : Hid (Below w.heap.size w w6))
    (x1 x2 x9 x10 x11 x12 x13 x14 x15 x16 x17 x18 x19 x20 x21 x22 x23 x24 x25 x26 x27 x28 x29 x30 x31 x32 x33 x34 x35 x36 x37 x38 x39 x40 x41 x42 x43 x44 x45 x46 x47 x48 x49 x50 x51 x52 x53 x54 x55 x56 x57 x58 x59 x60 x61 x62 x63 x64 x65 x66 x67 x68 x69 x70 x71 x72 x73 x74 x75 x76 x77 x78 x79 x80 x81 x82 x83 x84 x85 : Value) : Code.wp Tryd.prog codeK (bodyPost Tryd.prog Tryd.f4 (fun e w' => e = .returned (.bool true) ∧ Below w.heap.size w w')) ⟨List.toArray (.int .i64 f :: x1 :: x2 :: .pointer (some ⟨g1, 0, none⟩) :: .pointer (some ⟨g2, 0, none⟩) :: .pointer (some ⟨g3, 0, none⟩) :: .pointer (some ⟨g4, 0, none⟩) :: .pointer (some ⟨g5, 0, none⟩) :: .pointer (some ⟨g6, 0, none⟩) :: x9 :: x10 :: x11 :: x12 :: x13 :: x14 :: x15 :: x16 :: x17 :: x18 :: x19 :: x20 :: x21 :: x22 :: x23 :: x24 :: x25 :: x26 :: x27 :: x28 :: x29 :: x30 :: x31 :: x32 :: x33 :: x34 :: x35 :: x36 :: x37 :: x38 :: x39 :: x40 :: x41 :: x42 :: x43 :: x44 :: x45 :: x46 :: x47 :: x48 :: x49 :: x50 :: x51 :: x52 :: x53 :: x54 :: x55 :: x56 :: x57 :: x58 :: x59 :: x60 :: x61 :: x62 :: x63 :: x64 :: x65 :: x66 :: x67 :: x68 :: x69 :: x70 :: x71 :: x72 :: x73 :: x74 :: x75 :: x76 :: x77 :: x78 :: x79 :: x80 :: x81 :: x82 :: x83 :: x84 :: x85 :: []), []⟩ w6 := by
  have hv : f = 1 ∨ f = 2 ∨ f = 3 ∨ f = 4 ∨ f = 5 ∨ f = 6 ∨ f = 7 := by omega
  rcases hv with rfl | rfl | rfl | rfl | rfl | rfl | rfl
  · exact kndT1 w w6 TT g1 g2 g3 g4 g5 g6 B_kn1 B_kn2 B_kn3 B_kn4 B_kn5 B_kn6 BB x1 x2 x9 x10 x11 x12 x13 x14 x15 x16 x17 x18 x19 x20 x21 x22 x23 x24 x25 x26 x27 x28 x29 x30 x31 x32 x33 x34 x35 x36 x37 x38 x39 x40 x41 x42 x43 x44 x45 x46 x47 x48 x49 x50 x51 x52 x53 x54 x55 x56 x57 x58 x59 x60 x61 x62 x63 x64 x65 x66 x67 x68 x69 x70 x71 x72 x73 x74 x75 x76 x77 x78 x79 x80 x81 x82 x83 x84 x85
  · exact kndT2 w w6 TT g1 g2 g3 g4 g5 g6 B_kn1 B_kn2 B_kn3 B_kn4 B_kn5 B_kn6 BB x1 x2 x9 x10 x11 x12 x13 x14 x15 x16 x17 x18 x19 x20 x21 x22 x23 x24 x25 x26 x27 x28 x29 x30 x31 x32 x33 x34 x35 x36 x37 x38 x39 x40 x41 x42 x43 x44 x45 x46 x47 x48 x49 x50 x51 x52 x53 x54 x55 x56 x57 x58 x59 x60 x61 x62 x63 x64 x65 x66 x67 x68 x69 x70 x71 x72 x73 x74 x75 x76 x77 x78 x79 x80 x81 x82 x83 x84 x85
  · exact kndT3 w w6 TT g1 g2 g3 g4 g5 g6 B_kn1 B_kn2 B_kn3 B_kn4 B_kn5 B_kn6 BB x1 x2 x9 x10 x11 x12 x13 x14 x15 x16 x17 x18 x19 x20 x21 x22 x23 x24 x25 x26 x27 x28 x29 x30 x31 x32 x33 x34 x35 x36 x37 x38 x39 x40 x41 x42 x43 x44 x45 x46 x47 x48 x49 x50 x51 x52 x53 x54 x55 x56 x57 x58 x59 x60 x61 x62 x63 x64 x65 x66 x67 x68 x69 x70 x71 x72 x73 x74 x75 x76 x77 x78 x79 x80 x81 x82 x83 x84 x85
  · exact kndT4 w w6 TT g1 g2 g3 g4 g5 g6 B_kn1 B_kn2 B_kn3 B_kn4 B_kn5 B_kn6 BB x1 x2 x9 x10 x11 x12 x13 x14 x15 x16 x17 x18 x19 x20 x21 x22 x23 x24 x25 x26 x27 x28 x29 x30 x31 x32 x33 x34 x35 x36 x37 x38 x39 x40 x41 x42 x43 x44 x45 x46 x47 x48 x49 x50 x51 x52 x53 x54 x55 x56 x57 x58 x59 x60 x61 x62 x63 x64 x65 x66 x67 x68 x69 x70 x71 x72 x73 x74 x75 x76 x77 x78 x79 x80 x81 x82 x83 x84 x85
  · exact kndT5 w w6 TT g1 g2 g3 g4 g5 g6 B_kn1 B_kn2 B_kn3 B_kn4 B_kn5 B_kn6 BB x1 x2 x9 x10 x11 x12 x13 x14 x15 x16 x17 x18 x19 x20 x21 x22 x23 x24 x25 x26 x27 x28 x29 x30 x31 x32 x33 x34 x35 x36 x37 x38 x39 x40 x41 x42 x43 x44 x45 x46 x47 x48 x49 x50 x51 x52 x53 x54 x55 x56 x57 x58 x59 x60 x61 x62 x63 x64 x65 x66 x67 x68 x69 x70 x71 x72 x73 x74 x75 x76 x77 x78 x79 x80 x81 x82 x83 x84 x85
  · exact kndT6 w w6 TT g1 g2 g3 g4 g5 g6 B_kn1 B_kn2 B_kn3 B_kn4 B_kn5 B_kn6 BB x1 x2 x9 x10 x11 x12 x13 x14 x15 x16 x17 x18 x19 x20 x21 x22 x23 x24 x25 x26 x27 x28 x29 x30 x31 x32 x33 x34 x35 x36 x37 x38 x39 x40 x41 x42 x43 x44 x45 x46 x47 x48 x49 x50 x51 x52 x53 x54 x55 x56 x57 x58 x59 x60 x61 x62 x63 x64 x65 x66 x67 x68 x69 x70 x71 x72 x73 x74 x75 x76 x77 x78 x79 x80 x81 x82 x83 x84 x85
  · exact kndT7 w w6 TT g1 g2 g3 g4 g5 g6 B_kn1 B_kn2 B_kn3 B_kn4 B_kn5 B_kn6 BB x1 x2 x9 x10 x11 x12 x13 x14 x15 x16 x17 x18 x19 x20 x21 x22 x23 x24 x25 x26 x27 x28 x29 x30 x31 x32 x33 x34 x35 x36 x37 x38 x39 x40 x41 x42 x43 x44 x45 x46 x47 x48 x49 x50 x51 x52 x53 x54 x55 x56 x57 x58 x59 x60 x61 x62 x63 x64 x65 x66 x67 x68 x69 x70 x71 x72 x73 x74 x75 x76 x77 x78 x79 x80 x81 x82 x83 x84 x85
set_option maxHeartbeats 12800000 in
set_option maxRecDepth 100000 in
theorem kinds_any (n : Int) (w : World) (hT : Tabs w) :
    Calls Tryd.prog 4 #[.int .i64 n] w fun e w' => e = .returned (.bool true) ∧ Below w.heap.size w w' := by
  have TT := Lib.hid hT
  clear hT
  have r0 : 0 ≤ (IntKind.u64.wrap n).tmod 7 := Int.tmod_nonneg _ (by rw [IntKind.wrap_u64]; omega)
  have r1 : (IntKind.u64.wrap n).tmod 7 < 7 := Int.tmod_lt_of_pos _ (by omega)
  obtain ⟨r, hr⟩ : ∃ r, (IntKind.u64.wrap n).tmod 7 = r := ⟨_, rfl⟩
  rw [hr] at r0 r1
  obtain ⟨f, hf⟩ : ∃ f, 1 + r = f := ⟨_, rfl⟩
  have HF := Lib.hid hf
  have Hr := Lib.hid hr
  have f1 : 1 ≤ f := by omega
  have f2 : f ≤ 7 := by omega
  have s1 : wrap64 r = r := by simp only [wrap64]; omega
  have s2 : wrap64 (1 + r) = 1 + r := by simp only [wrap64]; omega
  have S12 := Lib.hid (And.intro s1 s2)
  clear hf hr s1 s2 r0 r1
  go_enter Tryd.func4, Tryd.ntmps4
  go_upto_region 1 with fail
  go_cut [0] (fun z wz => z = .int .i64 f ∧ w = wz)
  case first =>
    go_wp2
    go_meet
    exact ⟨by rw [Hr.out, S12.out.1, S12.out.2, HF.out], rfl⟩
  case rest =>
  obtain ⟨rfl, hw⟩ := hcut
  subst hw
  clear HF Hr S12 r
  go_upto_region 2 with fail
  go_cut [3] (fun p wz => Hid (BlkX wz p (kn1 f)) ∧ Hid (Below w.heap.size w wz))
  case first =>
    go_wp2
    go_meet
    have KK : ∀ (o0 o1 : Obj), Below w.heap.size w ((w.alloc o0).alloc o1) := fun o0 o1 => (((Below.refl w.heap.size w).alloc (by first | exact Nat.le_refl _ | (simp; try omega)) o0).alloc (by first | exact Nat.le_refl _ | (simp; try omega)) o1)
    exact ⟨Lib.hid (BlkX.new (x := kn1 f) ⟨IntV.none _, IntV.none _, IntV.none _, Rcv.day_one (Cs.new _ _ _), IntV.none _, IntV.none _, IntV.none _, IntV.none _, IntV.none _⟩ (by simp)), Lib.hid (KK _ _)⟩
  case rest =>
  obtain ⟨w1, rfl⟩ : ∃ x : World, x = wc := ⟨_, rfl⟩
  obtain ⟨C_kn1, BC⟩ := hcut
  obtain ⟨g1, _, _, _, _, _, _, _, _, _, hp1, _, _⟩ := C_kn1.out
  subst hp1
  have B_kn1 := C_kn1
  have BB := BC
  clear BC C_kn1
  go_upto_region 3 with fail
  go_cut [4] (fun p wz => Hid (BlkX wz p (kn2 f)) ∧ Hid (BlkX wz (.pointer (some ⟨g1, 0, none⟩)) (kn1 f)) ∧ Hid (Below w.heap.size w wz))
  case first =>
    go_wp2
    go_meet
    have KK : ∀ (o0 o1 : Obj), Below w1.heap.size w1 ((w1.alloc o0).alloc o1) := fun o0 o1 => (((Below.refl w1.heap.size w1).alloc (by first | exact Nat.le_refl _ | (simp; try omega)) o0).alloc (by first | exact Nat.le_refl _ | (simp; try omega)) o1)
    exact ⟨Lib.hid (BlkX.new (x := kn2 f) ⟨IntV.none _, IntV.none _, IntV.none _, DayV.none _, Rcv.int_one (Cs.new _ _ _), IntV.none _, IntV.none _, IntV.none _, IntV.none _⟩ (by simp)), Lib.hid (B_kn1.out.below (KK _ _)), Lib.hid (bstep BB.out (KK _ _))⟩
  case rest =>
  obtain ⟨w2, rfl⟩ : ∃ x : World, x = wc := ⟨_, rfl⟩
  obtain ⟨C_kn2, C_kn1, BC⟩ := hcut
  obtain ⟨g2, _, _, _, _, _, _, _, _, _, hp2, _, _⟩ := C_kn2.out
  subst hp2
  clear B_kn1 BB
  have B_kn2 := C_kn2
  have B_kn1 := C_kn1
  have BB := BC
  clear BC C_kn2 C_kn1
  go_upto_region 4 with fail
  go_cut [5] (fun p wz => Hid (BlkX wz p (kn3 f)) ∧ Hid (BlkX wz (.pointer (some ⟨g2, 0, none⟩)) (kn2 f)) ∧ Hid (BlkX wz (.pointer (some ⟨g1, 0, none⟩)) (kn1 f)) ∧ Hid (Below w.heap.size w wz))
  case first =>
    go_wp2
    go_meet
    have KK : ∀ (o0 o1 : Obj), Below w2.heap.size w2 ((w2.alloc o0).alloc o1) := fun o0 o1 => (((Below.refl w2.heap.size w2).alloc (by first | exact Nat.le_refl _ | (simp; try omega)) o0).alloc (by first | exact Nat.le_refl _ | (simp; try omega)) o1)
    exact ⟨Lib.hid (BlkX.new (x := kn3 f) ⟨IntV.none _, IntV.none _, IntV.none _, DayV.none _, IntV.none _, Rcv.int_one (Cs.new _ _ _), IntV.none _, IntV.none _, IntV.none _⟩ (by simp)), Lib.hid (B_kn2.out.below (KK _ _)), Lib.hid (B_kn1.out.below (KK _ _)), Lib.hid (bstep BB.out (KK _ _))⟩
  case rest =>
  obtain ⟨w3, rfl⟩ : ∃ x : World, x = wc := ⟨_, rfl⟩
  obtain ⟨C_kn3, C_kn2, C_kn1, BC⟩ := hcut
  obtain ⟨g3, _, _, _, _, _, _, _, _, _, hp3, _, _⟩ := C_kn3.out
  subst hp3
  clear B_kn2 B_kn1 BB
  have B_kn3 := C_kn3
  have B_kn2 := C_kn2
  have B_kn1 := C_kn1
  have BB := BC
  clear BC C_kn3 C_kn2 C_kn1
  go_upto_region 5 with fail
  go_cut [6] (fun p wz => Hid (BlkX wz p (kn4 f)) ∧ Hid (BlkX wz (.pointer (some ⟨g3, 0, none⟩)) (kn3 f)) ∧ Hid (BlkX wz (.pointer (some ⟨g2, 0, none⟩)) (kn2 f)) ∧ Hid (BlkX wz (.pointer (some ⟨g1, 0, none⟩)) (kn1 f)) ∧ Hid (Below w.heap.size w wz))
  case first =>
    go_wp2
    go_meet
    have KK : ∀ (o0 o1 : Obj), Below w3.heap.size w3 ((w3.alloc o0).alloc o1) := fun o0 o1 => (((Below.refl w3.heap.size w3).alloc (by first | exact Nat.le_refl _ | (simp; try omega)) o0).alloc (by first | exact Nat.le_refl _ | (simp; try omega)) o1)
    exact ⟨Lib.hid (BlkX.new (x := kn4 f) ⟨IntV.none _, IntV.none _, IntV.none _, DayV.none _, IntV.none _, IntV.none _, Rcv.int_one (Cs.new _ _ _), IntV.none _, IntV.none _⟩ (by simp)), Lib.hid (B_kn3.out.below (KK _ _)), Lib.hid (B_kn2.out.below (KK _ _)), Lib.hid (B_kn1.out.below (KK _ _)), Lib.hid (bstep BB.out (KK _ _))⟩
  case rest =>
  obtain ⟨w4, rfl⟩ : ∃ x : World, x = wc := ⟨_, rfl⟩
  obtain ⟨C_kn4, C_kn3, C_kn2, C_kn1, BC⟩ := hcut
  obtain ⟨g4, _, _, _, _, _, _, _, _, _, hp4, _, _⟩ := C_kn4.out
  subst hp4
  clear B_kn3 B_kn2 B_kn1 BB
  have B_kn4 := C_kn4
  have B_kn3 := C_kn3
  have B_kn2 := C_kn2
  have B_kn1 := C_kn1
  have BB := BC
  clear BC C_kn4 C_kn3 C_kn2 C_kn1
  go_upto_region 6 with fail
  go_cut [7] (fun p wz => Hid (BlkX wz p (kn5 f)) ∧ Hid (BlkX wz (.pointer (some ⟨g4, 0, none⟩)) (kn4 f)) ∧ Hid (BlkX wz (.pointer (some ⟨g3, 0, none⟩)) (kn3 f)) ∧ Hid (BlkX wz (.pointer (some ⟨g2, 0, none⟩)) (kn2 f)) ∧ Hid (BlkX wz (.pointer (some ⟨g1, 0, none⟩)) (kn1 f)) ∧ Hid (Below w.heap.size w wz))
  case first =>
    go_wp2
    go_meet
    have KK : ∀ (o0 o1 o2 : Obj), Below w4.heap.size w4 (((w4.alloc o0).alloc o1).alloc o2) := fun o0 o1 o2 => ((((Below.refl w4.heap.size w4).alloc (by first | exact Nat.le_refl _ | (simp; try omega)) o0).alloc (by first | exact Nat.le_refl _ | (simp; try omega)) o1).alloc (by first | exact Nat.le_refl _ | (simp; try omega)) o2)
    exact ⟨Lib.hid (BlkX.new (x := kn5 f) ⟨IntV.none _, IntV.none _, IntV.none _, Rcv.day_one (cs_at (by simp) _ _), IntV.none _, IntV.none _, Rcv.int_one (Cs.alloc (Cs.new _ _ _) _), IntV.none _, IntV.none _⟩ (by simp)), Lib.hid (B_kn4.out.below (KK _ _ _)), Lib.hid (B_kn3.out.below (KK _ _ _)), Lib.hid (B_kn2.out.below (KK _ _ _)), Lib.hid (B_kn1.out.below (KK _ _ _)), Lib.hid (bstep BB.out (KK _ _ _))⟩
  case rest =>
  obtain ⟨w5, rfl⟩ : ∃ x : World, x = wc := ⟨_, rfl⟩
  obtain ⟨C_kn5, C_kn4, C_kn3, C_kn2, C_kn1, BC⟩ := hcut
  obtain ⟨g5, _, _, _, _, _, _, _, _, _, hp5, _, _⟩ := C_kn5.out
  subst hp5
  clear B_kn4 B_kn3 B_kn2 B_kn1 BB
  have B_kn5 := C_kn5
  have B_kn4 := C_kn4
  have B_kn3 := C_kn3
  have B_kn2 := C_kn2
  have B_kn1 := C_kn1
  have BB := BC
  clear BC C_kn5 C_kn4 C_kn3 C_kn2 C_kn1
  go_upto_region 7 with fail
  go_cut [8] (fun p wz => Hid (BlkX wz p (kn6 f)) ∧ Hid (BlkX wz (.pointer (some ⟨g5, 0, none⟩)) (kn5 f)) ∧ Hid (BlkX wz (.pointer (some ⟨g4, 0, none⟩)) (kn4 f)) ∧ Hid (BlkX wz (.pointer (some ⟨g3, 0, none⟩)) (kn3 f)) ∧ Hid (BlkX wz (.pointer (some ⟨g2, 0, none⟩)) (kn2 f)) ∧ Hid (BlkX wz (.pointer (some ⟨g1, 0, none⟩)) (kn1 f)) ∧ Hid (Below w.heap.size w wz))
  case first =>
    go_wp2
    go_meet
    have KK : ∀ (o0 o1 o2 o3 o4 : Obj), Below w5.heap.size w5 (((((w5.alloc o0).alloc o1).alloc o2).alloc o3).alloc o4) := fun o0 o1 o2 o3 o4 => ((((((Below.refl w5.heap.size w5).alloc (by first | exact Nat.le_refl _ | (simp; try omega)) o0).alloc (by first | exact Nat.le_refl _ | (simp; try omega)) o1).alloc (by first | exact Nat.le_refl _ | (simp; try omega)) o2).alloc (by first | exact Nat.le_refl _ | (simp; try omega)) o3).alloc (by first | exact Nat.le_refl _ | (simp; try omega)) o4)
    exact ⟨Lib.hid (BlkX.new (x := kn6 f) ⟨IntV.none _, IntV.none _, Rcv.int_one (Cs.alloc (cs_at (by simp) _ _) _), Rcv.day_one (Cs.alloc (Cs.alloc (Cs.alloc (Cs.new _ _ _) _) _) _), IntV.none _, IntV.none _, IntV.none _, Rcv.int_one (Cs.alloc (Cs.alloc (cs_at (by simp) _ _) _) _), Rcv.int_one (cs_at (by simp) _ _)⟩ (by simp)), Lib.hid (B_kn5.out.below (KK _ _ _ _ _)), Lib.hid (B_kn4.out.below (KK _ _ _ _ _)), Lib.hid (B_kn3.out.below (KK _ _ _ _ _)), Lib.hid (B_kn2.out.below (KK _ _ _ _ _)), Lib.hid (B_kn1.out.below (KK _ _ _ _ _)), Lib.hid (bstep BB.out (KK _ _ _ _ _))⟩
  case rest =>
  rename_i hK
  obtain ⟨w6, rfl⟩ : ∃ x : World, x = wc := ⟨_, rfl⟩
  obtain ⟨C_kn6, C_kn5, C_kn4, C_kn3, C_kn2, C_kn1, BC⟩ := hcut
  obtain ⟨g6, _, _, _, _, _, _, _, _, _, hp6, _, _⟩ := C_kn6.out
  subst hp6
  clear B_kn5 B_kn4 B_kn3 B_kn2 B_kn1 BB
  have B_kn6 := C_kn6
  have B_kn5 := C_kn5
  have B_kn4 := C_kn4
  have B_kn3 := C_kn3
  have B_kn2 := C_kn2
  have B_kn1 := C_kn1
  have BB := BC
  clear BC C_kn6 C_kn5 C_kn4 C_kn3 C_kn2 C_kn1
  exact hK _ _ (kndT f f1 f2 w w6 TT g1 g2 g3 g4 g5 g6 B_kn1 B_kn2 B_kn3 B_kn4 B_kn5 B_kn6 BB _ _ _ _ _ _ _ _ _ _ _ _ _ _ _ _ _ _ _ _ _ _ _ _ _ _ _ _ _ _ _ _ _ _ _ _ _ _ _ _ _ _ _ _ _ _ _ _ _ _ _ _ _ _ _ _ _ _ _ _ _ _ _ _ _ _ _ _ _ _ _ _ _ _ _ _ _ _ _)
end Rct
end Go.Proofs.YtfdamkiocefgmaaDoor
