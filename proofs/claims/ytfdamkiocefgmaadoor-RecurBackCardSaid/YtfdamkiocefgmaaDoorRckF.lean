/-
  recur.goTogether: a rule's lists go with its frequency, and with one another. (Written by gen/gen_rckf.py.)
-/
import Derived.Test.YtfdamkiocefgmaaDoorRckA
namespace Go.Proofs.YtfdamkiocefgmaaDoor
open Go.RowKit
namespace Rck
open Cel
open Rcv (CV IntV DayV LisV RecV)
def startsG (n : Nat) : Code → Bool
  | .region k _ _ => k == n
  | .seq a _ => startsG n a
  | .scope a => startsG n a
  | .block _ a => startsG n a
  | _ => false
def fromG (n : Nat) : Code → Option Code
  | .seq a b => if startsG n a = true then some (.seq a b) else fromG n b
  | c => if startsG n c = true then some c else none
noncomputable def codeT : Code := (Tryd.f26.body.bind (fromG 10)).getD .skip
set_option maxHeartbeats 25600000 in
set_option maxRecDepth 100000 in
theorem gtT (fq oth : Int) (bt r : Bool) (w w1 : World) (g : Nat) (v1 v2 v3 v4 v5 v6 v7 v8 v9 v13 v15 : Value) (a10 a11 a12 a14 : Option Addr) (n10 n11 n12 n14 c10 c11 c12 c14 : Nat) (C : Hid (Cs g w1 [.int .i64 fq, v1, v2, v3, v4, v5, v6, v7, v8, v9, .slice a10 n10 c10, .slice a11 n11 c11, .slice a12 n12 c12, v13, .slice a14 n14 c14, v15])) (B : Hid (Below w.heap.size w w1))
    (hr : Hid (((decide (n10 = 0) || decide (fq ≠ 5)) && (decide (n11 = 0) || !bt) && (decide (n12 = 0) || decide (fq = 7)) && (decide (n14 = 0) || decide (0 < oth))) = r))
    (x0 x2 x3 x4 x5 x8 x9 x10 x11 x12 x13 x14 x15 x16 x17 x18 x19 x20 x21 x22 x23 x24 x25 x26 x27 x28 x29 x30 x31 x32 x33 x34 x35 x36 x37 x38 x39 x40 x41 x42 x43 x44 x45 x46 x47 x48 x49 x50 x51 x52 x53 x54 x55 x56 x57 x58 x59 x60 x61 x62 x63 x64 x65 x66 x67 x68 x69 x70 x71 x72 x73 x74 x75 x76 x77 x78 x79 x80 x81 x82 x83 x84 x85 x86 x87 x88 x89 x90 x91 x92 x93 x94 x95 x96 x97 x98 x99 x100 x101 x102 x103 x104 x105 x106 x107 x108 x109 x110 x111 x112 x113 x114 x115 x116 x117 x118 x119 x120 : Value) : Code.wp Tryd.prog codeT (bodyPost Tryd.prog Tryd.f26 (fun e w' => e = .returned (.bool r) ∧ Below w.heap.size w w')) ⟨List.toArray (x0 :: .pointer (some ⟨g, 0, none⟩) :: x2 :: x3 :: x4 :: x5 :: .bool bt :: .int .i64 oth :: x8 :: x9 :: x10 :: x11 :: x12 :: x13 :: x14 :: x15 :: x16 :: x17 :: x18 :: x19 :: x20 :: x21 :: x22 :: x23 :: x24 :: x25 :: x26 :: x27 :: x28 :: x29 :: x30 :: x31 :: x32 :: x33 :: x34 :: x35 :: x36 :: x37 :: x38 :: x39 :: x40 :: x41 :: x42 :: x43 :: x44 :: x45 :: x46 :: x47 :: x48 :: x49 :: x50 :: x51 :: x52 :: x53 :: x54 :: x55 :: x56 :: x57 :: x58 :: x59 :: x60 :: x61 :: x62 :: x63 :: x64 :: x65 :: x66 :: x67 :: x68 :: x69 :: x70 :: x71 :: x72 :: x73 :: x74 :: x75 :: x76 :: x77 :: x78 :: x79 :: x80 :: x81 :: x82 :: x83 :: x84 :: x85 :: x86 :: x87 :: x88 :: x89 :: x90 :: x91 :: x92 :: x93 :: x94 :: x95 :: x96 :: x97 :: x98 :: x99 :: x100 :: x101 :: x102 :: x103 :: x104 :: x105 :: x106 :: x107 :: x108 :: x109 :: x110 :: x111 :: x112 :: x113 :: x114 :: x115 :: x116 :: x117 :: x118 :: x119 :: x120 :: []), []⟩ w1 := by
  conv => arg 2; whnf
  have l0 := (C.out.2 0 _ rfl).1
  have l10 := (C.out.2 10 _ rfl).1
  have l11 := (C.out.2 11 _ rfl).1
  have l12 := (C.out.2 12 _ rfl).1
  have l14 := (C.out.2 14 _ rfl).1
  by_cases z0 : n10 = 0
  · have y0 : ((n10 : Int) == 0) = true := by subst z0; rfl
    by_cases z1 : n11 = 0
    · have y1 : ((n11 : Int) == 0) = true := by subst z1; rfl
      by_cases z2 : n12 = 0
      · have y2 : ((n12 : Int) == 0) = true := by subst z2; rfl
        by_cases z3 : n14 = 0
        · have y3 : ((n14 : Int) == 0) = true := by subst z3; rfl
          have hF : r = true := by rw [← hr.out]; simp [z0, z1, z2, z3]
          subst hF
          clear hr
          go_wp2
          go_ret
          exact ⟨rfl, B.out⟩
        · have y3 : ((n14 : Int) == 0) = false := beq_eq_false_iff_ne.2 (by omega)
          by_cases q3 : 0 < oth
          · skip
            have hF : r = true := by rw [← hr.out]; simp [z0, z1, z2, z3, q3]
            subst hF
            clear hr
            go_wp2
            go_ret
            exact ⟨rfl, B.out⟩
          · skip
            have hF : r = false := by rw [← hr.out]; simp [z0, z1, z2, z3, q3]
            subst hF
            clear hr
            go_wp2
            go_ret
            exact ⟨rfl, B.out⟩
      · have y2 : ((n12 : Int) == 0) = false := beq_eq_false_iff_ne.2 (by omega)
        by_cases q2 : fq = 7
        · subst q2
          by_cases z3 : n14 = 0
          · have y3 : ((n14 : Int) == 0) = true := by subst z3; rfl
            have hF : r = true := by rw [← hr.out]; simp [z0, z1, z2, z3]
            subst hF
            clear hr
            go_wp2
            go_ret
            exact ⟨rfl, B.out⟩
          · have y3 : ((n14 : Int) == 0) = false := beq_eq_false_iff_ne.2 (by omega)
            by_cases q3 : 0 < oth
            · skip
              have hF : r = true := by rw [← hr.out]; simp [z0, z1, z2, z3, q3]
              subst hF
              clear hr
              go_wp2
              go_ret
              exact ⟨rfl, B.out⟩
            · skip
              have hF : r = false := by rw [← hr.out]; simp [z0, z1, z2, z3, q3]
              subst hF
              clear hr
              go_wp2
              go_ret
              exact ⟨rfl, B.out⟩
        · have p2 : (fq == 7) = false := beq_eq_false_iff_ne.2 q2
          have hF : r = false := by rw [← hr.out]; simp [z0, z1, z2, q2]
          subst hF
          clear hr
          go_wp2
          go_ret
          exact ⟨rfl, B.out⟩
    · have y1 : ((n11 : Int) == 0) = false := beq_eq_false_iff_ne.2 (by omega)
      cases bt with
      | true =>
        have hF : r = false := by rw [← hr.out]; simp [z0, z1]
        subst hF
        clear hr
        go_wp2
        go_ret
        exact ⟨rfl, B.out⟩
      | false =>
        by_cases z2 : n12 = 0
        · have y2 : ((n12 : Int) == 0) = true := by subst z2; rfl
          by_cases z3 : n14 = 0
          · have y3 : ((n14 : Int) == 0) = true := by subst z3; rfl
            have hF : r = true := by rw [← hr.out]; simp [z0, z1, z2, z3]
            subst hF
            clear hr
            go_wp2
            go_ret
            exact ⟨rfl, B.out⟩
          · have y3 : ((n14 : Int) == 0) = false := beq_eq_false_iff_ne.2 (by omega)
            by_cases q3 : 0 < oth
            · skip
              have hF : r = true := by rw [← hr.out]; simp [z0, z1, z2, z3, q3]
              subst hF
              clear hr
              go_wp2
              go_ret
              exact ⟨rfl, B.out⟩
            · skip
              have hF : r = false := by rw [← hr.out]; simp [z0, z1, z2, z3, q3]
              subst hF
              clear hr
              go_wp2
              go_ret
              exact ⟨rfl, B.out⟩
        · have y2 : ((n12 : Int) == 0) = false := beq_eq_false_iff_ne.2 (by omega)
          by_cases q2 : fq = 7
          · subst q2
            by_cases z3 : n14 = 0
            · have y3 : ((n14 : Int) == 0) = true := by subst z3; rfl
              have hF : r = true := by rw [← hr.out]; simp [z0, z1, z2, z3]
              subst hF
              clear hr
              go_wp2
              go_ret
              exact ⟨rfl, B.out⟩
            · have y3 : ((n14 : Int) == 0) = false := beq_eq_false_iff_ne.2 (by omega)
              by_cases q3 : 0 < oth
              · skip
                have hF : r = true := by rw [← hr.out]; simp [z0, z1, z2, z3, q3]
                subst hF
                clear hr
                go_wp2
                go_ret
                exact ⟨rfl, B.out⟩
              · skip
                have hF : r = false := by rw [← hr.out]; simp [z0, z1, z2, z3, q3]
                subst hF
                clear hr
                go_wp2
                go_ret
                exact ⟨rfl, B.out⟩
          · have p2 : (fq == 7) = false := beq_eq_false_iff_ne.2 q2
            have hF : r = false := by rw [← hr.out]; simp [z0, z1, z2, q2]
            subst hF
            clear hr
            go_wp2
            go_ret
            exact ⟨rfl, B.out⟩
  · have y0 : ((n10 : Int) == 0) = false := beq_eq_false_iff_ne.2 (by omega)
    by_cases q0 : fq = 5
    · subst q0
      have hF : r = false := by rw [← hr.out]; simp [z0]
      subst hF
      clear hr
      go_wp2
      go_ret
      exact ⟨rfl, B.out⟩
    · have p0 : (fq == 5) = false := beq_eq_false_iff_ne.2 q0
      have m0 : (fq != 5) = true := by rw [bne, p0]; rfl
      by_cases z1 : n11 = 0
      · have y1 : ((n11 : Int) == 0) = true := by subst z1; rfl
        by_cases z2 : n12 = 0
        · have y2 : ((n12 : Int) == 0) = true := by subst z2; rfl
          by_cases z3 : n14 = 0
          · have y3 : ((n14 : Int) == 0) = true := by subst z3; rfl
            have hF : r = true := by rw [← hr.out]; simp [z0, q0, z1, z2, z3]
            subst hF
            clear hr
            go_wp2
            go_ret
            exact ⟨rfl, B.out⟩
          · have y3 : ((n14 : Int) == 0) = false := beq_eq_false_iff_ne.2 (by omega)
            by_cases q3 : 0 < oth
            · skip
              have hF : r = true := by rw [← hr.out]; simp [z0, q0, z1, z2, z3, q3]
              subst hF
              clear hr
              go_wp2
              go_ret
              exact ⟨rfl, B.out⟩
            · skip
              have hF : r = false := by rw [← hr.out]; simp [z0, q0, z1, z2, z3, q3]
              subst hF
              clear hr
              go_wp2
              go_ret
              exact ⟨rfl, B.out⟩
        · have y2 : ((n12 : Int) == 0) = false := beq_eq_false_iff_ne.2 (by omega)
          by_cases q2 : fq = 7
          · subst q2
            by_cases z3 : n14 = 0
            · have y3 : ((n14 : Int) == 0) = true := by subst z3; rfl
              have hF : r = true := by rw [← hr.out]; simp [z0, q0, z1, z2, z3]
              subst hF
              clear hr
              go_wp2
              go_ret
              exact ⟨rfl, B.out⟩
            · have y3 : ((n14 : Int) == 0) = false := beq_eq_false_iff_ne.2 (by omega)
              by_cases q3 : 0 < oth
              · skip
                have hF : r = true := by rw [← hr.out]; simp [z0, q0, z1, z2, z3, q3]
                subst hF
                clear hr
                go_wp2
                go_ret
                exact ⟨rfl, B.out⟩
              · skip
                have hF : r = false := by rw [← hr.out]; simp [z0, q0, z1, z2, z3, q3]
                subst hF
                clear hr
                go_wp2
                go_ret
                exact ⟨rfl, B.out⟩
          · have p2 : (fq == 7) = false := beq_eq_false_iff_ne.2 q2
            have hF : r = false := by rw [← hr.out]; simp [z0, q0, z1, z2, q2]
            subst hF
            clear hr
            go_wp2
            go_ret
            exact ⟨rfl, B.out⟩
      · have y1 : ((n11 : Int) == 0) = false := beq_eq_false_iff_ne.2 (by omega)
        cases bt with
        | true =>
          have hF : r = false := by rw [← hr.out]; simp [z0, q0, z1]
          subst hF
          clear hr
          go_wp2
          go_ret
          exact ⟨rfl, B.out⟩
        | false =>
          by_cases z2 : n12 = 0
          · have y2 : ((n12 : Int) == 0) = true := by subst z2; rfl
            by_cases z3 : n14 = 0
            · have y3 : ((n14 : Int) == 0) = true := by subst z3; rfl
              have hF : r = true := by rw [← hr.out]; simp [z0, q0, z1, z2, z3]
              subst hF
              clear hr
              go_wp2
              go_ret
              exact ⟨rfl, B.out⟩
            · have y3 : ((n14 : Int) == 0) = false := beq_eq_false_iff_ne.2 (by omega)
              by_cases q3 : 0 < oth
              · skip
                have hF : r = true := by rw [← hr.out]; simp [z0, q0, z1, z2, z3, q3]
                subst hF
                clear hr
                go_wp2
                go_ret
                exact ⟨rfl, B.out⟩
              · skip
                have hF : r = false := by rw [← hr.out]; simp [z0, q0, z1, z2, z3, q3]
                subst hF
                clear hr
                go_wp2
                go_ret
                exact ⟨rfl, B.out⟩
          · have y2 : ((n12 : Int) == 0) = false := beq_eq_false_iff_ne.2 (by omega)
            by_cases q2 : fq = 7
            · subst q2
              by_cases z3 : n14 = 0
              · have y3 : ((n14 : Int) == 0) = true := by subst z3; rfl
                have hF : r = true := by rw [← hr.out]; simp [z0, q0, z1, z2, z3]
                subst hF
                clear hr
                go_wp2
                go_ret
                exact ⟨rfl, B.out⟩
              · have y3 : ((n14 : Int) == 0) = false := beq_eq_false_iff_ne.2 (by omega)
                by_cases q3 : 0 < oth
                · skip
                  have hF : r = true := by rw [← hr.out]; simp [z0, q0, z1, z2, z3, q3]
                  subst hF
                  clear hr
                  go_wp2
                  go_ret
                  exact ⟨rfl, B.out⟩
                · skip
                  have hF : r = false := by rw [← hr.out]; simp [z0, q0, z1, z2, z3, q3]
                  subst hF
                  clear hr
                  go_wp2
                  go_ret
                  exact ⟨rfl, B.out⟩
            · have p2 : (fq == 7) = false := beq_eq_false_iff_ne.2 q2
              have hF : r = false := by rw [← hr.out]; simp [z0, q0, z1, z2, q2]
              subst hF
              clear hr
              go_wp2
              go_ret
              exact ⟨rfl, B.out⟩
noncomputable def codeS : Code := (Tryd.f26.body.bind (fromG 8)).getD .skip
set_option maxHeartbeats 25600000 in
set_option maxRecDepth 100000 in
theorem gtS (fq : Int) (r : Bool) (w w1 : World) (g : Nat) (v1 v2 v3 v4 v5 v15 : Value) (a6 a7 a8 a9 a10 a11 a12 a13 a14 : Option Addr) (n6 n7 n8 n9 n10 n11 n12 n13 n14 c6 c7 c8 c9 c10 c11 c12 c13 c14 : Nat) (C : Hid (Cs g w1 [.int .i64 fq, v1, v2, v3, v4, v5, .slice a6 n6 c6, .slice a7 n7 c7, .slice a8 n8 c8, .slice a9 n9 c9, .slice a10 n10 c10, .slice a11 n11 c11, .slice a12 n12 c12, .slice a13 n13 c13, .slice a14 n14 c14, v15])) (B : Hid (Below w.heap.size w w1)) (HB : Hid (n6 ≤ 1000000 ∧ n7 ≤ 1000000 ∧ n8 ≤ 1000000 ∧ n9 ≤ 1000000 ∧ n10 ≤ 1000000 ∧ n11 ≤ 1000000 ∧ n12 ≤ 1000000 ∧ n13 ≤ 1000000))
    (hr : Hid (((decide (n10 = 0) || decide (fq ≠ 5)) && (decide (n11 = 0) || !decide (fq = 4 ∨ fq = 5 ∨ fq = 6)) && (decide (n12 = 0) || decide (fq = 7)) && (decide (n14 = 0) || decide (0 < ((n6 : Int) + (n7 : Int) + (n8 : Int) + (n9 : Int) + (n10 : Int) + (n11 : Int) + (n12 : Int) + (n13 : Int))))) = r))
    (x0 x2 x3 x4 x5 x6 x7 x8 x9 x10 x11 x12 x13 x14 x15 x16 x17 x18 x19 x20 x21 x22 x23 x24 x25 x26 x27 x28 x29 x30 x31 x32 x33 x34 x35 x36 x37 x38 x39 x40 x41 x42 x43 x44 x45 x46 x47 x48 x49 x50 x51 x52 x53 x54 x55 x56 x57 x58 x59 x60 x61 x62 x63 x64 x65 x66 x67 x68 x69 x70 x71 x72 x73 x74 x75 x76 x77 x78 x79 x80 x81 x82 x83 x84 x85 x86 x87 x88 x89 x90 x91 x92 x93 x94 x95 x96 x97 x98 x99 x100 x101 x102 x103 x104 x105 x106 x107 x108 x109 x110 x111 x112 x113 x114 x115 x116 x117 x118 x119 x120 : Value) : Code.wp Tryd.prog codeS (bodyPost Tryd.prog Tryd.f26 (fun e w' => e = .returned (.bool r) ∧ Below w.heap.size w w')) ⟨List.toArray (x0 :: .pointer (some ⟨g, 0, none⟩) :: x2 :: x3 :: x4 :: x5 :: x6 :: x7 :: x8 :: x9 :: x10 :: x11 :: x12 :: x13 :: x14 :: x15 :: x16 :: x17 :: x18 :: x19 :: x20 :: x21 :: x22 :: x23 :: x24 :: x25 :: x26 :: x27 :: x28 :: x29 :: x30 :: x31 :: x32 :: x33 :: x34 :: x35 :: x36 :: x37 :: x38 :: x39 :: x40 :: x41 :: x42 :: x43 :: x44 :: x45 :: x46 :: x47 :: x48 :: x49 :: x50 :: x51 :: x52 :: x53 :: x54 :: x55 :: x56 :: x57 :: x58 :: x59 :: x60 :: x61 :: x62 :: x63 :: x64 :: x65 :: x66 :: x67 :: x68 :: x69 :: x70 :: x71 :: x72 :: x73 :: x74 :: x75 :: x76 :: x77 :: x78 :: x79 :: x80 :: x81 :: x82 :: x83 :: x84 :: x85 :: x86 :: x87 :: x88 :: x89 :: x90 :: x91 :: x92 :: x93 :: x94 :: x95 :: x96 :: x97 :: x98 :: x99 :: x100 :: x101 :: x102 :: x103 :: x104 :: x105 :: x106 :: x107 :: x108 :: x109 :: x110 :: x111 :: x112 :: x113 :: x114 :: x115 :: x116 :: x117 :: x118 :: x119 :: x120 :: []), []⟩ w1 := by
  conv => arg 2; whnf
  obtain ⟨bt, hbt⟩ : ∃ b, decide (fq = 4 ∨ fq = 5 ∨ fq = 6) = b := ⟨_, rfl⟩
  obtain ⟨oth, hoth⟩ : ∃ b : Int, ((n6 : Int) + (n7 : Int) + (n8 : Int) + (n9 : Int) + (n10 : Int) + (n11 : Int) + (n12 : Int) + (n13 : Int)) = b := ⟨_, rfl⟩
  have HR := Lib.hid (by have q := hr.out; rw [hbt, hoth] at q; exact q)
  have HT := Lib.hid hbt
  have HO := Lib.hid hoth
  clear hr hbt hoth
  have l0 := (C.out.2 0 _ rfl).1
  go_upto_region 8 with fail
  go_cut [6] (fun b wz => b = .bool bt ∧ w1 = wz)
  case first =>
    by_cases q4 : fq = 4
    · have e : bt = true := by rw [← HT.out]; simp [q4]
      subst e q4
      go_wp2
      go_meet
      exact ⟨rfl, rfl⟩
    · have p4 : (fq == 4) = false := beq_eq_false_iff_ne.2 q4
      by_cases q5 : fq = 5
      · have e : bt = true := by rw [← HT.out]; simp [q5]
        subst e q5
        go_wp2
        go_meet
        exact ⟨rfl, rfl⟩
      · have p5 : (fq == 5) = false := beq_eq_false_iff_ne.2 q5
        have e : bt = (fq == 6) := by rw [← HT.out]; by_cases q6 : fq = 6 <;> simp [q4, q5, q6]
        go_wp2
        go_meet
        exact ⟨by rw [e], rfl⟩
  case rest =>
  obtain ⟨rfl, hw1⟩ := hcut
  subst hw1
  clear l0
  have l6 := (C.out.2 6 _ rfl).1
  have l7 := (C.out.2 7 _ rfl).1
  have l8 := (C.out.2 8 _ rfl).1
  have l9 := (C.out.2 9 _ rfl).1
  have l10 := (C.out.2 10 _ rfl).1
  have l11 := (C.out.2 11 _ rfl).1
  have l12 := (C.out.2 12 _ rfl).1
  have l13 := (C.out.2 13 _ rfl).1
  have s2 : IntKind.i64.wrap ((n6 : Int) + (n7 : Int)) = (n6 : Int) + (n7 : Int) := IntWalk.i64_in _ (by have := HB.out; omega)
  have s3 : IntKind.i64.wrap ((n6 : Int) + (n7 : Int) + (n8 : Int)) = (n6 : Int) + (n7 : Int) + (n8 : Int) := IntWalk.i64_in _ (by have := HB.out; omega)
  have s4 : IntKind.i64.wrap ((n6 : Int) + (n7 : Int) + (n8 : Int) + (n9 : Int)) = (n6 : Int) + (n7 : Int) + (n8 : Int) + (n9 : Int) := IntWalk.i64_in _ (by have := HB.out; omega)
  have s5 : IntKind.i64.wrap ((n6 : Int) + (n7 : Int) + (n8 : Int) + (n9 : Int) + (n10 : Int)) = (n6 : Int) + (n7 : Int) + (n8 : Int) + (n9 : Int) + (n10 : Int) := IntWalk.i64_in _ (by have := HB.out; omega)
  have s6 : IntKind.i64.wrap ((n6 : Int) + (n7 : Int) + (n8 : Int) + (n9 : Int) + (n10 : Int) + (n11 : Int)) = (n6 : Int) + (n7 : Int) + (n8 : Int) + (n9 : Int) + (n10 : Int) + (n11 : Int) := IntWalk.i64_in _ (by have := HB.out; omega)
  have s7 : IntKind.i64.wrap ((n6 : Int) + (n7 : Int) + (n8 : Int) + (n9 : Int) + (n10 : Int) + (n11 : Int) + (n12 : Int)) = (n6 : Int) + (n7 : Int) + (n8 : Int) + (n9 : Int) + (n10 : Int) + (n11 : Int) + (n12 : Int) := IntWalk.i64_in _ (by have := HB.out; omega)
  have s8 : IntKind.i64.wrap ((n6 : Int) + (n7 : Int) + (n8 : Int) + (n9 : Int) + (n10 : Int) + (n11 : Int) + (n12 : Int) + (n13 : Int)) = (n6 : Int) + (n7 : Int) + (n8 : Int) + (n9 : Int) + (n10 : Int) + (n11 : Int) + (n12 : Int) + (n13 : Int) := IntWalk.i64_in _ (by have := HB.out; omega)
  go_upto_region 9 with fail
  go_cut [7] (fun u wz => u = .int .i64 oth ∧ w1 = wz)
  case first =>
    go_wp2
    go_meet
    exact ⟨by rw [← HO.out], rfl⟩
  case rest =>
  obtain ⟨rfl, hw1⟩ := hcut
  subst hw1
  rename_i hK
  exact hK _ _ (gtT fq oth bt r w w1 g v1 v2 v3 v4 v5 _ _ _ _ _ v15 a10 a11 a12 a14 n10 n11 n12 n14 c10 c11 c12 c14 C B HR _ _ _ _ _ _ _ _ _ _ _ _ _ _ _ _ _ _ _ _ _ _ _ _ _ _ _ _ _ _ _ _ _ _ _ _ _ _ _ _ _ _ _ _ _ _ _ _ _ _ _ _ _ _ _ _ _ _ _ _ _ _ _ _ _ _ _ _ _ _ _ _ _ _ _ _ _ _ _ _ _ _ _ _ _ _ _ _ _ _ _ _ _ _ _ _ _ _ _ _ _ _ _ _ _ _ _ _ _ _ _ _ _ _ _ _ _ _)
end Rck
end Go.Proofs.YtfdamkiocefgmaaDoor
