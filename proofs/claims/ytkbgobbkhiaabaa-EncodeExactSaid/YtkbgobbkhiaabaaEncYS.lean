/-
  solsticeref21.On, its whole answer. (Written by gen/gen_ency.py, bin/split_y.py.)
-/
import Derived.Test.YtkbgobbkhiaabaaEncYG
namespace Go.Proofs.Ytkbgobbkhiaabaa
open Go.RowKit
namespace Enc
open Wk Cel
open Rcv (CV RecV LisV IntV DayV aggR)
open Ap (RowI Grew)
noncomputable def codeS : Code := (Try.f8.body.bind (from_ 19)).getD .skip
set_option maxHeartbeats 25600000 in
set_option maxRecDepth 100000 in
theorem ronS (month P W : Int) (x : Option CV) (w w4 : World) (gm gr : Nat) (bP : -50 ≤ P ∧ P ≤ 80) (f2 : 1 ≤ P) (hgR : w.heap.size ≤ w.heap.size + 1) (d2 : gr ≠ w.heap.size + 1) (d3 : gr ≠ gm) (d4 : w.heap.size + 1 ≠ gm) (gw : w.heap.size ≤ gr) (gmw : w.heap.size ≤ gm)
    (HH : Hid ((if P % 7 = 1 ∧ P ≤ 22 then some (rcv month [(P / 7 + 1, W)] []) else some (rcv month [(0, W)] (sevL P 7))) = x))
    (R4 : Hid (Cs (w.heap.size + 1) w4 [.int .i64 0, .int .i64 0, .int .i64 0, .bool false, .int .i64 0, .bool false, .slice none 0 0, .slice none 0 0, .slice none 0 0, .slice none 0 0, .slice none 0 0, .slice none 0 0, .slice none 0 0, .slice none 0 0, .slice none 0 0, .int .i64 0])) (M4 : Hid (Cs gm w4 [.int .i64 month])) (A4 : Hid (Cs gr w4 [.int .i64 7, .int .i64 1, .int .i64 0, .bool false, .int .i64 0, .bool false, .slice none 0 0, .slice none 0 0, .slice none 0 0, .slice none 0 0, .slice none 0 0, .slice none 0 0, .slice none 0 0, .slice (some ⟨gm, 0, none⟩) 1 1, .slice none 0 0, .int .i64 1])) (B4 : Hid (Below w.heap.size w w4))
    (x0 x1 x2 x3 x4 x5 x7 x9 x11 x13 x14 x15 x16 x17 x18 x19 x20 x21 x22 x23 x24 x25 x26 x27 x28 x29 x30 x31 x32 x33 x34 x35 x36 x37 x38 x39 x40 x41 x42 x43 x44 x45 x46 x47 x48 x49 x50 x51 x52 x53 x54 x55 x56 x57 x58 x59 x60 x61 x62 x63 x64 x65 x66 x67 x68 x69 x70 x71 x72 x73 x74 x75 x76 x77 x78 x79 x80 x81 x82 x83 x84 x85 x86 x87 x88 x89 x90 x91 x92 x93 x94 x95 x96 x97 x98 x99 x100 x101 x102 x103 x104 x105 x106 x107 x108 x109 x110 x111 x112 : Value) : Code.wp Try.prog codeS (bodyPost Try.prog Try.f8 (RonP x w)) ⟨List.toArray (x0 :: x1 :: x2 :: x3 :: x4 :: x5 :: .pointer (some ⟨w.heap.size + 1, 0, none⟩) :: x7 :: .pointer (some ⟨gr, 0, none⟩) :: x9 :: .int .i64 P :: x11 :: .int .i64 W :: x13 :: x14 :: x15 :: x16 :: x17 :: x18 :: x19 :: x20 :: x21 :: x22 :: x23 :: x24 :: x25 :: x26 :: x27 :: x28 :: x29 :: x30 :: x31 :: x32 :: x33 :: x34 :: x35 :: x36 :: x37 :: x38 :: x39 :: x40 :: x41 :: x42 :: x43 :: x44 :: x45 :: x46 :: x47 :: x48 :: x49 :: x50 :: x51 :: x52 :: x53 :: x54 :: x55 :: x56 :: x57 :: x58 :: x59 :: x60 :: x61 :: x62 :: x63 :: x64 :: x65 :: x66 :: x67 :: x68 :: x69 :: x70 :: x71 :: x72 :: x73 :: x74 :: x75 :: x76 :: x77 :: x78 :: x79 :: x80 :: x81 :: x82 :: x83 :: x84 :: x85 :: x86 :: x87 :: x88 :: x89 :: x90 :: x91 :: x92 :: x93 :: x94 :: x95 :: x96 :: x97 :: x98 :: x99 :: x100 :: x101 :: x102 :: x103 :: x104 :: x105 :: x106 :: x107 :: x108 :: x109 :: x110 :: x111 :: x112 :: []), []⟩ w4 := by
  conv => arg 2; whnf
  have r0 := A4.out.1
  have d5 : w.heap.size + 1 ≠ w4.heap.size := by have := R4.out.1; omega
  obtain ⟨hn, hhn⟩ : ∃ b : Bool, b = decide (P % 7 = 1 ∧ P ≤ 22) := ⟨_, rfl⟩
  have p71 : P.tmod 7 = P % 7 := Int.tmod_eq_emod_of_nonneg (by omega)
  go_upto_region 19 with fail
  go_cut [87] (fun u wz => u = .bool hn ∧ w4 = wz)
  case first =>
    by_cases g1 : P % 7 = 1
    · have x1 : (P % 7 == 1) = true := by rw [g1]; rfl
      by_cases g2 : P ≤ 22
      · have hq : hn = true := by rw [hhn]; exact decide_eq_true ⟨g1, g2⟩
        subst hq
        clear g1 hhn
        go_wp2
        go_meet
        exact ⟨rfl, rfl⟩
      · have hq : hn = false := by rw [hhn]; exact decide_eq_false (fun z => g2 z.2)
        subst hq
        clear g1 hhn
        go_wp2
        go_meet
        exact ⟨rfl, rfl⟩
    · have x1 : (P % 7 == 1) = false := beq_eq_false_iff_ne.2 g1
      have hq : hn = false := by rw [hhn]; exact decide_eq_false (fun z => g1 z.1)
      subst hq
      clear g1 hhn
      go_wp2
      go_meet
      exact ⟨rfl, rfl⟩
  case rest =>
  obtain ⟨rfl, hw4⟩ := hcut
  subst hw4
  clear p71
--@3
  cases hn with
  | true =>
    have HF := Lib.hid (show some (rcv month [(P / 7 + 1, W)] []) = x from by
      have q := HH.out
      rw [if_pos (of_decide_eq_true hhn.symm)] at q; exact q)
    clear HH hhn
    have pdv : P.tdiv 7 = P / 7 := Int.tdiv_eq_ediv_of_nonneg (by omega)
    have s9 := (A4.out.2 9 _ rfl).1
    have y9 := (A4.out.2 9 _ rfl).2
    go_upto_region 20 with fail
    go_cut [] (fun w5 => Hid (Cs gr w5 [.int .i64 7, .int .i64 1, .int .i64 0, .bool false, .int .i64 0, .bool false, .slice none 0 0, .slice none 0 0, .slice none 0 0, .slice (some ⟨w4.heap.size, 0, none⟩) 1 1, .slice none 0 0, .slice none 0 0, .slice none 0 0, .slice (some ⟨gm, 0, none⟩) 1 1, .slice none 0 0, .int .i64 1]) ∧ Hid (Cs w4.heap.size w5 [.int .i64 (P / 7 + 1), .int .i64 W]) ∧ Hid (Cs gm w5 [.int .i64 month]) ∧ Hid (Cs (w.heap.size + 1) w5 [.int .i64 0, .int .i64 0, .int .i64 0, .bool false, .int .i64 0, .bool false, .slice none 0 0, .slice none 0 0, .slice none 0 0, .slice none 0 0, .slice none 0 0, .slice none 0 0, .slice none 0 0, .slice none 0 0, .slice none 0 0, .int .i64 0]) ∧ Hid (Below w.heap.size w w5))
    case first =>
      go_wp2
      go_meet
      have D := A4.out.set 9 (by simp) (.slice (some ⟨w4.heap.size, 0, none⟩) 1 1)
      simp only [List.set_cons_succ, List.set_cons_zero] at D
      exact ⟨Lib.hid (D.alloc _), Lib.hid (cs_newset w4 _ _ _ _), Lib.hid ((M4.out.other d3 _).alloc _), Lib.hid ((R4.out.other d2 _).alloc _), Lib.hid ((B4.out.setCell gw _).alloc (by simpa [World.setCell] using B4.out.size) _)⟩
    case rest =>
    obtain ⟨w5, rfl⟩ : ∃ x : World, x = wc := ⟨_, rfl⟩
    obtain ⟨A5, D5, M5, R5, B5⟩ := hcut
    rename_i hK
    exact hK _ _ (ronN month P W x w w5 gm gr w4.heap.size gmw B4.out.size hgR d4 d5 HF A5 D5 M5 R5 B5 _ _ _ _ _ _ _ _ _ _ _ _ _ _ _ _ _ _ _ _ _ _ _ _ _ _ _ _ _ _ _ _ _ _ _ _ _ _ _ _ _ _ _ _ _ _ _ _ _ _ _ _ _ _ _ _ _ _ _ _ _ _ _ _ _ _ _ _ _ _ _ _ _ _ _ _ _ _ _ _ _ _ _ _ _ _ _ _ _ _ _ _ _ _ _ _ _ _ _ _ _ _ _ _ _ _ _ _ _ _ _ _)
  | false =>
    have HF := Lib.hid (show some (rcv month [(0, W)] (sevL P 7)) = x from by
      have q := HH.out
      rw [if_neg (of_decide_eq_false hhn.symm)] at q; exact q)
    clear HH hhn
    have hgr4 := A4.out.1
    have hgm4 := M4.out.1
    have hgR4 := R4.out.1
    go_wp2
    go_loopw [13] (fun iv wr => ∃ (j : Nat) (mv : Value), j ≤ 7 ∧ iv = .int .i64 (j : Int) ∧ Hid (RowI w4.heap.size wr mv (sevL P j)) ∧ Hid (Cs gr wr [.int .i64 7, .int .i64 1, .int .i64 0, .bool false, .int .i64 0, .bool false, .slice none 0 0, .slice none 0 0, .slice none 0 0, .slice none 0 0, mv, .slice none 0 0, .slice none 0 0, .slice (some ⟨gm, 0, none⟩) 1 1, .slice none 0 0, .int .i64 1]) ∧ Hid (Cs gm wr [.int .i64 month]) ∧ Hid (Cs (w.heap.size + 1) wr [.int .i64 0, .int .i64 0, .int .i64 0, .bool false, .int .i64 0, .bool false, .slice none 0 0, .slice none 0 0, .slice none 0 0, .slice none 0 0, .slice none 0 0, .slice none 0 0, .slice none 0 0, .slice none 0 0, .slice none 0 0, .int .i64 0]) ∧ Hid (Below w.heap.size w wr) ∧ w4.heap.size ≤ wr.heap.size) (fun iv _ => 7 - (intOf iv).toNat)
    case atStart => exact ⟨0, .slice none 0 0, by omega, rfl, Lib.hid (RowI.nil _ _), A4, M4, R4, B4, Nat.le_refl _⟩
    case round =>
      obtain ⟨j, mv, hj, rfl, HR, A5, M5, R5, B5, hsz⟩ := hrel
      obtain ⟨wo, rfl⟩ : ∃ wo : World, wo = wr := ⟨_, rfl⟩
      by_cases hlt : j < 7
      · have z10 := (A5.out.2 10 _ rfl).1
        have rA := A5.out.1
        have hl : (sevL P j).length ≤ 100000000 := by rw [sev_len]; omega
        have HSL := Lib.hid (sev_len P j)
        have s1 : IntKind.i64.wrap (P + (j : Int)) = P + (j : Int) := IntWalk.i64_in _ (by omega)
        go_wp2_with (at_builtin; refine Ap.appI rfl _ _ rfl w4.heap.size mv (sevL P j) rfl HR.out (P + (j : Int)) rfl hl hsz ?_)
        intro w5 gg gcap r5 g5
        have A6 := Lib.hid (cs_grew A5.out g5 (own_ne HR.out hgr4))
        have M6 := Lib.hid (cs_grew M5.out g5 (own_ne HR.out hgm4))
        have R6 := Lib.hid (cs_grew R5.out g5 (own_ne HR.out hgR4))
        have B6 := Lib.hid (g5.below w.heap.size w (by omega) B5.out B5.out.size)
        have hsz6 := Nat.le_trans hsz g5.size
        have HR6 : Hid (RowI w4.heap.size w5 (.slice (some ⟨gg, 0, none⟩) (j + 1) gcap) (sevL P (j + 1))) := Lib.hid (by rw [sev_succ]; rw [sev_len] at r5; exact r5)
        rw [HSL.out]
        clear g5 r5 HR A5 M5 R5 B5 hsz z10 rA
        have z10 := (A6.out.2 10 _ rfl).1
        have y10 := (A6.out.2 10 _ rfl).2
        have r6 := A6.out.1
        go_wp2
        go_roundw
        case rel =>
          have D := A6.out.set 10 (by simp) (.slice (some ⟨gg, 0, none⟩) (j + 1) gcap)
          simp only [List.set_cons_succ, List.set_cons_zero] at D
          exact ⟨j + 1, _, by omega, by go_num, Lib.hid (row_set HR6.out hgr4 10 _), Lib.hid D, Lib.hid (M6.out.other d3 _), Lib.hid (R6.out.other d2 _), Lib.hid (B6.out.setCell gw _), by simpa [World.setCell] using hsz6⟩
        case measure => simp [intOf]; omega
      · have hj7 : j = 7 := by omega
        subst hj7
        obtain ⟨w5, rfl⟩ : ∃ x : World, x = wo := ⟨_, rfl⟩
        obtain ⟨mA, mn, mc, rfl⟩ : ∃ A n c, mv = .slice A n c := by
          obtain ⟨A, c, e⟩ := HR.out.forms
          exact ⟨_, _, _, e⟩
        have d6 : w.heap.size + 1 ≠ w5.heap.size := by have := R5.out.1; omega
        have z9 := (A5.out.2 9 _ rfl).1
        have y9 := (A5.out.2 9 _ rfl).2
        have rA := A5.out.1
        go_upto_region 26 with fail
        go_cut [] (fun w6 => Hid (Cs gr w6 [.int .i64 7, .int .i64 1, .int .i64 0, .bool false, .int .i64 0, .bool false, .slice none 0 0, .slice none 0 0, .slice none 0 0, .slice (some ⟨w5.heap.size, 0, none⟩) 1 1, .slice mA mn mc, .slice none 0 0, .slice none 0 0, .slice (some ⟨gm, 0, none⟩) 1 1, .slice none 0 0, .int .i64 1]) ∧ Hid (Cs w5.heap.size w6 [.int .i64 0, .int .i64 W]) ∧ Hid (Cs gm w6 [.int .i64 month]) ∧ Hid (RowI w4.heap.size w6 (.slice mA mn mc) (sevL P 7)) ∧ Hid (Cs (w.heap.size + 1) w6 [.int .i64 0, .int .i64 0, .int .i64 0, .bool false, .int .i64 0, .bool false, .slice none 0 0, .slice none 0 0, .slice none 0 0, .slice none 0 0, .slice none 0 0, .slice none 0 0, .slice none 0 0, .slice none 0 0, .slice none 0 0, .int .i64 0]) ∧ Hid (Below w.heap.size w w6))
        case first =>
          go_wp2
          go_meet
          have D := A5.out.set 9 (by simp) (.slice (some ⟨w5.heap.size, 0, none⟩) 1 1)
          simp only [List.set_cons_succ, List.set_cons_zero] at D
          exact ⟨Lib.hid (D.alloc _), Lib.hid (cs_newset w5 _ _ _ _), Lib.hid ((M5.out.other d3 _).alloc _), Lib.hid (World.ownsRow.alloc (row_set HR.out hgr4 9 _) _), Lib.hid ((R5.out.other d2 _).alloc _), Lib.hid ((B5.out.setCell gw _).alloc (by simpa [World.setCell] using B5.out.size) _)⟩
        case rest =>
        obtain ⟨w6, rfl⟩ : ∃ x : World, x = wc := ⟨_, rfl⟩
        obtain ⟨A6, D6, M6, HR6, R6, B6⟩ := hcut
        exact (by assumption : ∀ (a : Act) (w' : World), Code.wp Try.prog codeG (bodyPost Try.prog Try.f8 (RonP x w)) a w' → _) _ _ (ronG month P W mA mn mc w4.heap.size x w w6 gm gr w5.heap.size gmw B5.out.size B4.out.size hgR d4 d6 hgR4 HF A6 D6 M6 HR6 R6 B6 _ _ _ _ _ _ _ _ _ _ _ _ _ _ _ _ _ _ _ _ _ _ _ _ _ _ _ _ _ _ _ _ _ _ _ _ _ _ _ _ _ _ _ _ _ _ _ _ _ _ _ _ _ _ _ _ _ _ _ _ _ _ _ _ _ _ _ _ _ _ _ _ _ _ _ _ _ _ _ _ _ _ _ _ _ _ _ _ _ _ _ _ _ _ _ _ _ _ _ _ _ _ _ _ _ _ _ _ _ _ _)
end Enc
end Go.Proofs.Ytkbgobbkhiaabaa
