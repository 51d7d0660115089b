/-
  encode.On, its whole answer. (Written by gen/gen_encx.py.)
-/
import Derived.Test.YtpbbnkgfheafpaaGreatDoorEncXV
namespace Go.Proofs.YtpbbnkgfheafpaaGreatDoor
open Go.RowKit
namespace Enc
open Wk Cel
open Rcv (CV RecV LisV IntV DayV aggR)
open Ap (RowI Grew)
noncomputable def codeU : Code := (Tryz.f5.body.bind (from_ 22)).getD .skip
set_option maxHeartbeats 25600000 in
set_option maxRecDepth 100000 in
theorem eonU (month P W : Int) (x : CV) (c : Int) (w w4 : World) (gm gr gd : Nat) (bP : -50 ≤ P ∧ P ≤ 80) (f2 : 1 ≤ P) (hgR : w.heap.size ≤ w.heap.size + 1) (d2 : gr ≠ w.heap.size + 1) (d3 : gr ≠ gm) (d4 : w.heap.size + 1 ≠ gm) (gw : w.heap.size ≤ gr) (e1 : gd ≠ gr) (e2 : gd ≠ gm) (e3 : gd ≠ w.heap.size + 1) (e4 : gr ≠ gd) (gwd : w.heap.size ≤ gd)
    (HH : Hid (unO (if P % 7 = 1 ∧ P ≤ 22 then some (rcv month [(P / 7 + 1, W)] []) else some (rcv month [(0, W)] (sevL P 7))) = (x, c)))
    (A4 : Hid (Cs gr w4 [.int .i64 7, .int .i64 1, .int .i64 0, .bool false, .int .i64 0, .bool false, .slice none 0 0, .slice none 0 0, .slice none 0 0, .slice none 0 0, .slice none 0 0, .slice none 0 0, .slice none 0 0, .slice (some ⟨gm, 0, none⟩) 1 1, .slice none 0 0, .int .i64 1])) (D4 : Hid (Cs gd w4 [.int .i64 0, .int .i64 W])) (M4 : Hid (Cs gm w4 [.int .i64 month])) (R4 : Hid (Cs (w.heap.size + 1) w4 [.int .i64 0, .int .i64 0, .int .i64 0, .bool false, .int .i64 0, .bool false, .slice none 0 0, .slice none 0 0, .slice none 0 0, .slice none 0 0, .slice none 0 0, .slice none 0 0, .slice none 0 0, .slice none 0 0, .slice none 0 0, .int .i64 0])) (B4 : Hid (Below w.heap.size w w4))
    (x0 x1 x2 x3 x4 x5 x7 x8 x12 x14 x15 x16 x17 x18 x19 x20 x21 x22 x23 x24 x25 x26 x27 x28 x29 x30 x31 x32 x33 x34 x35 x36 x37 x38 x39 x40 x41 x42 x43 x44 x45 x46 x47 x48 x49 x50 x51 x52 x53 x54 x55 x56 x57 x58 x59 x60 x61 x62 x63 x64 x65 x66 x67 x68 x69 x70 x71 x72 x73 x74 x75 x76 x77 x78 x79 x80 x81 x82 x83 x84 x85 x86 x87 x88 x89 x90 x91 x92 x93 x94 x95 x96 x97 x98 x99 x100 x101 x102 x103 x104 x105 x106 x107 x108 x109 x110 x111 x112 x113 : Value) : Code.wp Tryz.prog codeU (bodyPost Tryz.prog Tryz.f5 (EonQ x c w)) ⟨List.toArray (x0 :: x1 :: x2 :: x3 :: x4 :: x5 :: .pointer (some ⟨w.heap.size + 1, 0, none⟩) :: x7 :: x8 :: .pointer (some ⟨gr, 0, none⟩) :: .int .i64 P :: .int .i64 (P + 6) :: x12 :: .pointer (some ⟨gd, 0, none⟩) :: x14 :: x15 :: x16 :: x17 :: x18 :: x19 :: x20 :: x21 :: x22 :: x23 :: x24 :: x25 :: x26 :: x27 :: x28 :: x29 :: x30 :: x31 :: x32 :: x33 :: x34 :: x35 :: x36 :: x37 :: x38 :: x39 :: x40 :: x41 :: x42 :: x43 :: x44 :: x45 :: x46 :: x47 :: x48 :: x49 :: x50 :: x51 :: x52 :: x53 :: x54 :: x55 :: x56 :: x57 :: x58 :: x59 :: x60 :: x61 :: x62 :: x63 :: x64 :: x65 :: x66 :: x67 :: x68 :: x69 :: x70 :: x71 :: x72 :: x73 :: x74 :: x75 :: x76 :: x77 :: x78 :: x79 :: x80 :: x81 :: x82 :: x83 :: x84 :: x85 :: x86 :: x87 :: x88 :: x89 :: x90 :: x91 :: x92 :: x93 :: x94 :: x95 :: x96 :: x97 :: x98 :: x99 :: x100 :: x101 :: x102 :: x103 :: x104 :: x105 :: x106 :: x107 :: x108 :: x109 :: x110 :: x111 :: x112 :: x113 :: []), []⟩ w4 := by
  conv => arg 2; whnf
  obtain ⟨hn, hhn⟩ : ∃ b : Bool, b = decide (P % 7 = 1 ∧ P ≤ 22) := ⟨_, rfl⟩
  have p71 : P.tmod 7 = P % 7 := Int.tmod_eq_emod_of_nonneg (by omega)
  go_upto_region 22 with fail
  go_cut [93] (fun u wz => u = .bool hn ∧ w4 = wz)
  case first =>
    by_cases g1 : P % 7 = 1
    · have x1 : (P % 7 == 1) = true := by rw [g1]; rfl
      by_cases g2 : P ≤ 22
      · have hq : hn = true := by rw [hhn]; exact decide_eq_true ⟨g1, g2⟩
        subst hq
        clear g1 hhn
        go_wp2
        go_meet
        exact ⟨rfl, rfl⟩
      · have hq : hn = false := by rw [hhn]; exact decide_eq_false (fun z => g2 z.2)
        subst hq
        clear g1 hhn
        go_wp2
        go_meet
        exact ⟨rfl, rfl⟩
    · have x1 : (P % 7 == 1) = false := beq_eq_false_iff_ne.2 g1
      have hq : hn = false := by rw [hhn]; exact decide_eq_false (fun z => g1 z.1)
      subst hq
      clear g1 hhn
      go_wp2
      go_meet
      exact ⟨rfl, rfl⟩
  case rest =>
  obtain ⟨rfl, hw4⟩ := hcut
  subst hw4
  obtain ⟨NM, hNM⟩ : ∃ n : Int, n = if hn = true then P / 7 + 1 else 0 := ⟨_, rfl⟩
  obtain ⟨MD, hMD⟩ : ∃ l : List Int, l = if hn = true then [] else sevL P 7 := ⟨_, rfl⟩
  have HF := Lib.hid (show (rcv month [(NM, W)] MD, (0 : Int)) = (x, c) from by
    have q := HH.out
    rw [hNM, hMD]
    by_cases g : P % 7 = 1 ∧ P ≤ 22
    · rw [if_pos g] at q
      rw [if_pos (by rw [hhn]; exact decide_eq_true g), if_pos (by rw [hhn]; exact decide_eq_true g)]; exact q
    · rw [if_neg g] at q
      rw [if_neg (by rw [hhn, decide_eq_false g]; decide), if_neg (by rw [hhn, decide_eq_false g]; decide)]; exact q)
  have HNM := Lib.hid hNM
  have HMD := Lib.hid hMD
  clear hNM hMD hhn HH p71
  have r0 := A4.out.1
  go_upto_if 93 with fail
  go_cut [14] (fun u w5 => EnM gr gm w4.heap.size w5 MD ∧ Hid (Cs gd w5 [.int .i64 NM, .int .i64 W]) ∧ Hid (Cs gm w5 [.int .i64 month]) ∧ Hid (Cs (w.heap.size + 1) w5 [.int .i64 0, .int .i64 0, .int .i64 0, .bool false, .int .i64 0, .bool false, .slice none 0 0, .slice none 0 0, .slice none 0 0, .slice none 0 0, .slice none 0 0, .slice none 0 0, .slice none 0 0, .slice none 0 0, .slice none 0 0, .int .i64 0]) ∧ Hid (Below w.heap.size w w5))
  case first =>
    cases hn with
    | true =>
      have y0 := (D4.out.2 0 _ rfl).1
      have y1 := (D4.out.2 0 _ rfl).2
      have dg := D4.out.1
      have pdv : P.tdiv 7 = P / 7 := Int.tdiv_eq_ediv_of_nonneg (by omega)
      go_wp2
      go_meet
      have h1 : NM = P / 7 + 1 := by simpa using HNM.out
      have h2 : MD = [] := by simpa using HMD.out
      subst h1 h2
      have D := D4.out.set 0 (by simp) (.int .i64 (P / 7 + 1))
      simp only [List.set_cons_zero] at D
      exact ⟨⟨_, A4.out.other e1 _, RowI.nil _ _⟩, Lib.hid D, Lib.hid (M4.out.other e2 _), Lib.hid (R4.out.other e3 _), Lib.hid (B4.out.setCell gwd _)⟩
    | false =>
      have h1 : NM = 0 := by simpa using HNM.out
      have h2 : MD = sevL P 7 := by simpa using HMD.out
      subst h1 h2
      have hgr4 := A4.out.1
      have hgm4 := M4.out.1
      have hgd4 := D4.out.1
      have hgR4 := R4.out.1
      go_wp2
      go_loopw [14] (fun iv wr => ∃ (j : Nat) (mv : Value), j ≤ 7 ∧ iv = .int .i64 (P + (j : Int)) ∧ Hid (RowI w4.heap.size wr mv (sevL P j)) ∧ Hid (Cs gr wr [.int .i64 7, .int .i64 1, .int .i64 0, .bool false, .int .i64 0, .bool false, .slice none 0 0, .slice none 0 0, .slice none 0 0, .slice none 0 0, mv, .slice none 0 0, .slice none 0 0, .slice (some ⟨gm, 0, none⟩) 1 1, .slice none 0 0, .int .i64 1]) ∧ Hid (Cs gd wr [.int .i64 0, .int .i64 W]) ∧ Hid (Cs gm wr [.int .i64 month]) ∧ Hid (Cs (w.heap.size + 1) wr [.int .i64 0, .int .i64 0, .int .i64 0, .bool false, .int .i64 0, .bool false, .slice none 0 0, .slice none 0 0, .slice none 0 0, .slice none 0 0, .slice none 0 0, .slice none 0 0, .slice none 0 0, .slice none 0 0, .slice none 0 0, .int .i64 0]) ∧ Hid (Below w.heap.size w wr) ∧ w4.heap.size ≤ wr.heap.size) (fun iv _ => 7 - (intOf iv - P).toNat)
      case atStart => exact ⟨0, .slice none 0 0, by omega, by simp, Lib.hid (RowI.nil _ _), A4, D4, M4, R4, B4, Nat.le_refl _⟩
      case round =>
        obtain ⟨j, mv, hj, rfl, HR, A5, D5, M5, R5, B5, hsz⟩ := hrel
        obtain ⟨wo, rfl⟩ : ∃ wo : World, wo = wr := ⟨_, rfl⟩
        by_cases hlt : j < 7
        · have z10 := (A5.out.2 10 _ rfl).1
          have rA := A5.out.1
          have hl : (sevL P j).length ≤ 100000000 := by rw [sev_len]; omega
          have HSL := Lib.hid (sev_len P j)
          have s1 : IntKind.i64.wrap (P + (j : Int) + 1) = P + (j : Int) + 1 := IntWalk.i64_in _ (by omega)
          go_wp2_with (at_builtin; refine Ap.appI rfl _ _ rfl w4.heap.size mv (sevL P j) rfl HR.out (P + (j : Int)) rfl hl hsz ?_)
          intro w5 gg gcap r5 g5
          have A6 := Lib.hid (cs_grew A5.out g5 (own_ne HR.out hgr4))
          have D6 := Lib.hid (cs_grew D5.out g5 (own_ne HR.out hgd4))
          have M6 := Lib.hid (cs_grew M5.out g5 (own_ne HR.out hgm4))
          have R6 := Lib.hid (cs_grew R5.out g5 (own_ne HR.out hgR4))
          have B6 := Lib.hid (g5.below w.heap.size w (by omega) B5.out B5.out.size)
          have hsz6 := Nat.le_trans hsz g5.size
          have HR6 : Hid (RowI w4.heap.size w5 (.slice (some ⟨gg, 0, none⟩) (j + 1) gcap) (sevL P (j + 1))) := Lib.hid (by rw [sev_succ]; rw [sev_len] at r5; exact r5)
          rw [HSL.out]
          clear g5 r5 HR A5 D5 M5 R5 B5 hsz z10 rA
          have z10 := (A6.out.2 10 _ rfl).1
          have y10 := (A6.out.2 10 _ rfl).2
          have r6 := A6.out.1
          go_wp2
          go_roundw
          case rel =>
            have D := A6.out.set 10 (by simp) (.slice (some ⟨gg, 0, none⟩) (j + 1) gcap)
            simp only [List.set_cons_succ, List.set_cons_zero] at D
            exact ⟨j + 1, _, by omega, by go_num, Lib.hid (row_set HR6.out hgr4 10 _), Lib.hid D, Lib.hid (D6.out.other e4 _), Lib.hid (M6.out.other d3 _), Lib.hid (R6.out.other d2 _), Lib.hid (B6.out.setCell gw _), by simpa [World.setCell] using hsz6⟩
          case measure => simp [intOf]; omega
        · have hj7 : j = 7 := by omega
          subst hj7
          go_wp2
          go_meet
          exact ⟨⟨mv, A5.out, HR.out⟩, D5, M5, R5, B5⟩
  case rest =>
  obtain ⟨w5, rfl⟩ : ∃ x : World, x = wc := ⟨_, rfl⟩
  obtain ⟨⟨mv, ha5, hi5⟩, D5, M5, R5, B5⟩ := hcut
  obtain ⟨mA, mn, mc, rfl⟩ : ∃ A n c, mv = .slice A n c := by
    obtain ⟨A, c, e⟩ := hi5.forms
    exact ⟨_, _, _, e⟩
  have A5 := Lib.hid ha5
  have HR5 := Lib.hid hi5
  exact (by assumption : ∀ (a : Act) (w' : World), Code.wp Tryz.prog codeV (bodyPost Tryz.prog Tryz.f5 (EonQ x c w)) a w' → _) _ _ (eonV month NM W MD mA mn mc w4.heap.size x c w w5 gm gr gd hgR d2 d3 d4 gw A4.out.1 R4.out.1 HF A5 HR5 D5 M5 R5 B5 _ _ _ _ _ _ _ _ _ _ _ _ _ _ _ _ _ _ _ _ _ _ _ _ _ _ _ _ _ _ _ _ _ _ _ _ _ _ _ _ _ _ _ _ _ _ _ _ _ _ _ _ _ _ _ _ _ _ _ _ _ _ _ _ _ _ _ _ _ _ _ _ _ _ _ _ _ _ _ _ _ _ _ _ _ _ _ _ _ _ _ _ _ _ _ _ _ _ _ _ _ _ _ _ _ _ _ _ _ _ _)
end Enc
end Go.Proofs.YtpbbnkgfheafpaaGreatDoor
