/-
  The waking call of layer 10. (Written by gen/gen_zonw.py.)
-/
import Derived.Test.YthefgagmjamdkaaGreatDoorZonQ
import Derived.Test.YthefgagmjamdkaaGreatDoorBdL
import Derived.Test.YthefgagmjamdkaaGreatDoorMrgF
namespace Go.Proofs.YthefgagmjamdkaaGreatDoor
open Go.RowKit
namespace Zon
open Sol Clk Cel Rul
instance : DecidableEq EV := fun ⟨a0, a1, a2, a3, a4, a5, a6, a7, a8, a9, a10, a11, a12⟩ ⟨b0, b1, b2, b3, b4, b5, b6, b7, b8, b9, b10, b11, b12⟩ =>
  decidable_of_iff (a0 = b0 ∧ a1 = b1 ∧ a2 = b2 ∧ a3 = b3 ∧ a4 = b4 ∧ a5 = b5 ∧ a6 = b6 ∧ a7 = b7 ∧ a8 = b8 ∧ a9 = b9 ∧ a10 = b10 ∧ a11 = b11 ∧ a12 = b12) (by simp)
theorem dd96 : Lib.decDigits 1996 = [49, 57, 57, 54] := by
  rw [Lib.decDigits, dif_neg (by decide), Lib.decDigits, dif_neg (by decide), Lib.decDigits, dif_neg (by decide), Lib.decDigits, dif_pos (by decide)]; decide
theorem ddz (n : Nat) (h : n < 10) : Lib.decDigits n = [UInt8.ofNat (48 + n)] := by rw [Lib.decDigits, dif_pos h]
theorem tx96 : textL 1996 0 = [49, 57, 57, 54] := by
  rw [textL, if_neg (by decide), if_pos (by decide), show (1996 : Int).toNat = 1996 from rfl, dd96]; decide
theorem txz (n : Int) (h0 : 0 ≤ n) (h : n < 10) : textL n 1 = [UInt8.ofNat (48 + n.toNat)] := by
  rw [textL, if_neg (by omega), if_pos (by omega), ddz _ (by omega)]; rfl
theorem ctz (k : Int) (h0 : 0 ≤ k) (h : k < 10) : ctL (3600 * k) = [UInt8.ofNat (48 + k.toNat)] := by
  rw [ctL, if_neg (by omega), body, if_pos (by omega), if_pos (by omega), show (3600 * k) / 3600 = k by omega, txz k h0 h]; simp
theorem wk10_1 : Fds.splitR [49, 58, 48, 48, 32, 69, 85, 32, 67, 69, 37, 115, 84, 32, 49, 57, 57, 54, 32, 79, 99, 116, 32, 108, 97, 115, 116, 83, 117, 110, 32, 50, 115] = ([[49, 58, 48, 48], [69, 85], [67, 69, 37, 115, 84], [49, 57, 57, 54], [79, 99, 116], [108, 97, 115, 116, 83, 117, 110], [50, 115]], 0) := by decide +kernel
theorem wk10_2 : erP [[49, 58, 48, 48], [69, 85], [67, 69, 37, 115, 84], [49, 57, 57, 54], [79, 99, 116], [108, 97, 115, 116, 83, 117, 110], [50, 115]] = (0, ⟨3600, 3, 0, [69, 85], [67, 69, 37, 115, 84], true, 1996, 10, 2, 0, 0, 7200, 2⟩) := by decide +kernel
theorem wk10_c : rgB ⟨3600, 3, 0, [69, 85], [67, 69, 37, 115, 84], true, 1996, 10, 2, 0, 0, 7200, 2⟩ = true := by decide +kernel
theorem wk10_3 : erT ⟨3600, 3, 0, [69, 85], [67, 69, 37, 115, 84], true, 1996, 10, 2, 0, 0, 7200, 2⟩ = [49, 32, 69, 85, 32, 67, 69, 37, 115, 84, 32, 49, 57, 57, 54, 32, 79, 99, 116, 32, 108, 97, 115, 116, 83, 117, 110, 32, 50, 115] ∧ erE ⟨3600, 3, 0, [69, 85], [67, 69, 37, 115, 84], true, 1996, 10, 2, 0, 0, 7200, 2⟩ = 0 := by
  refine ⟨?_, by rw [erE, if_pos wk10_c]⟩
  have e0 : ctL 3600 = [49] := ctz 1 (by decide) (by decide)
  have e1 : ctL 7200 = [50] := ctz 2 (by decide) (by decide)
  have e2 : Atf.atT 7200 2 = [50, 115] := by rw [Atf.atT, if_pos (by decide), e1]; decide
  have e3 : ctS 3600 = [49] := by rw [ctS, if_pos (by decide), e0]
  rw [erT, if_pos wk10_c, erF, unF, if_pos rfl]
  simp only [tx96, e2, e3, svT]
  decide +kernel
theorem wk10_4 : Fm.fmtB [65, 47, 66] = true := by decide +kernel
theorem wk10_5 : Fm.fmtB [37, 120] = false := by decide +kernel
theorem wk10_6 : nameB [] = false := by decide +kernel
set_option maxHeartbeats 6400000 in
set_option maxRecDepth 100000 in
theorem zchk_nil (w : World) :
    Calls Tryz.prog 16 #[.agg #[.string ⟨#[]⟩, .slice none 0 0]] w fun e w' => e = .returned (.int .i64 11) ∧ Below w.heap.size w w' := by
  have W6 := Lib.hid wk10_6
  go_enter Tryz.func16, Tryz.ntmps16
  go_wp2_with fail
  refine (nam_to ⟨#[]⟩ [] false _ (by decide) (Lib.hid rfl) W6).mono ?_
  rintro e w4 ⟨rfl, rfl⟩
  go_wp2
  go_ret
  exact ⟨rfl, by repeat (first | with_reducible exact Below.refl _ _ | with_reducible refine Below.alloc ?_ (by exact Nat.le_refl _) _ | with_reducible refine Below.drew ?_)⟩
set_option maxHeartbeats 6400000 in
set_option maxRecDepth 100000 in
theorem wakes10_any (w : World) (hp : Pow w) (hA : Civ.Ahead w) (hm : Wrd.MaxL w) :
    Calls Tryz.prog 18 #[] w fun e w' => e = .returned (.bool true) ∧ Below w.heap.size w w' := by
  have HP := Lib.hid hp
  have HA := Lib.hid hA
  have HM := Lib.hid hm
  have W1 := Lib.hid wk10_1
  have W2 := Lib.hid wk10_2
  have W3 := Lib.hid wk10_3
  have W4 := Lib.hid wk10_4
  have W5 := Lib.hid wk10_5
  clear hp hm hA
  go_enter Tryz.func18, Tryz.ntmps18
  go_wp2_with fail
  refine (Fds.spl_to _ [49, 58, 48, 48, 32, 69, 85, 32, 67, 69, 37, 115, 84, 32, 49, 57, 57, 54, 32, 79, 99, 116, 32, 108, 97, 115, 116, 83, 117, 110, 32, 50, 115] [[49, 58, 48, 48], [69, 85], [67, 69, 37, 115, 84], [49, 57, 57, 54], [79, 99, 116], [108, 97, 115, 116, 83, 117, 110], [50, 115]] 0 _ (by decide) (Lib.hid rfl) W1).mono ?_
  rintro e w1 ⟨v, rfl, tv, b1⟩
  have B1 := Lib.hid b1
  have TV := Lib.hid tv
  clear b1 tv
  go_wp2_with fail
  refine (era_to v [[49, 58, 48, 48], [69, 85], [67, 69, 37, 115, 84], [49, 57, 57, 54], [79, 99, 116], [108, 97, 115, 116, 83, 117, 110], [50, 115]] 0 ⟨3600, 3, 0, [69, 85], [67, 69, 37, 115, 84], true, 1996, 10, 2, 0, 0, 7200, 2⟩ _ (HA.out.stays B1.out) (HM.out.stays B1.out) TV.out (by decide) (by decide) W2).mono ?_
  rintro e w2 ⟨rfl, b2⟩
  have B2 := Lib.hid (bstep B1.out b2)
  clear b2
  simp only [EV.val]
  go_wp2_with fail
  refine (ztx_to 3600 3 0 [69, 85] [67, 69, 37, 115, 84] true 1996 10 2 0 0 7200 2 [49, 32, 69, 85, 32, 67, 69, 37, 115, 84, 32, 49, 57, 57, 54, 32, 79, 99, 116, 32, 108, 97, 115, 116, 83, 117, 110, 32, 50, 115] 0 _ (HP.out.stays (B2.out.alloc B2.out.size _)) (HA.out.stays (B2.out.alloc B2.out.size _)) (HM.out.stays (B2.out.alloc B2.out.size _)) (by decide) (by decide) W3).mono ?_
  rintro e w3 ⟨rfl, b3⟩
  have C3 := Lib.hid (Cs.below (Cs.new w2 [.int .i64 3600, .int .i64 3, .int .i64 0, .string ⟨[69, 85].toArray⟩, .string ⟨[67, 69, 37, 115, 84].toArray⟩, .bool true, .int .i64 1996, .int .i64 10, .int .i64 2, .int .i64 0, .int .i64 0, .int .i64 7200, .int .i64 2] 30) b3)
  have B3 := Lib.hid (bstep (B2.out.alloc B2.out.size _) b3)
  clear b3
  have u1 := (C3.out.2 1 _ rfl).1
  have u3 := (C3.out.2 3 _ rfl).1
  have u5 := (C3.out.2 5 _ rfl).1
  have u6 := (C3.out.2 6 _ rfl).1
  go_wp2_with fail
  refine (Fm.fmt_to ⟨#[65, 47, 66]⟩ [65, 47, 66] true _ (HM.out.stays B3.out) (by decide) (Lib.hid rfl) W4).mono ?_
  rintro e w4 ⟨rfl, b4⟩
  have B4 := Lib.hid (bstep B3.out b4)
  clear b4
  go_wp2_with fail
  refine (Fm.fmt_to ⟨#[37, 120]⟩ [37, 120] false _ (HM.out.stays B4.out) (by decide) (Lib.hid rfl) W5).mono ?_
  rintro e w5 ⟨rfl, b5⟩
  have B5 := Lib.hid (bstep B4.out b5)
  clear b5
  go_wp2_with fail
  refine (zchk_nil _).mono ?_
  rintro e w6 ⟨rfl, b6⟩
  go_wp2
  go_ret
  exact ⟨rfl, bstep B5.out b6⟩
end Zon
end Go.Proofs.YthefgagmjamdkaaGreatDoor
