/-
  The waking call of layer 9. (Written by gen/gen_rulw.py.)
-/
import Derived.Test.YtopmcelfmkeamaaGreatDoorRulQ
import Derived.Test.YtopmcelfmkeamaaGreatDoorRulT
import Derived.Test.YtopmcelfmkeamaaGreatDoorMrgF
namespace Go.Proofs.YtopmcelfmkeamaaGreatDoor
open Go.RowKit
namespace Rul
open Sol Clk Cel
instance : DecidableEq RV := fun ⟨a0, a1, a2, a3, a4, a5, a6, a7, a8, a9, a10⟩ ⟨b0, b1, b2, b3, b4, b5, b6, b7, b8, b9, b10⟩ =>
  decidable_of_iff (a0 = b0 ∧ a1 = b1 ∧ a2 = b2 ∧ a3 = b3 ∧ a4 = b4 ∧ a5 = b5 ∧ a6 = b6 ∧ a7 = b7 ∧ a8 = b8 ∧ a9 = b9 ∧ a10 = b10) (by simp)
theorem dd81 : Lib.decDigits 1981 = [49, 57, 56, 49] := by
  rw [Lib.decDigits, dif_neg (by decide), Lib.decDigits, dif_neg (by decide), Lib.decDigits, dif_neg (by decide), Lib.decDigits, dif_pos (by decide)]; decide
theorem dd1 : Lib.decDigits 1 = [49] := by rw [Lib.decDigits, dif_pos (by decide)]; decide
theorem tx81 : textL 1981 0 = [49, 57, 56, 49] := by
  rw [textL, if_neg (by decide), if_pos (by decide), show (1981 : Int).toNat = 1981 from rfl, dd81]; decide
theorem tx1 : textL 1 1 = [49] := by
  rw [textL, if_neg (by decide), if_pos (by decide), show (1 : Int).toNat = 1 from rfl, dd1]; decide
theorem ct36 : ctL 3600 = [49] := by
  rw [ctL, if_neg (by decide), body, if_pos (by decide), if_pos (by decide), show (3600 : Int) / 3600 = 1 from rfl, tx1]; rfl
theorem wk9_1 : Fds.splitR [82, 117, 108, 101, 32, 69, 85, 32, 49, 57, 56, 49, 32, 109, 97, 120, 32, 45, 32, 77, 97, 114, 32, 108, 97, 115, 116, 83, 117, 110, 32, 49, 58, 48, 48, 117, 32, 49, 58, 48, 48, 32, 83] = ([[82, 117, 108, 101], [69, 85], [49, 57, 56, 49], [109, 97, 120], [45], [77, 97, 114], [108, 97, 115, 116, 83, 117, 110], [49, 58, 48, 48, 117], [49, 58, 48, 48], [83]], 0) := by decide +kernel
theorem wk9_2 : ruP [[82, 117, 108, 101], [69, 85], [49, 57, 56, 49], [109, 97, 120], [45], [77, 97, 114], [108, 97, 115, 116, 83, 117, 110], [49, 58, 48, 48, 117], [49, 58, 48, 48], [83]] = (0, ⟨[69, 85], 1981, 9999, 3, 2, 0, 0, 3600, 3, 3600, [83]⟩) := by decide +kernel
theorem wk9_c : chkB ⟨[69, 85], 1981, 9999, 3, 2, 0, 0, 3600, 3, 3600, [83]⟩ = true := by decide +kernel
theorem wk9_3 : ruT ⟨[69, 85], 1981, 9999, 3, 2, 0, 0, 3600, 3, 3600, [83]⟩ = [82, 117, 108, 101, 32, 69, 85, 32, 49, 57, 56, 49, 32, 109, 97, 120, 32, 45, 32, 77, 97, 114, 32, 108, 97, 115, 116, 83, 117, 110, 32, 49, 117, 32, 49, 32, 83] ∧ ruE ⟨[69, 85], 1981, 9999, 3, 2, 0, 0, 3600, 3, 3600, [83]⟩ = 0 := by
  refine ⟨?_, by rw [ruE, if_pos wk9_c]⟩
  have e1 : Atf.atT 3600 3 = [49, 117] := by rw [Atf.atT, if_pos (by decide), ct36]; decide
  have e2 : ctS 3600 = [49] := by rw [ctS, if_pos (by decide), ct36]
  rw [ruT, if_pos wk9_c, ruF]
  simp only [tx81, e1, e2]
  decide +kernel
theorem wk9_4 : nameB [69, 85] = true := by decide +kernel
theorem wk9_5 : Fm.letB [45] = false := by decide +kernel
theorem wk9_6 : ruE ⟨[], 0, 0, 0, 0, 0, 0, 0, 0, 0, []⟩ = 10 := by decide +kernel
set_option maxHeartbeats 6400000 in
set_option maxRecDepth 100000 in
theorem wakes9_any (w : World) (hp : Pow w) (hm : Wrd.MaxL w) :
    Calls Tryz.prog 18 #[] w fun e w' => e = .returned (.bool true) ∧ Below w.heap.size w w' := by
  have HP := Lib.hid hp
  have HM := Lib.hid hm
  have W1 := Lib.hid wk9_1
  have W2 := Lib.hid wk9_2
  have W3 := Lib.hid wk9_3
  have W4 := Lib.hid wk9_4
  have W5 := Lib.hid wk9_5
  have W6 := Lib.hid wk9_6
  clear hp hm
  go_enter Tryz.func18, Tryz.ntmps18
  go_wp2_with fail
  refine (Fds.spl_to _ [82, 117, 108, 101, 32, 69, 85, 32, 49, 57, 56, 49, 32, 109, 97, 120, 32, 45, 32, 77, 97, 114, 32, 108, 97, 115, 116, 83, 117, 110, 32, 49, 58, 48, 48, 117, 32, 49, 58, 48, 48, 32, 83] [[82, 117, 108, 101], [69, 85], [49, 57, 56, 49], [109, 97, 120], [45], [77, 97, 114], [108, 97, 115, 116, 83, 117, 110], [49, 58, 48, 48, 117], [49, 58, 48, 48], [83]] 0 _ (by decide) (Lib.hid rfl) W1).mono ?_
  rintro e w1 ⟨v, rfl, tv, b1⟩
  have B1 := Lib.hid b1
  have TV := Lib.hid tv
  clear b1 tv
  go_wp2_with fail
  refine (rparse_to v [[82, 117, 108, 101], [69, 85], [49, 57, 56, 49], [109, 97, 120], [45], [77, 97, 114], [108, 97, 115, 116, 83, 117, 110], [49, 58, 48, 48, 117], [49, 58, 48, 48], [83]] 0 ⟨[69, 85], 1981, 9999, 3, 2, 0, 0, 3600, 3, 3600, [83]⟩ _ (HM.out.stays B1.out) TV.out (by decide) (by decide) W2).mono ?_
  rintro e w2 ⟨rfl, b2⟩
  have B2 := Lib.hid (bstep B1.out b2)
  clear b2
  simp only [RV.val]
  go_wp2_with fail
  refine (rtext_to [69, 85] [83] 1981 9999 3 2 0 0 3600 3 3600 [82, 117, 108, 101, 32, 69, 85, 32, 49, 57, 56, 49, 32, 109, 97, 120, 32, 45, 32, 77, 97, 114, 32, 108, 97, 115, 116, 83, 117, 110, 32, 49, 117, 32, 49, 32, 83] 0 _ (HP.out.stays (by first | exact B2.out.alloc B2.out.size _ | exact B2.out)) (by decide) (by decide) W3).mono ?_
  rintro e w3 ⟨rfl, b3⟩
  have C3 := Lib.hid (Cs.below (Cs.new w2 [.string ⟨[69, 85].toArray⟩, .int .i64 1981, .int .i64 9999, .int .i64 3, .int .i64 2, .int .i64 0, .int .i64 0, .int .i64 3600, .int .i64 3, .int .i64 3600, .string ⟨[83].toArray⟩] 27) b3)
  have B3 := Lib.hid (bstep (B2.out.alloc B2.out.size _) b3)
  clear b3
  have u1 := (C3.out.2 1 _ rfl).1
  have u2 := (C3.out.2 2 _ rfl).1
  have u3 := (C3.out.2 3 _ rfl).1
  have u9 := (C3.out.2 9 _ rfl).1
  have u10 := (C3.out.2 10 _ rfl).1
  go_wp2_with fail
  refine (nam_to ⟨#[69, 85]⟩ [69, 85] true _ (by decide) (Lib.hid rfl) W4).mono ?_
  rintro e w4 ⟨rfl, rfl⟩
  go_wp2_with fail
  refine (let2_to ⟨#[45]⟩ [45] false _ (by decide) (Lib.hid rfl) W5).mono ?_
  rintro e w4 ⟨rfl, rfl⟩
  go_wp2_with fail
  refine (rchk_to [] [] 0 0 0 0 0 0 0 0 0 10 _ (by decide) (by decide) W6).mono ?_
  rintro e w5 ⟨rfl, b5⟩
  go_wp2
  go_ret
  exact ⟨rfl, bstep B3.out b5⟩
end Rul
end Go.Proofs.YtopmcelfmkeamaaGreatDoor
