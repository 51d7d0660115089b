/-
  RuleBent: a right rule is none with a year beyond, an end ahead of its beginning, a month that is none, a day that the month never has, a saving of a day, a name that begins with a digit. (Written by gen/gen_ruln.py.)
-/
import Derived.Test.YtpcnpacllkiieaaGreatDoorRRul
import Derived.Test.YtpcnpacllkiieaaGreatDoorRulW
import Derived.Test.YtpcnpacllkiieaaGreatDoorClForms
namespace Go.Proofs.YtpcnpacllkiieaaGreatDoor
open Go.RowKit
namespace Rul
open Sol Clk Cel
set_option maxHeartbeats 12800000 in
set_option maxRecDepth 100000 in
theorem rbt_nm (nm lt : List UInt8) (fr tu mo k v d n c sv how : Int) (w : World) (m : nm.length ≤ maxLen) (h : 200 < nm.length) :
    Calls Tryz.prog 5 #[.agg #[.string ⟨nm.toArray⟩, .int .i64 fr, .int .i64 tu, .int .i64 mo, .int .i64 k, .int .i64 v, .int .i64 d, .int .i64 n, .int .i64 c, .int .i64 sv, .string ⟨lt.toArray⟩], .int .i64 how] w fun e w' => e = .returned (.bool true) ∧ Below w.heap.size w w' := by
  unfold maxLen at m
  have s0 : (⟨nm.toArray⟩ : ByteArray).size = nm.length := rfl
  have s1 : (⟨lt.toArray⟩ : ByteArray).size = lt.length := rfl
  go_enter Tryz.func5, Tryz.ntmps5
  go_wp2
  go_ret
  exact ⟨rfl, by repeat (first | with_reducible exact Below.refl _ _ | refine below_drewN ?_ _ | refine Below.drew ?_ | refine Below.alloc ?_ (by simp; try omega) _)⟩
set_option maxHeartbeats 12800000 in
set_option maxRecDepth 100000 in
theorem rbt_lt (nm lt : List UInt8) (fr tu mo k v d n c sv how : Int) (w : World) (m : lt.length ≤ maxLen) (h0 : nm.length ≤ 200) (h : 200 < lt.length) :
    Calls Tryz.prog 5 #[.agg #[.string ⟨nm.toArray⟩, .int .i64 fr, .int .i64 tu, .int .i64 mo, .int .i64 k, .int .i64 v, .int .i64 d, .int .i64 n, .int .i64 c, .int .i64 sv, .string ⟨lt.toArray⟩], .int .i64 how] w fun e w' => e = .returned (.bool true) ∧ Below w.heap.size w w' := by
  unfold maxLen at m
  have s0 : (⟨nm.toArray⟩ : ByteArray).size = nm.length := rfl
  have s1 : (⟨lt.toArray⟩ : ByteArray).size = lt.length := rfl
  go_enter Tryz.func5, Tryz.ntmps5
  go_wp2
  go_ret
  exact ⟨rfl, by repeat (first | with_reducible exact Below.refl _ _ | refine below_drewN ?_ _ | refine Below.drew ?_ | refine Below.alloc ?_ (by simp; try omega) _)⟩
set_option maxHeartbeats 12800000 in
set_option maxRecDepth 100000 in
theorem rbt_no (nm lt : List UInt8) (fr tu mo k v d n c sv how : Int) (w : World) (h0 : nm.length ≤ 200) (h1 : lt.length ≤ 200) (HR : Hid (chkB ⟨nm, fr, tu, mo, k, v, d, n, c, sv, lt⟩ = false)) :
    Calls Tryz.prog 5 #[.agg #[.string ⟨nm.toArray⟩, .int .i64 fr, .int .i64 tu, .int .i64 mo, .int .i64 k, .int .i64 v, .int .i64 d, .int .i64 n, .int .i64 c, .int .i64 sv, .string ⟨lt.toArray⟩], .int .i64 how] w fun e w' => e = .returned (.bool true) ∧ Below w.heap.size w w' := by
  have s0 : (⟨nm.toArray⟩ : ByteArray).size = nm.length := rfl
  have s1 : (⟨lt.toArray⟩ : ByteArray).size = lt.length := rfl
  go_enter Tryz.func5, Tryz.ntmps5
  go_wp2_with fail
  refine (rrule_to nm lt fr tu mo k v d n c sv false _ (by omega) (by omega) HR).mono ?_
  rintro e w1 ⟨rfl, b1'⟩
  go_wp2
  go_ret
  exact ⟨rfl, bstep (show Below w.heap.size w _ from (by repeat (first | with_reducible exact Below.refl _ _ | refine below_drewN ?_ _ | refine Below.drew ?_ | refine Below.alloc ?_ (by simp; try omega) _))) b1'⟩
theorem why0 (nm lt : List UInt8) (tu mo k v d n c sv : Int) : chkB ⟨nm, 0, tu, mo, k, v, d, n, c, sv, lt⟩ = false := by
  rw [chk_ref, decide_eq_false (show ¬ (1 ≤ (0 : Int) ∧ (0 : Int) ≤ 9999) by decide)]; simp
set_option maxHeartbeats 12800000 in
set_option maxRecDepth 100000 in
theorem rbt_0 (nm lt : List UInt8) (fr tu mo k v d n c sv how : Int) (w : World) (hp : Pow w) (hm : Wrd.MaxL w) (h0 : nm.length ≤ 200) (h1 : lt.length ≤ 200) (HR : Hid (chkB ⟨nm, fr, tu, mo, k, v, d, n, c, sv, lt⟩ = true)) (ek : (IntKind.u64.wrap how).tmod 9 = 0) :
    Calls Tryz.prog 5 #[.agg #[.string ⟨nm.toArray⟩, .int .i64 fr, .int .i64 tu, .int .i64 mo, .int .i64 k, .int .i64 v, .int .i64 d, .int .i64 n, .int .i64 c, .int .i64 sv, .string ⟨lt.toArray⟩], .int .i64 how] w fun e w' => e = .returned (.bool true) ∧ Below w.heap.size w w' := by
  have s0 : (⟨nm.toArray⟩ : ByteArray).size = nm.length := rfl
  have s1 : (⟨lt.toArray⟩ : ByteArray).size = lt.length := rfl
  have HP := Lib.hid hp
  have HM := Lib.hid hm
  clear hp hm
  have HE : Hid (ruE ⟨nm, fr, tu, mo, k, v, d, n, c, sv, lt⟩ = 0) := Lib.hid (by rw [ruE, if_pos HR.out])
  have HX : Hid (ruE ⟨nm, 0, tu, mo, k, v, d, n, c, sv, lt⟩ = 10) := Lib.hid (by rw [ruE, if_neg (by rw [why0]; decide)])
  have HT : Hid (ruT ⟨nm, 0, tu, mo, k, v, d, n, c, sv, lt⟩ = [] ∧ ruE ⟨nm, 0, tu, mo, k, v, d, n, c, sv, lt⟩ = 10) := Lib.hid ⟨by rw [ruT, if_neg (by rw [why0]; decide)], HX.out⟩
  go_enter Tryz.func5, Tryz.ntmps5
  go_wp2_with fail
  refine (rrule_to nm lt fr tu mo k v d n c sv true _ (by omega) (by omega) HR).mono ?_
  rintro e w1 ⟨rfl, b1'⟩
  have B1 := Lib.hid (bstep (show Below w.heap.size w _ from (by repeat (first | with_reducible exact Below.refl _ _ | refine below_drewN ?_ _ | refine Below.drew ?_ | refine Below.alloc ?_ (by simp; try omega) _))) b1')
  have CA1 := Lib.hid (Cs.below (Cs.new w [.string ⟨nm.toArray⟩, .int .i64 fr, .int .i64 tu, .int .i64 mo, .int .i64 k, .int .i64 v, .int .i64 d, .int .i64 n, .int .i64 c, .int .i64 sv, .string ⟨lt.toArray⟩] 27) b1')
  clear b1'
  have z0 := (CA1.out.2 0 _ rfl).1
  have z1 := (CA1.out.2 1 _ rfl).1
  have z2 := (CA1.out.2 2 _ rfl).1
  have z3 := (CA1.out.2 3 _ rfl).1
  have z4 := (CA1.out.2 4 _ rfl).1
  have z5 := (CA1.out.2 5 _ rfl).1
  have z6 := (CA1.out.2 6 _ rfl).1
  have z7 := (CA1.out.2 7 _ rfl).1
  have z8 := (CA1.out.2 8 _ rfl).1
  have z9 := (CA1.out.2 9 _ rfl).1
  have z10 := (CA1.out.2 10 _ rfl).1
  go_wp2_with fail
  refine (rtext_to nm lt 0 tu mo k v d n c sv [] 10 _ (HP.out.stays (B1.out.alloc B1.out.size _)) (by omega) (by omega) HT).mono ?_
  rintro e w2 ⟨rfl, b2'⟩
  have B2 := Lib.hid (bstep (B1.out.alloc B1.out.size _) b2')
  have CA2 := Lib.hid (Cs.below (CA1.out.alloc _) b2')
  have CX2 := Lib.hid (Cs.below (Cs.new w1 [.string ⟨nm.toArray⟩, .int .i64 0, .int .i64 tu, .int .i64 mo, .int .i64 k, .int .i64 v, .int .i64 d, .int .i64 n, .int .i64 c, .int .i64 sv, .string ⟨lt.toArray⟩] 27) b2')
  clear b2' CA1 z0 z1 z2 z3 z4 z5 z6 z7 z8 z9 z10
  have z0 := (CA2.out.2 0 _ rfl).1
  have z1 := (CA2.out.2 1 _ rfl).1
  have z2 := (CA2.out.2 2 _ rfl).1
  have z3 := (CA2.out.2 3 _ rfl).1
  have z4 := (CA2.out.2 4 _ rfl).1
  have z5 := (CA2.out.2 5 _ rfl).1
  have z6 := (CA2.out.2 6 _ rfl).1
  have z7 := (CA2.out.2 7 _ rfl).1
  have z8 := (CA2.out.2 8 _ rfl).1
  have z9 := (CA2.out.2 9 _ rfl).1
  have z10 := (CA2.out.2 10 _ rfl).1
  go_wp2_with fail
  refine (rchk_to nm lt fr tu mo k v d n c sv 0 _ (by omega) (by omega) HE).mono ?_
  rintro e w3 ⟨rfl, b3'⟩
  have B3 := Lib.hid (bstep B2.out b3')
  have CX3 := Lib.hid (CX2.out.below b3')
  clear b3' CX2 CA2 z0 z1 z2 z3 z4 z5 z6 z7 z8 z9 z10
  have z0 := (CX3.out.2 0 _ rfl).1
  have z1 := (CX3.out.2 1 _ rfl).1
  have z2 := (CX3.out.2 2 _ rfl).1
  have z3 := (CX3.out.2 3 _ rfl).1
  have z4 := (CX3.out.2 4 _ rfl).1
  have z5 := (CX3.out.2 5 _ rfl).1
  have z6 := (CX3.out.2 6 _ rfl).1
  have z7 := (CX3.out.2 7 _ rfl).1
  have z8 := (CX3.out.2 8 _ rfl).1
  have z9 := (CX3.out.2 9 _ rfl).1
  have z10 := (CX3.out.2 10 _ rfl).1
  go_wp2_with fail
  refine (rchk_to nm lt 0 tu mo k v d n c sv 10 _ (by omega) (by omega) HX).mono ?_
  rintro e w4 ⟨rfl, b4'⟩
  have B4 := Lib.hid (bstep B3.out b4')
  clear b4'
  go_wp2_with fail
  refine (wakes9_any _ (HP.out.stays B4.out) (HM.out.stays B4.out)).mono ?_
  rintro e w9 ⟨rfl, b9'⟩
  go_wp2
  go_ret
  exact ⟨rfl, bstep B4.out b9'⟩
theorem why1 (nm lt : List UInt8) (fr mo k v d n c sv : Int) : chkB ⟨nm, fr, fr - 1, mo, k, v, d, n, c, sv, lt⟩ = false := by
  rw [chk_ref, decide_eq_false (show ¬ (fr ≤ fr - 1 ∧ fr - 1 ≤ 9999) by omega)]; simp
set_option maxHeartbeats 12800000 in
set_option maxRecDepth 100000 in
theorem rbt_1 (nm lt : List UInt8) (fr tu mo k v d n c sv how : Int) (w : World) (hp : Pow w) (hm : Wrd.MaxL w) (h0 : nm.length ≤ 200) (h1 : lt.length ≤ 200) (f1 : 1 ≤ fr) (f2 : fr ≤ 9999) (HR : Hid (chkB ⟨nm, fr, tu, mo, k, v, d, n, c, sv, lt⟩ = true)) (ek : (IntKind.u64.wrap how).tmod 9 = 1) :
    Calls Tryz.prog 5 #[.agg #[.string ⟨nm.toArray⟩, .int .i64 fr, .int .i64 tu, .int .i64 mo, .int .i64 k, .int .i64 v, .int .i64 d, .int .i64 n, .int .i64 c, .int .i64 sv, .string ⟨lt.toArray⟩], .int .i64 how] w fun e w' => e = .returned (.bool true) ∧ Below w.heap.size w w' := by
  have s0 : (⟨nm.toArray⟩ : ByteArray).size = nm.length := rfl
  have s1 : (⟨lt.toArray⟩ : ByteArray).size = lt.length := rfl
  have HP := Lib.hid hp
  have HM := Lib.hid hm
  clear hp hm
  have HE : Hid (ruE ⟨nm, fr, tu, mo, k, v, d, n, c, sv, lt⟩ = 0) := Lib.hid (by rw [ruE, if_pos HR.out])
  have HX : Hid (ruE ⟨nm, fr, fr - 1, mo, k, v, d, n, c, sv, lt⟩ = 10) := Lib.hid (by rw [ruE, if_neg (by rw [why1]; decide)])
  have HT : Hid (ruT ⟨nm, fr, fr - 1, mo, k, v, d, n, c, sv, lt⟩ = [] ∧ ruE ⟨nm, fr, fr - 1, mo, k, v, d, n, c, sv, lt⟩ = 10) := Lib.hid ⟨by rw [ruT, if_neg (by rw [why1]; decide)], HX.out⟩
  go_enter Tryz.func5, Tryz.ntmps5
  go_wp2_with fail
  refine (rrule_to nm lt fr tu mo k v d n c sv true _ (by omega) (by omega) HR).mono ?_
  rintro e w1 ⟨rfl, b1'⟩
  have B1 := Lib.hid (bstep (show Below w.heap.size w _ from (by repeat (first | with_reducible exact Below.refl _ _ | refine below_drewN ?_ _ | refine Below.drew ?_ | refine Below.alloc ?_ (by simp; try omega) _))) b1')
  have CA1 := Lib.hid (Cs.below (Cs.new w [.string ⟨nm.toArray⟩, .int .i64 fr, .int .i64 tu, .int .i64 mo, .int .i64 k, .int .i64 v, .int .i64 d, .int .i64 n, .int .i64 c, .int .i64 sv, .string ⟨lt.toArray⟩] 27) b1')
  clear b1'
  have z0 := (CA1.out.2 0 _ rfl).1
  have z1 := (CA1.out.2 1 _ rfl).1
  have z2 := (CA1.out.2 2 _ rfl).1
  have z3 := (CA1.out.2 3 _ rfl).1
  have z4 := (CA1.out.2 4 _ rfl).1
  have z5 := (CA1.out.2 5 _ rfl).1
  have z6 := (CA1.out.2 6 _ rfl).1
  have z7 := (CA1.out.2 7 _ rfl).1
  have z8 := (CA1.out.2 8 _ rfl).1
  have z9 := (CA1.out.2 9 _ rfl).1
  have z10 := (CA1.out.2 10 _ rfl).1
  have gz : w.heap.size < w1.heap.size := CA1.out.1
  have g1 : w.heap.size ≠ w1.heap.size := by omega
  have g2 : w1.heap.size ≠ w.heap.size := by omega
  go_wp2_with fail
  refine (rtext_to nm lt fr (fr - 1) mo k v d n c sv [] 10 _ (HP.out.stays (B1.out.alloc B1.out.size _)) (by omega) (by omega) HT).mono ?_
  rintro e w2 ⟨rfl, b2'⟩
  have B2 := Lib.hid (bstep (B1.out.alloc B1.out.size _) b2')
  have CA2 := Lib.hid (Cs.below (CA1.out.alloc _) b2')
  have CX2 := Lib.hid (Cs.below (Cs.new w1 [.string ⟨nm.toArray⟩, .int .i64 fr, .int .i64 (fr - 1), .int .i64 mo, .int .i64 k, .int .i64 v, .int .i64 d, .int .i64 n, .int .i64 c, .int .i64 sv, .string ⟨lt.toArray⟩] 27) b2')
  clear b2' CA1 z0 z1 z2 z3 z4 z5 z6 z7 z8 z9 z10
  have z0 := (CA2.out.2 0 _ rfl).1
  have z1 := (CA2.out.2 1 _ rfl).1
  have z2 := (CA2.out.2 2 _ rfl).1
  have z3 := (CA2.out.2 3 _ rfl).1
  have z4 := (CA2.out.2 4 _ rfl).1
  have z5 := (CA2.out.2 5 _ rfl).1
  have z6 := (CA2.out.2 6 _ rfl).1
  have z7 := (CA2.out.2 7 _ rfl).1
  have z8 := (CA2.out.2 8 _ rfl).1
  have z9 := (CA2.out.2 9 _ rfl).1
  have z10 := (CA2.out.2 10 _ rfl).1
  go_wp2_with fail
  refine (rchk_to nm lt fr tu mo k v d n c sv 0 _ (by omega) (by omega) HE).mono ?_
  rintro e w3 ⟨rfl, b3'⟩
  have B3 := Lib.hid (bstep B2.out b3')
  have CX3 := Lib.hid (CX2.out.below b3')
  clear b3' CX2 CA2 z0 z1 z2 z3 z4 z5 z6 z7 z8 z9 z10
  have z0 := (CX3.out.2 0 _ rfl).1
  have z1 := (CX3.out.2 1 _ rfl).1
  have z2 := (CX3.out.2 2 _ rfl).1
  have z3 := (CX3.out.2 3 _ rfl).1
  have z4 := (CX3.out.2 4 _ rfl).1
  have z5 := (CX3.out.2 5 _ rfl).1
  have z6 := (CX3.out.2 6 _ rfl).1
  have z7 := (CX3.out.2 7 _ rfl).1
  have z8 := (CX3.out.2 8 _ rfl).1
  have z9 := (CX3.out.2 9 _ rfl).1
  have z10 := (CX3.out.2 10 _ rfl).1
  go_wp2_with fail
  refine (rchk_to nm lt fr (fr - 1) mo k v d n c sv 10 _ (by omega) (by omega) HX).mono ?_
  rintro e w4 ⟨rfl, b4'⟩
  have B4 := Lib.hid (bstep B3.out b4')
  clear b4'
  go_wp2_with fail
  refine (wakes9_any _ (HP.out.stays B4.out) (HM.out.stays B4.out)).mono ?_
  rintro e w9 ⟨rfl, b9'⟩
  go_wp2
  go_ret
  exact ⟨rfl, bstep B4.out b9'⟩
theorem why2 (nm lt : List UInt8) (fr tu k v d n c sv : Int) : chkB ⟨nm, fr, tu, 13, k, v, d, n, c, sv, lt⟩ = false := by
  rw [chk_ref, decide_eq_false (show ¬ (1 ≤ (13 : Int) ∧ (13 : Int) ≤ 12) by decide)]; simp
set_option maxHeartbeats 12800000 in
set_option maxRecDepth 100000 in
theorem rbt_2 (nm lt : List UInt8) (fr tu mo k v d n c sv how : Int) (w : World) (hp : Pow w) (hm : Wrd.MaxL w) (h0 : nm.length ≤ 200) (h1 : lt.length ≤ 200) (HR : Hid (chkB ⟨nm, fr, tu, mo, k, v, d, n, c, sv, lt⟩ = true)) (ek : (IntKind.u64.wrap how).tmod 9 = 2) :
    Calls Tryz.prog 5 #[.agg #[.string ⟨nm.toArray⟩, .int .i64 fr, .int .i64 tu, .int .i64 mo, .int .i64 k, .int .i64 v, .int .i64 d, .int .i64 n, .int .i64 c, .int .i64 sv, .string ⟨lt.toArray⟩], .int .i64 how] w fun e w' => e = .returned (.bool true) ∧ Below w.heap.size w w' := by
  have s0 : (⟨nm.toArray⟩ : ByteArray).size = nm.length := rfl
  have s1 : (⟨lt.toArray⟩ : ByteArray).size = lt.length := rfl
  have HP := Lib.hid hp
  have HM := Lib.hid hm
  clear hp hm
  have HE : Hid (ruE ⟨nm, fr, tu, mo, k, v, d, n, c, sv, lt⟩ = 0) := Lib.hid (by rw [ruE, if_pos HR.out])
  have HX : Hid (ruE ⟨nm, fr, tu, 13, k, v, d, n, c, sv, lt⟩ = 10) := Lib.hid (by rw [ruE, if_neg (by rw [why2]; decide)])
  have HT : Hid (ruT ⟨nm, fr, tu, 13, k, v, d, n, c, sv, lt⟩ = [] ∧ ruE ⟨nm, fr, tu, 13, k, v, d, n, c, sv, lt⟩ = 10) := Lib.hid ⟨by rw [ruT, if_neg (by rw [why2]; decide)], HX.out⟩
  go_enter Tryz.func5, Tryz.ntmps5
  go_wp2_with fail
  refine (rrule_to nm lt fr tu mo k v d n c sv true _ (by omega) (by omega) HR).mono ?_
  rintro e w1 ⟨rfl, b1'⟩
  have B1 := Lib.hid (bstep (show Below w.heap.size w _ from (by repeat (first | with_reducible exact Below.refl _ _ | refine below_drewN ?_ _ | refine Below.drew ?_ | refine Below.alloc ?_ (by simp; try omega) _))) b1')
  have CA1 := Lib.hid (Cs.below (Cs.new w [.string ⟨nm.toArray⟩, .int .i64 fr, .int .i64 tu, .int .i64 mo, .int .i64 k, .int .i64 v, .int .i64 d, .int .i64 n, .int .i64 c, .int .i64 sv, .string ⟨lt.toArray⟩] 27) b1')
  clear b1'
  have z0 := (CA1.out.2 0 _ rfl).1
  have z1 := (CA1.out.2 1 _ rfl).1
  have z2 := (CA1.out.2 2 _ rfl).1
  have z3 := (CA1.out.2 3 _ rfl).1
  have z4 := (CA1.out.2 4 _ rfl).1
  have z5 := (CA1.out.2 5 _ rfl).1
  have z6 := (CA1.out.2 6 _ rfl).1
  have z7 := (CA1.out.2 7 _ rfl).1
  have z8 := (CA1.out.2 8 _ rfl).1
  have z9 := (CA1.out.2 9 _ rfl).1
  have z10 := (CA1.out.2 10 _ rfl).1
  go_wp2_with fail
  refine (rtext_to nm lt fr tu 13 k v d n c sv [] 10 _ (HP.out.stays (B1.out.alloc B1.out.size _)) (by omega) (by omega) HT).mono ?_
  rintro e w2 ⟨rfl, b2'⟩
  have B2 := Lib.hid (bstep (B1.out.alloc B1.out.size _) b2')
  have CA2 := Lib.hid (Cs.below (CA1.out.alloc _) b2')
  have CX2 := Lib.hid (Cs.below (Cs.new w1 [.string ⟨nm.toArray⟩, .int .i64 fr, .int .i64 tu, .int .i64 13, .int .i64 k, .int .i64 v, .int .i64 d, .int .i64 n, .int .i64 c, .int .i64 sv, .string ⟨lt.toArray⟩] 27) b2')
  clear b2' CA1 z0 z1 z2 z3 z4 z5 z6 z7 z8 z9 z10
  have z0 := (CA2.out.2 0 _ rfl).1
  have z1 := (CA2.out.2 1 _ rfl).1
  have z2 := (CA2.out.2 2 _ rfl).1
  have z3 := (CA2.out.2 3 _ rfl).1
  have z4 := (CA2.out.2 4 _ rfl).1
  have z5 := (CA2.out.2 5 _ rfl).1
  have z6 := (CA2.out.2 6 _ rfl).1
  have z7 := (CA2.out.2 7 _ rfl).1
  have z8 := (CA2.out.2 8 _ rfl).1
  have z9 := (CA2.out.2 9 _ rfl).1
  have z10 := (CA2.out.2 10 _ rfl).1
  go_wp2_with fail
  refine (rchk_to nm lt fr tu mo k v d n c sv 0 _ (by omega) (by omega) HE).mono ?_
  rintro e w3 ⟨rfl, b3'⟩
  have B3 := Lib.hid (bstep B2.out b3')
  have CX3 := Lib.hid (CX2.out.below b3')
  clear b3' CX2 CA2 z0 z1 z2 z3 z4 z5 z6 z7 z8 z9 z10
  have z0 := (CX3.out.2 0 _ rfl).1
  have z1 := (CX3.out.2 1 _ rfl).1
  have z2 := (CX3.out.2 2 _ rfl).1
  have z3 := (CX3.out.2 3 _ rfl).1
  have z4 := (CX3.out.2 4 _ rfl).1
  have z5 := (CX3.out.2 5 _ rfl).1
  have z6 := (CX3.out.2 6 _ rfl).1
  have z7 := (CX3.out.2 7 _ rfl).1
  have z8 := (CX3.out.2 8 _ rfl).1
  have z9 := (CX3.out.2 9 _ rfl).1
  have z10 := (CX3.out.2 10 _ rfl).1
  go_wp2_with fail
  refine (rchk_to nm lt fr tu 13 k v d n c sv 10 _ (by omega) (by omega) HX).mono ?_
  rintro e w4 ⟨rfl, b4'⟩
  have B4 := Lib.hid (bstep B3.out b4')
  clear b4'
  go_wp2_with fail
  refine (wakes9_any _ (HP.out.stays B4.out) (HM.out.stays B4.out)).mono ?_
  rintro e w9 ⟨rfl, b9'⟩
  go_wp2
  go_ret
  exact ⟨rfl, bstep B4.out b9'⟩
theorem why3 (nm lt : List UInt8) (fr tu n c sv : Int) : chkB ⟨nm, fr, tu, 4, 1, 0, 31, n, c, sv, lt⟩ = false := by
  rw [chk_ref, fitB, show (decide ((1 : Int) = 2) || decide ((31 : Int) ≤ Cal.mlen (if (1 : Int) = 1 ∧ fr < tu then 2001 else 2000) 4)) = false from by split <;> decide]; simp
set_option maxHeartbeats 12800000 in
set_option maxRecDepth 100000 in
theorem rbt_3 (nm lt : List UInt8) (fr tu mo k v d n c sv how : Int) (w : World) (hp : Pow w) (hm : Wrd.MaxL w) (h0 : nm.length ≤ 200) (h1 : lt.length ≤ 200) (HR : Hid (chkB ⟨nm, fr, tu, mo, k, v, d, n, c, sv, lt⟩ = true)) (ek : (IntKind.u64.wrap how).tmod 9 = 3) :
    Calls Tryz.prog 5 #[.agg #[.string ⟨nm.toArray⟩, .int .i64 fr, .int .i64 tu, .int .i64 mo, .int .i64 k, .int .i64 v, .int .i64 d, .int .i64 n, .int .i64 c, .int .i64 sv, .string ⟨lt.toArray⟩], .int .i64 how] w fun e w' => e = .returned (.bool true) ∧ Below w.heap.size w w' := by
  have s0 : (⟨nm.toArray⟩ : ByteArray).size = nm.length := rfl
  have s1 : (⟨lt.toArray⟩ : ByteArray).size = lt.length := rfl
  have HP := Lib.hid hp
  have HM := Lib.hid hm
  clear hp hm
  have HE : Hid (ruE ⟨nm, fr, tu, mo, k, v, d, n, c, sv, lt⟩ = 0) := Lib.hid (by rw [ruE, if_pos HR.out])
  have HX : Hid (ruE ⟨nm, fr, tu, 4, 1, 0, 31, n, c, sv, lt⟩ = 10) := Lib.hid (by rw [ruE, if_neg (by rw [why3]; decide)])
  have HT : Hid (ruT ⟨nm, fr, tu, 4, 1, 0, 31, n, c, sv, lt⟩ = [] ∧ ruE ⟨nm, fr, tu, 4, 1, 0, 31, n, c, sv, lt⟩ = 10) := Lib.hid ⟨by rw [ruT, if_neg (by rw [why3]; decide)], HX.out⟩
  go_enter Tryz.func5, Tryz.ntmps5
  go_wp2_with fail
  refine (rrule_to nm lt fr tu mo k v d n c sv true _ (by omega) (by omega) HR).mono ?_
  rintro e w1 ⟨rfl, b1'⟩
  have B1 := Lib.hid (bstep (show Below w.heap.size w _ from (by repeat (first | with_reducible exact Below.refl _ _ | refine below_drewN ?_ _ | refine Below.drew ?_ | refine Below.alloc ?_ (by simp; try omega) _))) b1')
  have CA1 := Lib.hid (Cs.below (Cs.new w [.string ⟨nm.toArray⟩, .int .i64 fr, .int .i64 tu, .int .i64 mo, .int .i64 k, .int .i64 v, .int .i64 d, .int .i64 n, .int .i64 c, .int .i64 sv, .string ⟨lt.toArray⟩] 27) b1')
  clear b1'
  have z0 := (CA1.out.2 0 _ rfl).1
  have z1 := (CA1.out.2 1 _ rfl).1
  have z2 := (CA1.out.2 2 _ rfl).1
  have z3 := (CA1.out.2 3 _ rfl).1
  have z4 := (CA1.out.2 4 _ rfl).1
  have z5 := (CA1.out.2 5 _ rfl).1
  have z6 := (CA1.out.2 6 _ rfl).1
  have z7 := (CA1.out.2 7 _ rfl).1
  have z8 := (CA1.out.2 8 _ rfl).1
  have z9 := (CA1.out.2 9 _ rfl).1
  have z10 := (CA1.out.2 10 _ rfl).1
  go_wp2_with fail
  refine (rtext_to nm lt fr tu 4 1 0 31 n c sv [] 10 _ (HP.out.stays (B1.out.alloc B1.out.size _)) (by omega) (by omega) HT).mono ?_
  rintro e w2 ⟨rfl, b2'⟩
  have B2 := Lib.hid (bstep (B1.out.alloc B1.out.size _) b2')
  have CA2 := Lib.hid (Cs.below (CA1.out.alloc _) b2')
  have CX2 := Lib.hid (Cs.below (Cs.new w1 [.string ⟨nm.toArray⟩, .int .i64 fr, .int .i64 tu, .int .i64 4, .int .i64 1, .int .i64 0, .int .i64 31, .int .i64 n, .int .i64 c, .int .i64 sv, .string ⟨lt.toArray⟩] 27) b2')
  clear b2' CA1 z0 z1 z2 z3 z4 z5 z6 z7 z8 z9 z10
  have z0 := (CA2.out.2 0 _ rfl).1
  have z1 := (CA2.out.2 1 _ rfl).1
  have z2 := (CA2.out.2 2 _ rfl).1
  have z3 := (CA2.out.2 3 _ rfl).1
  have z4 := (CA2.out.2 4 _ rfl).1
  have z5 := (CA2.out.2 5 _ rfl).1
  have z6 := (CA2.out.2 6 _ rfl).1
  have z7 := (CA2.out.2 7 _ rfl).1
  have z8 := (CA2.out.2 8 _ rfl).1
  have z9 := (CA2.out.2 9 _ rfl).1
  have z10 := (CA2.out.2 10 _ rfl).1
  go_wp2_with fail
  refine (rchk_to nm lt fr tu mo k v d n c sv 0 _ (by omega) (by omega) HE).mono ?_
  rintro e w3 ⟨rfl, b3'⟩
  have B3 := Lib.hid (bstep B2.out b3')
  have CX3 := Lib.hid (CX2.out.below b3')
  clear b3' CX2 CA2 z0 z1 z2 z3 z4 z5 z6 z7 z8 z9 z10
  have z0 := (CX3.out.2 0 _ rfl).1
  have z1 := (CX3.out.2 1 _ rfl).1
  have z2 := (CX3.out.2 2 _ rfl).1
  have z3 := (CX3.out.2 3 _ rfl).1
  have z4 := (CX3.out.2 4 _ rfl).1
  have z5 := (CX3.out.2 5 _ rfl).1
  have z6 := (CX3.out.2 6 _ rfl).1
  have z7 := (CX3.out.2 7 _ rfl).1
  have z8 := (CX3.out.2 8 _ rfl).1
  have z9 := (CX3.out.2 9 _ rfl).1
  have z10 := (CX3.out.2 10 _ rfl).1
  go_wp2_with fail
  refine (rchk_to nm lt fr tu 4 1 0 31 n c sv 10 _ (by omega) (by omega) HX).mono ?_
  rintro e w4 ⟨rfl, b4'⟩
  have B4 := Lib.hid (bstep B3.out b4')
  clear b4'
  go_wp2_with fail
  refine (wakes9_any _ (HP.out.stays B4.out) (HM.out.stays B4.out)).mono ?_
  rintro e w9 ⟨rfl, b9'⟩
  go_wp2
  go_ret
  exact ⟨rfl, bstep B4.out b9'⟩
theorem why4 (nm lt : List UInt8) (fr tu mo k v d n c : Int) : chkB ⟨nm, fr, tu, mo, k, v, d, n, c, 86400, lt⟩ = false := by
  rw [chk_ref, show bdayB 86400 = false from by decide]; simp
set_option maxHeartbeats 12800000 in
set_option maxRecDepth 100000 in
theorem rbt_4 (nm lt : List UInt8) (fr tu mo k v d n c sv how : Int) (w : World) (hp : Pow w) (hm : Wrd.MaxL w) (h0 : nm.length ≤ 200) (h1 : lt.length ≤ 200) (HR : Hid (chkB ⟨nm, fr, tu, mo, k, v, d, n, c, sv, lt⟩ = true)) (ek : (IntKind.u64.wrap how).tmod 9 = 4) :
    Calls Tryz.prog 5 #[.agg #[.string ⟨nm.toArray⟩, .int .i64 fr, .int .i64 tu, .int .i64 mo, .int .i64 k, .int .i64 v, .int .i64 d, .int .i64 n, .int .i64 c, .int .i64 sv, .string ⟨lt.toArray⟩], .int .i64 how] w fun e w' => e = .returned (.bool true) ∧ Below w.heap.size w w' := by
  have s0 : (⟨nm.toArray⟩ : ByteArray).size = nm.length := rfl
  have s1 : (⟨lt.toArray⟩ : ByteArray).size = lt.length := rfl
  have HP := Lib.hid hp
  have HM := Lib.hid hm
  clear hp hm
  have HE : Hid (ruE ⟨nm, fr, tu, mo, k, v, d, n, c, sv, lt⟩ = 0) := Lib.hid (by rw [ruE, if_pos HR.out])
  have HX : Hid (ruE ⟨nm, fr, tu, mo, k, v, d, n, c, 86400, lt⟩ = 10) := Lib.hid (by rw [ruE, if_neg (by rw [why4]; decide)])
  have HT : Hid (ruT ⟨nm, fr, tu, mo, k, v, d, n, c, 86400, lt⟩ = [] ∧ ruE ⟨nm, fr, tu, mo, k, v, d, n, c, 86400, lt⟩ = 10) := Lib.hid ⟨by rw [ruT, if_neg (by rw [why4]; decide)], HX.out⟩
  go_enter Tryz.func5, Tryz.ntmps5
  go_wp2_with fail
  refine (rrule_to nm lt fr tu mo k v d n c sv true _ (by omega) (by omega) HR).mono ?_
  rintro e w1 ⟨rfl, b1'⟩
  have B1 := Lib.hid (bstep (show Below w.heap.size w _ from (by repeat (first | with_reducible exact Below.refl _ _ | refine below_drewN ?_ _ | refine Below.drew ?_ | refine Below.alloc ?_ (by simp; try omega) _))) b1')
  have CA1 := Lib.hid (Cs.below (Cs.new w [.string ⟨nm.toArray⟩, .int .i64 fr, .int .i64 tu, .int .i64 mo, .int .i64 k, .int .i64 v, .int .i64 d, .int .i64 n, .int .i64 c, .int .i64 sv, .string ⟨lt.toArray⟩] 27) b1')
  clear b1'
  have z0 := (CA1.out.2 0 _ rfl).1
  have z1 := (CA1.out.2 1 _ rfl).1
  have z2 := (CA1.out.2 2 _ rfl).1
  have z3 := (CA1.out.2 3 _ rfl).1
  have z4 := (CA1.out.2 4 _ rfl).1
  have z5 := (CA1.out.2 5 _ rfl).1
  have z6 := (CA1.out.2 6 _ rfl).1
  have z7 := (CA1.out.2 7 _ rfl).1
  have z8 := (CA1.out.2 8 _ rfl).1
  have z9 := (CA1.out.2 9 _ rfl).1
  have z10 := (CA1.out.2 10 _ rfl).1
  go_wp2_with fail
  refine (rtext_to nm lt fr tu mo k v d n c 86400 [] 10 _ (HP.out.stays (B1.out.alloc B1.out.size _)) (by omega) (by omega) HT).mono ?_
  rintro e w2 ⟨rfl, b2'⟩
  have B2 := Lib.hid (bstep (B1.out.alloc B1.out.size _) b2')
  have CA2 := Lib.hid (Cs.below (CA1.out.alloc _) b2')
  have CX2 := Lib.hid (Cs.below (Cs.new w1 [.string ⟨nm.toArray⟩, .int .i64 fr, .int .i64 tu, .int .i64 mo, .int .i64 k, .int .i64 v, .int .i64 d, .int .i64 n, .int .i64 c, .int .i64 86400, .string ⟨lt.toArray⟩] 27) b2')
  clear b2' CA1 z0 z1 z2 z3 z4 z5 z6 z7 z8 z9 z10
  have z0 := (CA2.out.2 0 _ rfl).1
  have z1 := (CA2.out.2 1 _ rfl).1
  have z2 := (CA2.out.2 2 _ rfl).1
  have z3 := (CA2.out.2 3 _ rfl).1
  have z4 := (CA2.out.2 4 _ rfl).1
  have z5 := (CA2.out.2 5 _ rfl).1
  have z6 := (CA2.out.2 6 _ rfl).1
  have z7 := (CA2.out.2 7 _ rfl).1
  have z8 := (CA2.out.2 8 _ rfl).1
  have z9 := (CA2.out.2 9 _ rfl).1
  have z10 := (CA2.out.2 10 _ rfl).1
  go_wp2_with fail
  refine (rchk_to nm lt fr tu mo k v d n c sv 0 _ (by omega) (by omega) HE).mono ?_
  rintro e w3 ⟨rfl, b3'⟩
  have B3 := Lib.hid (bstep B2.out b3')
  have CX3 := Lib.hid (CX2.out.below b3')
  clear b3' CX2 CA2 z0 z1 z2 z3 z4 z5 z6 z7 z8 z9 z10
  have z0 := (CX3.out.2 0 _ rfl).1
  have z1 := (CX3.out.2 1 _ rfl).1
  have z2 := (CX3.out.2 2 _ rfl).1
  have z3 := (CX3.out.2 3 _ rfl).1
  have z4 := (CX3.out.2 4 _ rfl).1
  have z5 := (CX3.out.2 5 _ rfl).1
  have z6 := (CX3.out.2 6 _ rfl).1
  have z7 := (CX3.out.2 7 _ rfl).1
  have z8 := (CX3.out.2 8 _ rfl).1
  have z9 := (CX3.out.2 9 _ rfl).1
  have z10 := (CX3.out.2 10 _ rfl).1
  go_wp2_with fail
  refine (rchk_to nm lt fr tu mo k v d n c 86400 10 _ (by omega) (by omega) HX).mono ?_
  rintro e w4 ⟨rfl, b4'⟩
  have B4 := Lib.hid (bstep B3.out b4')
  clear b4'
  go_wp2_with fail
  refine (wakes9_any _ (HP.out.stays B4.out) (HM.out.stays B4.out)).mono ?_
  rintro e w9 ⟨rfl, b9'⟩
  go_wp2
  go_ret
  exact ⟨rfl, bstep B4.out b9'⟩
theorem why5 (nm lt : List UInt8) (fr tu mo k v d n c sv : Int) : chkB ⟨49 :: nm, fr, tu, mo, k, v, d, n, c, sv, lt⟩ = false := by
  rw [chk_ref, show nameB (49 :: nm) = false from by rw [nameB, show hdBad (49 :: nm) = true from rfl]; simp]; simp
set_option maxHeartbeats 12800000 in
set_option maxRecDepth 100000 in
theorem rbt_5 (nm lt : List UInt8) (fr tu mo k v d n c sv how : Int) (w : World) (hp : Pow w) (hm : Wrd.MaxL w) (h0 : nm.length ≤ 200) (h1 : lt.length ≤ 200) (HR : Hid (chkB ⟨nm, fr, tu, mo, k, v, d, n, c, sv, lt⟩ = true)) (ek : (IntKind.u64.wrap how).tmod 9 = 5) :
    Calls Tryz.prog 5 #[.agg #[.string ⟨nm.toArray⟩, .int .i64 fr, .int .i64 tu, .int .i64 mo, .int .i64 k, .int .i64 v, .int .i64 d, .int .i64 n, .int .i64 c, .int .i64 sv, .string ⟨lt.toArray⟩], .int .i64 how] w fun e w' => e = .returned (.bool true) ∧ Below w.heap.size w w' := by
  have s0 : (⟨nm.toArray⟩ : ByteArray).size = nm.length := rfl
  have s1 : (⟨lt.toArray⟩ : ByteArray).size = lt.length := rfl
  have HP := Lib.hid hp
  have HM := Lib.hid hm
  clear hp hm
  have HE : Hid (ruE ⟨nm, fr, tu, mo, k, v, d, n, c, sv, lt⟩ = 0) := Lib.hid (by rw [ruE, if_pos HR.out])
  have HX : Hid (ruE ⟨49 :: nm, fr, tu, mo, k, v, d, n, c, sv, lt⟩ = 10) := Lib.hid (by rw [ruE, if_neg (by rw [why5]; decide)])
  have HT : Hid (ruT ⟨49 :: nm, fr, tu, mo, k, v, d, n, c, sv, lt⟩ = [] ∧ ruE ⟨49 :: nm, fr, tu, mo, k, v, d, n, c, sv, lt⟩ = 10) := Lib.hid ⟨by rw [ruT, if_neg (by rw [why5]; decide)], HX.out⟩
  have cE : (⟨#[49]⟩ ++ ⟨nm.toArray⟩ : ByteArray) = ⟨(49 :: nm).toArray⟩ := ByteArray.ext (by apply Array.toList_inj.1; simp)
  go_enter Tryz.func5, Tryz.ntmps5
  go_wp2_with fail
  refine (rrule_to nm lt fr tu mo k v d n c sv true _ (by omega) (by omega) HR).mono ?_
  rintro e w1 ⟨rfl, b1'⟩
  have B1 := Lib.hid (bstep (show Below w.heap.size w _ from (by repeat (first | with_reducible exact Below.refl _ _ | refine below_drewN ?_ _ | refine Below.drew ?_ | refine Below.alloc ?_ (by simp; try omega) _))) b1')
  have CA1 := Lib.hid (Cs.below (Cs.new w [.string ⟨nm.toArray⟩, .int .i64 fr, .int .i64 tu, .int .i64 mo, .int .i64 k, .int .i64 v, .int .i64 d, .int .i64 n, .int .i64 c, .int .i64 sv, .string ⟨lt.toArray⟩] 27) b1')
  clear b1'
  have z0 := (CA1.out.2 0 _ rfl).1
  have z1 := (CA1.out.2 1 _ rfl).1
  have z2 := (CA1.out.2 2 _ rfl).1
  have z3 := (CA1.out.2 3 _ rfl).1
  have z4 := (CA1.out.2 4 _ rfl).1
  have z5 := (CA1.out.2 5 _ rfl).1
  have z6 := (CA1.out.2 6 _ rfl).1
  have z7 := (CA1.out.2 7 _ rfl).1
  have z8 := (CA1.out.2 8 _ rfl).1
  have z9 := (CA1.out.2 9 _ rfl).1
  have z10 := (CA1.out.2 10 _ rfl).1
  have gz : w.heap.size < w1.heap.size := CA1.out.1
  have g1 : w.heap.size ≠ w1.heap.size := by omega
  have g2 : w1.heap.size ≠ w.heap.size := by omega
  go_wp2_with fail
  refine (rtext_to (49 :: nm) lt fr tu mo k v d n c sv [] 10 _ (HP.out.stays (B1.out.alloc B1.out.size _)) (by simp; omega) (by omega) HT).mono ?_
  rintro e w2 ⟨rfl, b2'⟩
  have B2 := Lib.hid (bstep (B1.out.alloc B1.out.size _) b2')
  have CA2 := Lib.hid (Cs.below (CA1.out.alloc _) b2')
  have CX2 := Lib.hid (Cs.below (Cs.new w1 [.string ⟨(49 :: nm : List UInt8).toArray⟩, .int .i64 fr, .int .i64 tu, .int .i64 mo, .int .i64 k, .int .i64 v, .int .i64 d, .int .i64 n, .int .i64 c, .int .i64 sv, .string ⟨lt.toArray⟩] 27) b2')
  clear b2' CA1 z0 z1 z2 z3 z4 z5 z6 z7 z8 z9 z10
  have z0 := (CA2.out.2 0 _ rfl).1
  have z1 := (CA2.out.2 1 _ rfl).1
  have z2 := (CA2.out.2 2 _ rfl).1
  have z3 := (CA2.out.2 3 _ rfl).1
  have z4 := (CA2.out.2 4 _ rfl).1
  have z5 := (CA2.out.2 5 _ rfl).1
  have z6 := (CA2.out.2 6 _ rfl).1
  have z7 := (CA2.out.2 7 _ rfl).1
  have z8 := (CA2.out.2 8 _ rfl).1
  have z9 := (CA2.out.2 9 _ rfl).1
  have z10 := (CA2.out.2 10 _ rfl).1
  go_wp2_with fail
  refine (rchk_to nm lt fr tu mo k v d n c sv 0 _ (by omega) (by omega) HE).mono ?_
  rintro e w3 ⟨rfl, b3'⟩
  have B3 := Lib.hid (bstep B2.out b3')
  have CX3 := Lib.hid (CX2.out.below b3')
  clear b3' CX2 CA2 z0 z1 z2 z3 z4 z5 z6 z7 z8 z9 z10
  have z0 := (CX3.out.2 0 _ rfl).1
  have z1 := (CX3.out.2 1 _ rfl).1
  have z2 := (CX3.out.2 2 _ rfl).1
  have z3 := (CX3.out.2 3 _ rfl).1
  have z4 := (CX3.out.2 4 _ rfl).1
  have z5 := (CX3.out.2 5 _ rfl).1
  have z6 := (CX3.out.2 6 _ rfl).1
  have z7 := (CX3.out.2 7 _ rfl).1
  have z8 := (CX3.out.2 8 _ rfl).1
  have z9 := (CX3.out.2 9 _ rfl).1
  have z10 := (CX3.out.2 10 _ rfl).1
  go_wp2_with fail
  refine (rchk_to (49 :: nm) lt fr tu mo k v d n c sv 10 _ (by simp; omega) (by omega) HX).mono ?_
  rintro e w4 ⟨rfl, b4'⟩
  have B4 := Lib.hid (bstep B3.out b4')
  clear b4'
  go_wp2_with fail
  refine (wakes9_any _ (HP.out.stays B4.out) (HM.out.stays B4.out)).mono ?_
  rintro e w9 ⟨rfl, b9'⟩
  go_wp2
  go_ret
  exact ⟨rfl, bstep B4.out b9'⟩
theorem why6 (nm : List UInt8) (fr tu mo k v d n c sv : Int) : chkB ⟨nm, fr, tu, mo, k, v, d, n, c, sv, [45]⟩ = false := by
  rw [chk_ref, show Fm.letB [45] = false from by decide +kernel]; simp
set_option maxHeartbeats 12800000 in
set_option maxRecDepth 100000 in
theorem rbt_6 (nm lt : List UInt8) (fr tu mo k v d n c sv how : Int) (w : World) (hp : Pow w) (hm : Wrd.MaxL w) (h0 : nm.length ≤ 200) (h1 : lt.length ≤ 200) (HR : Hid (chkB ⟨nm, fr, tu, mo, k, v, d, n, c, sv, lt⟩ = true)) (ek : (IntKind.u64.wrap how).tmod 9 = 6) :
    Calls Tryz.prog 5 #[.agg #[.string ⟨nm.toArray⟩, .int .i64 fr, .int .i64 tu, .int .i64 mo, .int .i64 k, .int .i64 v, .int .i64 d, .int .i64 n, .int .i64 c, .int .i64 sv, .string ⟨lt.toArray⟩], .int .i64 how] w fun e w' => e = .returned (.bool true) ∧ Below w.heap.size w w' := by
  have s0 : (⟨nm.toArray⟩ : ByteArray).size = nm.length := rfl
  have s1 : (⟨lt.toArray⟩ : ByteArray).size = lt.length := rfl
  have HP := Lib.hid hp
  have HM := Lib.hid hm
  clear hp hm
  have HE : Hid (ruE ⟨nm, fr, tu, mo, k, v, d, n, c, sv, lt⟩ = 0) := Lib.hid (by rw [ruE, if_pos HR.out])
  have HX : Hid (ruE ⟨nm, fr, tu, mo, k, v, d, n, c, sv, [45]⟩ = 10) := Lib.hid (by rw [ruE, if_neg (by rw [why6]; decide)])
  have HT : Hid (ruT ⟨nm, fr, tu, mo, k, v, d, n, c, sv, [45]⟩ = [] ∧ ruE ⟨nm, fr, tu, mo, k, v, d, n, c, sv, [45]⟩ = 10) := Lib.hid ⟨by rw [ruT, if_neg (by rw [why6]; decide)], HX.out⟩
  go_enter Tryz.func5, Tryz.ntmps5
  go_wp2_with fail
  refine (rrule_to nm lt fr tu mo k v d n c sv true _ (by omega) (by omega) HR).mono ?_
  rintro e w1 ⟨rfl, b1'⟩
  have B1 := Lib.hid (bstep (show Below w.heap.size w _ from (by repeat (first | with_reducible exact Below.refl _ _ | refine below_drewN ?_ _ | refine Below.drew ?_ | refine Below.alloc ?_ (by simp; try omega) _))) b1')
  have CA1 := Lib.hid (Cs.below (Cs.new w [.string ⟨nm.toArray⟩, .int .i64 fr, .int .i64 tu, .int .i64 mo, .int .i64 k, .int .i64 v, .int .i64 d, .int .i64 n, .int .i64 c, .int .i64 sv, .string ⟨lt.toArray⟩] 27) b1')
  clear b1'
  have z0 := (CA1.out.2 0 _ rfl).1
  have z1 := (CA1.out.2 1 _ rfl).1
  have z2 := (CA1.out.2 2 _ rfl).1
  have z3 := (CA1.out.2 3 _ rfl).1
  have z4 := (CA1.out.2 4 _ rfl).1
  have z5 := (CA1.out.2 5 _ rfl).1
  have z6 := (CA1.out.2 6 _ rfl).1
  have z7 := (CA1.out.2 7 _ rfl).1
  have z8 := (CA1.out.2 8 _ rfl).1
  have z9 := (CA1.out.2 9 _ rfl).1
  have z10 := (CA1.out.2 10 _ rfl).1
  go_wp2_with fail
  refine (rtext_to nm ([45]) fr tu mo k v d n c sv [] 10 _ (HP.out.stays (B1.out.alloc B1.out.size _)) (by omega) (by decide) HT).mono ?_
  rintro e w2 ⟨rfl, b2'⟩
  have B2 := Lib.hid (bstep (B1.out.alloc B1.out.size _) b2')
  have CA2 := Lib.hid (Cs.below (CA1.out.alloc _) b2')
  have CX2 := Lib.hid (Cs.below (Cs.new w1 [.string ⟨nm.toArray⟩, .int .i64 fr, .int .i64 tu, .int .i64 mo, .int .i64 k, .int .i64 v, .int .i64 d, .int .i64 n, .int .i64 c, .int .i64 sv, .string ⟨([45] : List UInt8).toArray⟩] 27) b2')
  clear b2' CA1 z0 z1 z2 z3 z4 z5 z6 z7 z8 z9 z10
  have z0 := (CA2.out.2 0 _ rfl).1
  have z1 := (CA2.out.2 1 _ rfl).1
  have z2 := (CA2.out.2 2 _ rfl).1
  have z3 := (CA2.out.2 3 _ rfl).1
  have z4 := (CA2.out.2 4 _ rfl).1
  have z5 := (CA2.out.2 5 _ rfl).1
  have z6 := (CA2.out.2 6 _ rfl).1
  have z7 := (CA2.out.2 7 _ rfl).1
  have z8 := (CA2.out.2 8 _ rfl).1
  have z9 := (CA2.out.2 9 _ rfl).1
  have z10 := (CA2.out.2 10 _ rfl).1
  go_wp2_with fail
  refine (rchk_to nm lt fr tu mo k v d n c sv 0 _ (by omega) (by omega) HE).mono ?_
  rintro e w3 ⟨rfl, b3'⟩
  have B3 := Lib.hid (bstep B2.out b3')
  have CX3 := Lib.hid (CX2.out.below b3')
  clear b3' CX2 CA2 z0 z1 z2 z3 z4 z5 z6 z7 z8 z9 z10
  have z0 := (CX3.out.2 0 _ rfl).1
  have z1 := (CX3.out.2 1 _ rfl).1
  have z2 := (CX3.out.2 2 _ rfl).1
  have z3 := (CX3.out.2 3 _ rfl).1
  have z4 := (CX3.out.2 4 _ rfl).1
  have z5 := (CX3.out.2 5 _ rfl).1
  have z6 := (CX3.out.2 6 _ rfl).1
  have z7 := (CX3.out.2 7 _ rfl).1
  have z8 := (CX3.out.2 8 _ rfl).1
  have z9 := (CX3.out.2 9 _ rfl).1
  have z10 := (CX3.out.2 10 _ rfl).1
  go_wp2_with fail
  refine (rchk_to nm ([45]) fr tu mo k v d n c sv 10 _ (by omega) (by decide) HX).mono ?_
  rintro e w4 ⟨rfl, b4'⟩
  have B4 := Lib.hid (bstep B3.out b4')
  clear b4'
  go_wp2_with fail
  refine (wakes9_any _ (HP.out.stays B4.out) (HM.out.stays B4.out)).mono ?_
  rintro e w9 ⟨rfl, b9'⟩
  go_wp2
  go_ret
  exact ⟨rfl, bstep B4.out b9'⟩
theorem why7 (nm lt : List UInt8) (fr tu mo k v d c sv : Int) : chkB ⟨nm, fr, tu, mo, k, v, d, 345601, c, sv, lt⟩ = false := by
  rw [chk_ref, show Atf.atOk 345601 c = false from by rw [Atf.atOk, show Atf.inS 345601 = false from by decide]; rfl]; simp
set_option maxHeartbeats 12800000 in
set_option maxRecDepth 100000 in
theorem rbt_7 (nm lt : List UInt8) (fr tu mo k v d n c sv how : Int) (w : World) (hp : Pow w) (hm : Wrd.MaxL w) (h0 : nm.length ≤ 200) (h1 : lt.length ≤ 200) (HR : Hid (chkB ⟨nm, fr, tu, mo, k, v, d, n, c, sv, lt⟩ = true)) (ek : (IntKind.u64.wrap how).tmod 9 = 7) :
    Calls Tryz.prog 5 #[.agg #[.string ⟨nm.toArray⟩, .int .i64 fr, .int .i64 tu, .int .i64 mo, .int .i64 k, .int .i64 v, .int .i64 d, .int .i64 n, .int .i64 c, .int .i64 sv, .string ⟨lt.toArray⟩], .int .i64 how] w fun e w' => e = .returned (.bool true) ∧ Below w.heap.size w w' := by
  have s0 : (⟨nm.toArray⟩ : ByteArray).size = nm.length := rfl
  have s1 : (⟨lt.toArray⟩ : ByteArray).size = lt.length := rfl
  have HP := Lib.hid hp
  have HM := Lib.hid hm
  clear hp hm
  have HE : Hid (ruE ⟨nm, fr, tu, mo, k, v, d, n, c, sv, lt⟩ = 0) := Lib.hid (by rw [ruE, if_pos HR.out])
  have HX : Hid (ruE ⟨nm, fr, tu, mo, k, v, d, 345601, c, sv, lt⟩ = 10) := Lib.hid (by rw [ruE, if_neg (by rw [why7]; decide)])
  have HT : Hid (ruT ⟨nm, fr, tu, mo, k, v, d, 345601, c, sv, lt⟩ = [] ∧ ruE ⟨nm, fr, tu, mo, k, v, d, 345601, c, sv, lt⟩ = 10) := Lib.hid ⟨by rw [ruT, if_neg (by rw [why7]; decide)], HX.out⟩
  go_enter Tryz.func5, Tryz.ntmps5
  go_wp2_with fail
  refine (rrule_to nm lt fr tu mo k v d n c sv true _ (by omega) (by omega) HR).mono ?_
  rintro e w1 ⟨rfl, b1'⟩
  have B1 := Lib.hid (bstep (show Below w.heap.size w _ from (by repeat (first | with_reducible exact Below.refl _ _ | refine below_drewN ?_ _ | refine Below.drew ?_ | refine Below.alloc ?_ (by simp; try omega) _))) b1')
  have CA1 := Lib.hid (Cs.below (Cs.new w [.string ⟨nm.toArray⟩, .int .i64 fr, .int .i64 tu, .int .i64 mo, .int .i64 k, .int .i64 v, .int .i64 d, .int .i64 n, .int .i64 c, .int .i64 sv, .string ⟨lt.toArray⟩] 27) b1')
  clear b1'
  have z0 := (CA1.out.2 0 _ rfl).1
  have z1 := (CA1.out.2 1 _ rfl).1
  have z2 := (CA1.out.2 2 _ rfl).1
  have z3 := (CA1.out.2 3 _ rfl).1
  have z4 := (CA1.out.2 4 _ rfl).1
  have z5 := (CA1.out.2 5 _ rfl).1
  have z6 := (CA1.out.2 6 _ rfl).1
  have z7 := (CA1.out.2 7 _ rfl).1
  have z8 := (CA1.out.2 8 _ rfl).1
  have z9 := (CA1.out.2 9 _ rfl).1
  have z10 := (CA1.out.2 10 _ rfl).1
  go_wp2_with fail
  refine (rtext_to nm lt fr tu mo k v d 345601 c sv [] 10 _ (HP.out.stays (B1.out.alloc B1.out.size _)) (by omega) (by omega) HT).mono ?_
  rintro e w2 ⟨rfl, b2'⟩
  have B2 := Lib.hid (bstep (B1.out.alloc B1.out.size _) b2')
  have CA2 := Lib.hid (Cs.below (CA1.out.alloc _) b2')
  have CX2 := Lib.hid (Cs.below (Cs.new w1 [.string ⟨nm.toArray⟩, .int .i64 fr, .int .i64 tu, .int .i64 mo, .int .i64 k, .int .i64 v, .int .i64 d, .int .i64 345601, .int .i64 c, .int .i64 sv, .string ⟨lt.toArray⟩] 27) b2')
  clear b2' CA1 z0 z1 z2 z3 z4 z5 z6 z7 z8 z9 z10
  have z0 := (CA2.out.2 0 _ rfl).1
  have z1 := (CA2.out.2 1 _ rfl).1
  have z2 := (CA2.out.2 2 _ rfl).1
  have z3 := (CA2.out.2 3 _ rfl).1
  have z4 := (CA2.out.2 4 _ rfl).1
  have z5 := (CA2.out.2 5 _ rfl).1
  have z6 := (CA2.out.2 6 _ rfl).1
  have z7 := (CA2.out.2 7 _ rfl).1
  have z8 := (CA2.out.2 8 _ rfl).1
  have z9 := (CA2.out.2 9 _ rfl).1
  have z10 := (CA2.out.2 10 _ rfl).1
  go_wp2_with fail
  refine (rchk_to nm lt fr tu mo k v d n c sv 0 _ (by omega) (by omega) HE).mono ?_
  rintro e w3 ⟨rfl, b3'⟩
  have B3 := Lib.hid (bstep B2.out b3')
  have CX3 := Lib.hid (CX2.out.below b3')
  clear b3' CX2 CA2 z0 z1 z2 z3 z4 z5 z6 z7 z8 z9 z10
  have z0 := (CX3.out.2 0 _ rfl).1
  have z1 := (CX3.out.2 1 _ rfl).1
  have z2 := (CX3.out.2 2 _ rfl).1
  have z3 := (CX3.out.2 3 _ rfl).1
  have z4 := (CX3.out.2 4 _ rfl).1
  have z5 := (CX3.out.2 5 _ rfl).1
  have z6 := (CX3.out.2 6 _ rfl).1
  have z7 := (CX3.out.2 7 _ rfl).1
  have z8 := (CX3.out.2 8 _ rfl).1
  have z9 := (CX3.out.2 9 _ rfl).1
  have z10 := (CX3.out.2 10 _ rfl).1
  go_wp2_with fail
  refine (rchk_to nm lt fr tu mo k v d 345601 c sv 10 _ (by omega) (by omega) HX).mono ?_
  rintro e w4 ⟨rfl, b4'⟩
  have B4 := Lib.hid (bstep B3.out b4')
  clear b4'
  go_wp2_with fail
  refine (wakes9_any _ (HP.out.stays B4.out) (HM.out.stays B4.out)).mono ?_
  rintro e w9 ⟨rfl, b9'⟩
  go_wp2
  go_ret
  exact ⟨rfl, bstep B4.out b9'⟩
theorem why8 (nm lt : List UInt8) (n c sv : Int) : chkB ⟨nm, 2000, 2004, 2, 1, 0, 29, n, c, sv, lt⟩ = false := by
  rw [chk_ref, show fitB 2000 2004 2 1 29 = false from by decide +kernel]; simp
set_option maxHeartbeats 12800000 in
set_option maxRecDepth 100000 in
theorem rbt_8 (nm lt : List UInt8) (fr tu mo k v d n c sv how : Int) (w : World) (hp : Pow w) (hm : Wrd.MaxL w) (h0 : nm.length ≤ 200) (h1 : lt.length ≤ 200) (HR : Hid (chkB ⟨nm, fr, tu, mo, k, v, d, n, c, sv, lt⟩ = true)) (ek : (IntKind.u64.wrap how).tmod 9 = 8) :
    Calls Tryz.prog 5 #[.agg #[.string ⟨nm.toArray⟩, .int .i64 fr, .int .i64 tu, .int .i64 mo, .int .i64 k, .int .i64 v, .int .i64 d, .int .i64 n, .int .i64 c, .int .i64 sv, .string ⟨lt.toArray⟩], .int .i64 how] w fun e w' => e = .returned (.bool true) ∧ Below w.heap.size w w' := by
  have s0 : (⟨nm.toArray⟩ : ByteArray).size = nm.length := rfl
  have s1 : (⟨lt.toArray⟩ : ByteArray).size = lt.length := rfl
  have HP := Lib.hid hp
  have HM := Lib.hid hm
  clear hp hm
  have HE : Hid (ruE ⟨nm, fr, tu, mo, k, v, d, n, c, sv, lt⟩ = 0) := Lib.hid (by rw [ruE, if_pos HR.out])
  have HX : Hid (ruE ⟨nm, 2000, 2004, 2, 1, 0, 29, n, c, sv, lt⟩ = 10) := Lib.hid (by rw [ruE, if_neg (by rw [why8]; decide)])
  have HT : Hid (ruT ⟨nm, 2000, 2004, 2, 1, 0, 29, n, c, sv, lt⟩ = [] ∧ ruE ⟨nm, 2000, 2004, 2, 1, 0, 29, n, c, sv, lt⟩ = 10) := Lib.hid ⟨by rw [ruT, if_neg (by rw [why8]; decide)], HX.out⟩
  go_enter Tryz.func5, Tryz.ntmps5
  go_wp2_with fail
  refine (rrule_to nm lt fr tu mo k v d n c sv true _ (by omega) (by omega) HR).mono ?_
  rintro e w1 ⟨rfl, b1'⟩
  have B1 := Lib.hid (bstep (show Below w.heap.size w _ from (by repeat (first | with_reducible exact Below.refl _ _ | refine below_drewN ?_ _ | refine Below.drew ?_ | refine Below.alloc ?_ (by simp; try omega) _))) b1')
  have CA1 := Lib.hid (Cs.below (Cs.new w [.string ⟨nm.toArray⟩, .int .i64 fr, .int .i64 tu, .int .i64 mo, .int .i64 k, .int .i64 v, .int .i64 d, .int .i64 n, .int .i64 c, .int .i64 sv, .string ⟨lt.toArray⟩] 27) b1')
  clear b1'
  have z0 := (CA1.out.2 0 _ rfl).1
  have z1 := (CA1.out.2 1 _ rfl).1
  have z2 := (CA1.out.2 2 _ rfl).1
  have z3 := (CA1.out.2 3 _ rfl).1
  have z4 := (CA1.out.2 4 _ rfl).1
  have z5 := (CA1.out.2 5 _ rfl).1
  have z6 := (CA1.out.2 6 _ rfl).1
  have z7 := (CA1.out.2 7 _ rfl).1
  have z8 := (CA1.out.2 8 _ rfl).1
  have z9 := (CA1.out.2 9 _ rfl).1
  have z10 := (CA1.out.2 10 _ rfl).1
  go_wp2_with fail
  refine (rtext_to nm lt 2000 2004 2 1 0 29 n c sv [] 10 _ (HP.out.stays (B1.out.alloc B1.out.size _)) (by omega) (by omega) HT).mono ?_
  rintro e w2 ⟨rfl, b2'⟩
  have B2 := Lib.hid (bstep (B1.out.alloc B1.out.size _) b2')
  have CA2 := Lib.hid (Cs.below (CA1.out.alloc _) b2')
  have CX2 := Lib.hid (Cs.below (Cs.new w1 [.string ⟨nm.toArray⟩, .int .i64 2000, .int .i64 2004, .int .i64 2, .int .i64 1, .int .i64 0, .int .i64 29, .int .i64 n, .int .i64 c, .int .i64 sv, .string ⟨lt.toArray⟩] 27) b2')
  clear b2' CA1 z0 z1 z2 z3 z4 z5 z6 z7 z8 z9 z10
  have z0 := (CA2.out.2 0 _ rfl).1
  have z1 := (CA2.out.2 1 _ rfl).1
  have z2 := (CA2.out.2 2 _ rfl).1
  have z3 := (CA2.out.2 3 _ rfl).1
  have z4 := (CA2.out.2 4 _ rfl).1
  have z5 := (CA2.out.2 5 _ rfl).1
  have z6 := (CA2.out.2 6 _ rfl).1
  have z7 := (CA2.out.2 7 _ rfl).1
  have z8 := (CA2.out.2 8 _ rfl).1
  have z9 := (CA2.out.2 9 _ rfl).1
  have z10 := (CA2.out.2 10 _ rfl).1
  go_wp2_with fail
  refine (rchk_to nm lt fr tu mo k v d n c sv 0 _ (by omega) (by omega) HE).mono ?_
  rintro e w3 ⟨rfl, b3'⟩
  have B3 := Lib.hid (bstep B2.out b3')
  have CX3 := Lib.hid (CX2.out.below b3')
  clear b3' CX2 CA2 z0 z1 z2 z3 z4 z5 z6 z7 z8 z9 z10
  have z0 := (CX3.out.2 0 _ rfl).1
  have z1 := (CX3.out.2 1 _ rfl).1
  have z2 := (CX3.out.2 2 _ rfl).1
  have z3 := (CX3.out.2 3 _ rfl).1
  have z4 := (CX3.out.2 4 _ rfl).1
  have z5 := (CX3.out.2 5 _ rfl).1
  have z6 := (CX3.out.2 6 _ rfl).1
  have z7 := (CX3.out.2 7 _ rfl).1
  have z8 := (CX3.out.2 8 _ rfl).1
  have z9 := (CX3.out.2 9 _ rfl).1
  have z10 := (CX3.out.2 10 _ rfl).1
  go_wp2_with fail
  refine (rchk_to nm lt 2000 2004 2 1 0 29 n c sv 10 _ (by omega) (by omega) HX).mono ?_
  rintro e w4 ⟨rfl, b4'⟩
  have B4 := Lib.hid (bstep B3.out b4')
  clear b4'
  go_wp2_with fail
  refine (wakes9_any _ (HP.out.stays B4.out) (HM.out.stays B4.out)).mono ?_
  rintro e w9 ⟨rfl, b9'⟩
  go_wp2
  go_ret
  exact ⟨rfl, bstep B4.out b9'⟩
theorem rbent_any (nm lt : List UInt8) (fr tu mo k v d n c sv how : Int) (w : World) (hp : Pow w) (hm : Wrd.MaxL w) (m0 : nm.length ≤ maxLen) (m1 : lt.length ≤ maxLen) :
    Calls Tryz.prog 5 #[.agg #[.string ⟨nm.toArray⟩, .int .i64 fr, .int .i64 tu, .int .i64 mo, .int .i64 k, .int .i64 v, .int .i64 d, .int .i64 n, .int .i64 c, .int .i64 sv, .string ⟨lt.toArray⟩], .int .i64 how] w fun e w' => e = .returned (.bool true) ∧ Below w.heap.size w w' := by
  by_cases h0 : 200 < nm.length
  · exact rbt_nm nm lt fr tu mo k v d n c sv how w m0 h0
  by_cases h1 : 200 < lt.length
  · exact rbt_lt nm lt fr tu mo k v d n c sv how w m1 (by omega) h1
  cases hc : chkB ⟨nm, fr, tu, mo, k, v, d, n, c, sv, lt⟩ with
  | false => exact rbt_no nm lt fr tu mo k v d n c sv how w (by omega) (by omega) (Lib.hid hc)
  | true =>
    have hf : 1 ≤ fr ∧ fr ≤ 9999 := by
      have q := hc
      rw [chk_ref] at q
      simp only [Bool.and_eq_true, decide_eq_true_eq] at q
      exact q.2.1
    obtain ⟨j, ek, hj⟩ := nat_of_u how 9 (by decide)
    have hcs : j = 0 ∨ j = 1 ∨ j = 2 ∨ j = 3 ∨ j = 4 ∨ j = 5 ∨ j = 6 ∨ j = 7 ∨ j = 8 := by omega
    rcases hcs with rfl | rfl | rfl | rfl | rfl | rfl | rfl | rfl | rfl
    · exact rbt_0 nm lt fr tu mo k v d n c sv how w hp hm (by omega) (by omega) (Lib.hid hc) ek
    · exact rbt_1 nm lt fr tu mo k v d n c sv how w hp hm (by omega) (by omega) hf.1 hf.2 (Lib.hid hc) ek
    · exact rbt_2 nm lt fr tu mo k v d n c sv how w hp hm (by omega) (by omega) (Lib.hid hc) ek
    · exact rbt_3 nm lt fr tu mo k v d n c sv how w hp hm (by omega) (by omega) (Lib.hid hc) ek
    · exact rbt_4 nm lt fr tu mo k v d n c sv how w hp hm (by omega) (by omega) (Lib.hid hc) ek
    · exact rbt_5 nm lt fr tu mo k v d n c sv how w hp hm (by omega) (by omega) (Lib.hid hc) ek
    · exact rbt_6 nm lt fr tu mo k v d n c sv how w hp hm (by omega) (by omega) (Lib.hid hc) ek
    · exact rbt_7 nm lt fr tu mo k v d n c sv how w hp hm (by omega) (by omega) (Lib.hid hc) ek
    · exact rbt_8 nm lt fr tu mo k v d n c sv how w hp hm (by omega) (by omega) (Lib.hid hc) ek
end Rul
end Go.Proofs.YtpcnpacllkiieaaGreatDoor
