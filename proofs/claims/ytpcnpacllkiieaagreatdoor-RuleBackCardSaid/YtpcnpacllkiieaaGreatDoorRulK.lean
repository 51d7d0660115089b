/-
  RuleBack: what is written is read; unlike rules have unlike texts. (Written by gen/gen_rulk.py.)
-/
import Derived.Test.YtpcnpacllkiieaaGreatDoorRulW
namespace Go.Proofs.YtpcnpacllkiieaaGreatDoor
open Go.RowKit
namespace Rul
open Sol Clk Cel
def Unlike (a b : RV) : Prop := a ≠ b
set_option maxHeartbeats 6400000 in
set_option maxRecDepth 100000 in
theorem rb_big0 (na la nb lb : List UInt8) (a1 a2 a3 a4 a5 a6 a7 a8 a9 b1 b2 b3 b4 b5 b6 b7 b8 b9 : Int) (w : World) (m : na.length ≤ maxLen)  (h : 200 < na.length) :
    Calls Tryz.prog 4 #[.agg #[.string ⟨na.toArray⟩, .int .i64 a1, .int .i64 a2, .int .i64 a3, .int .i64 a4, .int .i64 a5, .int .i64 a6, .int .i64 a7, .int .i64 a8, .int .i64 a9, .string ⟨la.toArray⟩], .agg #[.string ⟨nb.toArray⟩, .int .i64 b1, .int .i64 b2, .int .i64 b3, .int .i64 b4, .int .i64 b5, .int .i64 b6, .int .i64 b7, .int .i64 b8, .int .i64 b9, .string ⟨lb.toArray⟩]] w fun e w' => e = .returned (.bool true) ∧ Below w.heap.size w w' := by
  unfold maxLen at m
  have sna : (⟨na.toArray⟩ : ByteArray).size = na.length := rfl
  go_enter Tryz.func4, Tryz.ntmps4
  go_wp2
  go_ret
  exact ⟨rfl, by repeat (first | with_reducible exact Below.refl _ _ | refine Below.drew ?_ | refine Below.alloc ?_ (by simp; try omega) _)⟩
set_option maxHeartbeats 6400000 in
set_option maxRecDepth 100000 in
theorem rb_big1 (na la nb lb : List UInt8) (a1 a2 a3 a4 a5 a6 a7 a8 a9 b1 b2 b3 b4 b5 b6 b7 b8 b9 : Int) (w : World) (m : la.length ≤ maxLen) (hna : na.length ≤ 200) (h : 200 < la.length) :
    Calls Tryz.prog 4 #[.agg #[.string ⟨na.toArray⟩, .int .i64 a1, .int .i64 a2, .int .i64 a3, .int .i64 a4, .int .i64 a5, .int .i64 a6, .int .i64 a7, .int .i64 a8, .int .i64 a9, .string ⟨la.toArray⟩], .agg #[.string ⟨nb.toArray⟩, .int .i64 b1, .int .i64 b2, .int .i64 b3, .int .i64 b4, .int .i64 b5, .int .i64 b6, .int .i64 b7, .int .i64 b8, .int .i64 b9, .string ⟨lb.toArray⟩]] w fun e w' => e = .returned (.bool true) ∧ Below w.heap.size w w' := by
  unfold maxLen at m
  have sna : (⟨na.toArray⟩ : ByteArray).size = na.length := rfl
  have sla : (⟨la.toArray⟩ : ByteArray).size = la.length := rfl
  go_enter Tryz.func4, Tryz.ntmps4
  go_wp2
  go_ret
  exact ⟨rfl, by repeat (first | with_reducible exact Below.refl _ _ | refine Below.drew ?_ | refine Below.alloc ?_ (by simp; try omega) _)⟩
set_option maxHeartbeats 6400000 in
set_option maxRecDepth 100000 in
theorem rb_big2 (na la nb lb : List UInt8) (a1 a2 a3 a4 a5 a6 a7 a8 a9 b1 b2 b3 b4 b5 b6 b7 b8 b9 : Int) (w : World) (m : nb.length ≤ maxLen) (hna : na.length ≤ 200) (hla : la.length ≤ 200) (h : 200 < nb.length) :
    Calls Tryz.prog 4 #[.agg #[.string ⟨na.toArray⟩, .int .i64 a1, .int .i64 a2, .int .i64 a3, .int .i64 a4, .int .i64 a5, .int .i64 a6, .int .i64 a7, .int .i64 a8, .int .i64 a9, .string ⟨la.toArray⟩], .agg #[.string ⟨nb.toArray⟩, .int .i64 b1, .int .i64 b2, .int .i64 b3, .int .i64 b4, .int .i64 b5, .int .i64 b6, .int .i64 b7, .int .i64 b8, .int .i64 b9, .string ⟨lb.toArray⟩]] w fun e w' => e = .returned (.bool true) ∧ Below w.heap.size w w' := by
  unfold maxLen at m
  have sna : (⟨na.toArray⟩ : ByteArray).size = na.length := rfl
  have sla : (⟨la.toArray⟩ : ByteArray).size = la.length := rfl
  have snb : (⟨nb.toArray⟩ : ByteArray).size = nb.length := rfl
  go_enter Tryz.func4, Tryz.ntmps4
  go_wp2
  go_ret
  exact ⟨rfl, by repeat (first | with_reducible exact Below.refl _ _ | refine Below.drew ?_ | refine Below.alloc ?_ (by simp; try omega) _)⟩
set_option maxHeartbeats 6400000 in
set_option maxRecDepth 100000 in
theorem rb_big3 (na la nb lb : List UInt8) (a1 a2 a3 a4 a5 a6 a7 a8 a9 b1 b2 b3 b4 b5 b6 b7 b8 b9 : Int) (w : World) (m : lb.length ≤ maxLen) (hna : na.length ≤ 200) (hla : la.length ≤ 200) (hnb : nb.length ≤ 200) (h : 200 < lb.length) :
    Calls Tryz.prog 4 #[.agg #[.string ⟨na.toArray⟩, .int .i64 a1, .int .i64 a2, .int .i64 a3, .int .i64 a4, .int .i64 a5, .int .i64 a6, .int .i64 a7, .int .i64 a8, .int .i64 a9, .string ⟨la.toArray⟩], .agg #[.string ⟨nb.toArray⟩, .int .i64 b1, .int .i64 b2, .int .i64 b3, .int .i64 b4, .int .i64 b5, .int .i64 b6, .int .i64 b7, .int .i64 b8, .int .i64 b9, .string ⟨lb.toArray⟩]] w fun e w' => e = .returned (.bool true) ∧ Below w.heap.size w w' := by
  unfold maxLen at m
  have sna : (⟨na.toArray⟩ : ByteArray).size = na.length := rfl
  have sla : (⟨la.toArray⟩ : ByteArray).size = la.length := rfl
  have snb : (⟨nb.toArray⟩ : ByteArray).size = nb.length := rfl
  have slb : (⟨lb.toArray⟩ : ByteArray).size = lb.length := rfl
  go_enter Tryz.func4, Tryz.ntmps4
  go_wp2
  go_ret
  exact ⟨rfl, by repeat (first | with_reducible exact Below.refl _ _ | refine Below.drew ?_ | refine Below.alloc ?_ (by simp; try omega) _)⟩
set_option maxHeartbeats 6400000 in
set_option maxRecDepth 100000 in
theorem rb_nn (na la nb lb : List UInt8) (a1 a2 a3 a4 a5 a6 a7 a8 a9 b1 b2 b3 b4 b5 b6 b7 b8 b9 : Int) (TA TB : List UInt8) (w : World) (hp : Pow w) (hm : Wrd.MaxL w) (hna : na.length ≤ 200) (hla : la.length ≤ 200) (hnb : nb.length ≤ 200) (hlb : lb.length ≤ 200) (HA : Hid (ruT ⟨na, a1, a2, a3, a4, a5, a6, a7, a8, a9, la⟩ = [] ∧ ruE ⟨na, a1, a2, a3, a4, a5, a6, a7, a8, a9, la⟩ = 10)) (HB : Hid (ruT ⟨nb, b1, b2, b3, b4, b5, b6, b7, b8, b9, lb⟩ = [] ∧ ruE ⟨nb, b1, b2, b3, b4, b5, b6, b7, b8, b9, lb⟩ = 10)) (_lA : TA.length ≤ 200) (_lB : TB.length ≤ 200) :
    Calls Tryz.prog 4 #[.agg #[.string ⟨na.toArray⟩, .int .i64 a1, .int .i64 a2, .int .i64 a3, .int .i64 a4, .int .i64 a5, .int .i64 a6, .int .i64 a7, .int .i64 a8, .int .i64 a9, .string ⟨la.toArray⟩], .agg #[.string ⟨nb.toArray⟩, .int .i64 b1, .int .i64 b2, .int .i64 b3, .int .i64 b4, .int .i64 b5, .int .i64 b6, .int .i64 b7, .int .i64 b8, .int .i64 b9, .string ⟨lb.toArray⟩]] w fun e w' => e = .returned (.bool true) ∧ Below w.heap.size w w' := by
  have sna : (⟨na.toArray⟩ : ByteArray).size = na.length := rfl
  have sla : (⟨la.toArray⟩ : ByteArray).size = la.length := rfl
  have snb : (⟨nb.toArray⟩ : ByteArray).size = nb.length := rfl
  have slb : (⟨lb.toArray⟩ : ByteArray).size = lb.length := rfl
  have HP := Lib.hid hp
  have HM := Lib.hid hm
  clear hp hm
  have sTA : (⟨TA.toArray⟩ : ByteArray).size = TA.length := rfl
  have sTB : (⟨TB.toArray⟩ : ByteArray).size = TB.length := rfl
  go_enter Tryz.func4, Tryz.ntmps4
  go_wp2_with fail
  refine (rtext_to na la a1 a2 a3 a4 a5 a6 a7 a8 a9 [] 10 _ (HP.out.stays (by repeat (first | with_reducible exact Below.refl _ _ | refine Below.drew ?_ | refine Below.alloc ?_ (by simp; try omega) _))) (by omega) (by omega) HA).mono ?_
  rintro e w1 ⟨rfl, b1'⟩
  have B1 := Lib.hid (bstep (show Below w.heap.size w _ from (by repeat (first | with_reducible exact Below.refl _ _ | refine Below.drew ?_ | refine Below.alloc ?_ (by simp; try omega) _))) b1')
  have CA1 := Lib.hid (Cs.below ((Cs.new w [.string ⟨na.toArray⟩, .int .i64 a1, .int .i64 a2, .int .i64 a3, .int .i64 a4, .int .i64 a5, .int .i64 a6, .int .i64 a7, .int .i64 a8, .int .i64 a9, .string ⟨la.toArray⟩] 27).alloc (Obj.cells #[.string ⟨nb.toArray⟩, .int .i64 b1, .int .i64 b2, .int .i64 b3, .int .i64 b4, .int .i64 b5, .int .i64 b6, .int .i64 b7, .int .i64 b8, .int .i64 b9, .string ⟨lb.toArray⟩] 27)) b1')
  have eS : (w.alloc (Obj.cells #[.string ⟨na.toArray⟩, .int .i64 a1, .int .i64 a2, .int .i64 a3, .int .i64 a4, .int .i64 a5, .int .i64 a6, .int .i64 a7, .int .i64 a8, .int .i64 a9, .string ⟨la.toArray⟩] 27)).heap.size = w.heap.size + 1 := by simp
  have CB0 := Cs.new (w.alloc (Obj.cells #[.string ⟨na.toArray⟩, .int .i64 a1, .int .i64 a2, .int .i64 a3, .int .i64 a4, .int .i64 a5, .int .i64 a6, .int .i64 a7, .int .i64 a8, .int .i64 a9, .string ⟨la.toArray⟩] 27)) [.string ⟨nb.toArray⟩, .int .i64 b1, .int .i64 b2, .int .i64 b3, .int .i64 b4, .int .i64 b5, .int .i64 b6, .int .i64 b7, .int .i64 b8, .int .i64 b9, .string ⟨lb.toArray⟩] 27
  rw [eS] at CB0
  have CB1 := Lib.hid (Cs.below CB0 b1')
  clear b1' CB0 eS
  have z0 := (CB1.out.2 0 _ rfl).1
  have z1 := (CB1.out.2 1 _ rfl).1
  have z2 := (CB1.out.2 2 _ rfl).1
  have z3 := (CB1.out.2 3 _ rfl).1
  have z4 := (CB1.out.2 4 _ rfl).1
  have z5 := (CB1.out.2 5 _ rfl).1
  have z6 := (CB1.out.2 6 _ rfl).1
  have z7 := (CB1.out.2 7 _ rfl).1
  have z8 := (CB1.out.2 8 _ rfl).1
  have z9 := (CB1.out.2 9 _ rfl).1
  have z10 := (CB1.out.2 10 _ rfl).1
  go_wp2_with fail
  refine (rtext_to nb lb b1 b2 b3 b4 b5 b6 b7 b8 b9 [] 10 _ (HP.out.stays B1.out) (by omega) (by omega) HB).mono ?_
  rintro e w2 ⟨rfl, b2'⟩
  have B2 := Lib.hid (bstep B1.out b2')
  have CA2 := Lib.hid (CA1.out.below b2')
  have CB2 := Lib.hid (CB1.out.below b2')
  clear b2' CA1 CB1 z0 z1 z2 z3 z4 z5 z6 z7 z8 z9 z10
  go_wp2_with fail
  refine (wakes9_any _ (HP.out.stays B2.out) (HM.out.stays B2.out)).mono ?_
  rintro e w9 ⟨rfl, b9'⟩
  go_wp2
  go_ret
  exact ⟨rfl, bstep B2.out b9'⟩
set_option maxHeartbeats 6400000 in
set_option maxRecDepth 100000 in
theorem rb_ny (na la nb lb : List UInt8) (a1 a2 a3 a4 a5 a6 a7 a8 a9 b1 b2 b3 b4 b5 b6 b7 b8 b9 : Int) (TA TB : List UInt8) (w : World) (hp : Pow w) (hm : Wrd.MaxL w) (hna : na.length ≤ 200) (hla : la.length ≤ 200) (hnb : nb.length ≤ 200) (hlb : lb.length ≤ 200) (HA : Hid (ruT ⟨na, a1, a2, a3, a4, a5, a6, a7, a8, a9, la⟩ = [] ∧ ruE ⟨na, a1, a2, a3, a4, a5, a6, a7, a8, a9, la⟩ = 10)) (HB : Hid (ruT ⟨nb, b1, b2, b3, b4, b5, b6, b7, b8, b9, lb⟩ = TB ∧ ruE ⟨nb, b1, b2, b3, b4, b5, b6, b7, b8, b9, lb⟩ = 0)) (_lA : TA.length ≤ 200) (_lB : TB.length ≤ 200) :
    Calls Tryz.prog 4 #[.agg #[.string ⟨na.toArray⟩, .int .i64 a1, .int .i64 a2, .int .i64 a3, .int .i64 a4, .int .i64 a5, .int .i64 a6, .int .i64 a7, .int .i64 a8, .int .i64 a9, .string ⟨la.toArray⟩], .agg #[.string ⟨nb.toArray⟩, .int .i64 b1, .int .i64 b2, .int .i64 b3, .int .i64 b4, .int .i64 b5, .int .i64 b6, .int .i64 b7, .int .i64 b8, .int .i64 b9, .string ⟨lb.toArray⟩]] w fun e w' => e = .returned (.bool true) ∧ Below w.heap.size w w' := by
  have sna : (⟨na.toArray⟩ : ByteArray).size = na.length := rfl
  have sla : (⟨la.toArray⟩ : ByteArray).size = la.length := rfl
  have snb : (⟨nb.toArray⟩ : ByteArray).size = nb.length := rfl
  have slb : (⟨lb.toArray⟩ : ByteArray).size = lb.length := rfl
  have HP := Lib.hid hp
  have HM := Lib.hid hm
  clear hp hm
  have sTA : (⟨TA.toArray⟩ : ByteArray).size = TA.length := rfl
  have sTB : (⟨TB.toArray⟩ : ByteArray).size = TB.length := rfl
  go_enter Tryz.func4, Tryz.ntmps4
  go_wp2_with fail
  refine (rtext_to na la a1 a2 a3 a4 a5 a6 a7 a8 a9 [] 10 _ (HP.out.stays (by repeat (first | with_reducible exact Below.refl _ _ | refine Below.drew ?_ | refine Below.alloc ?_ (by simp; try omega) _))) (by omega) (by omega) HA).mono ?_
  rintro e w1 ⟨rfl, b1'⟩
  have B1 := Lib.hid (bstep (show Below w.heap.size w _ from (by repeat (first | with_reducible exact Below.refl _ _ | refine Below.drew ?_ | refine Below.alloc ?_ (by simp; try omega) _))) b1')
  have CA1 := Lib.hid (Cs.below ((Cs.new w [.string ⟨na.toArray⟩, .int .i64 a1, .int .i64 a2, .int .i64 a3, .int .i64 a4, .int .i64 a5, .int .i64 a6, .int .i64 a7, .int .i64 a8, .int .i64 a9, .string ⟨la.toArray⟩] 27).alloc (Obj.cells #[.string ⟨nb.toArray⟩, .int .i64 b1, .int .i64 b2, .int .i64 b3, .int .i64 b4, .int .i64 b5, .int .i64 b6, .int .i64 b7, .int .i64 b8, .int .i64 b9, .string ⟨lb.toArray⟩] 27)) b1')
  have eS : (w.alloc (Obj.cells #[.string ⟨na.toArray⟩, .int .i64 a1, .int .i64 a2, .int .i64 a3, .int .i64 a4, .int .i64 a5, .int .i64 a6, .int .i64 a7, .int .i64 a8, .int .i64 a9, .string ⟨la.toArray⟩] 27)).heap.size = w.heap.size + 1 := by simp
  have CB0 := Cs.new (w.alloc (Obj.cells #[.string ⟨na.toArray⟩, .int .i64 a1, .int .i64 a2, .int .i64 a3, .int .i64 a4, .int .i64 a5, .int .i64 a6, .int .i64 a7, .int .i64 a8, .int .i64 a9, .string ⟨la.toArray⟩] 27)) [.string ⟨nb.toArray⟩, .int .i64 b1, .int .i64 b2, .int .i64 b3, .int .i64 b4, .int .i64 b5, .int .i64 b6, .int .i64 b7, .int .i64 b8, .int .i64 b9, .string ⟨lb.toArray⟩] 27
  rw [eS] at CB0
  have CB1 := Lib.hid (Cs.below CB0 b1')
  clear b1' CB0 eS
  have z0 := (CB1.out.2 0 _ rfl).1
  have z1 := (CB1.out.2 1 _ rfl).1
  have z2 := (CB1.out.2 2 _ rfl).1
  have z3 := (CB1.out.2 3 _ rfl).1
  have z4 := (CB1.out.2 4 _ rfl).1
  have z5 := (CB1.out.2 5 _ rfl).1
  have z6 := (CB1.out.2 6 _ rfl).1
  have z7 := (CB1.out.2 7 _ rfl).1
  have z8 := (CB1.out.2 8 _ rfl).1
  have z9 := (CB1.out.2 9 _ rfl).1
  have z10 := (CB1.out.2 10 _ rfl).1
  go_wp2_with fail
  refine (rtext_to nb lb b1 b2 b3 b4 b5 b6 b7 b8 b9 TB 0 _ (HP.out.stays B1.out) (by omega) (by omega) HB).mono ?_
  rintro e w2 ⟨rfl, b2'⟩
  have B2 := Lib.hid (bstep B1.out b2')
  have CA2 := Lib.hid (CA1.out.below b2')
  have CB2 := Lib.hid (CB1.out.below b2')
  clear b2' CA1 CB1 z0 z1 z2 z3 z4 z5 z6 z7 z8 z9 z10
  go_wp2_with fail
  refine (wakes9_any _ (HP.out.stays B2.out) (HM.out.stays B2.out)).mono ?_
  rintro e w9 ⟨rfl, b9'⟩
  go_wp2
  go_ret
  exact ⟨rfl, bstep B2.out b9'⟩
set_option maxHeartbeats 6400000 in
set_option maxRecDepth 100000 in
theorem rb_yn (na la nb lb : List UInt8) (a1 a2 a3 a4 a5 a6 a7 a8 a9 b1 b2 b3 b4 b5 b6 b7 b8 b9 : Int) (TA TB : List UInt8) (w : World) (hp : Pow w) (hm : Wrd.MaxL w) (hna : na.length ≤ 200) (hla : la.length ≤ 200) (hnb : nb.length ≤ 200) (hlb : lb.length ≤ 200) (HA : Hid (ruT ⟨na, a1, a2, a3, a4, a5, a6, a7, a8, a9, la⟩ = TA ∧ ruE ⟨na, a1, a2, a3, a4, a5, a6, a7, a8, a9, la⟩ = 0)) (HB : Hid (ruT ⟨nb, b1, b2, b3, b4, b5, b6, b7, b8, b9, lb⟩ = [] ∧ ruE ⟨nb, b1, b2, b3, b4, b5, b6, b7, b8, b9, lb⟩ = 10)) (_lA : TA.length ≤ 200) (_lB : TB.length ≤ 200) :
    Calls Tryz.prog 4 #[.agg #[.string ⟨na.toArray⟩, .int .i64 a1, .int .i64 a2, .int .i64 a3, .int .i64 a4, .int .i64 a5, .int .i64 a6, .int .i64 a7, .int .i64 a8, .int .i64 a9, .string ⟨la.toArray⟩], .agg #[.string ⟨nb.toArray⟩, .int .i64 b1, .int .i64 b2, .int .i64 b3, .int .i64 b4, .int .i64 b5, .int .i64 b6, .int .i64 b7, .int .i64 b8, .int .i64 b9, .string ⟨lb.toArray⟩]] w fun e w' => e = .returned (.bool true) ∧ Below w.heap.size w w' := by
  have sna : (⟨na.toArray⟩ : ByteArray).size = na.length := rfl
  have sla : (⟨la.toArray⟩ : ByteArray).size = la.length := rfl
  have snb : (⟨nb.toArray⟩ : ByteArray).size = nb.length := rfl
  have slb : (⟨lb.toArray⟩ : ByteArray).size = lb.length := rfl
  have HP := Lib.hid hp
  have HM := Lib.hid hm
  clear hp hm
  have sTA : (⟨TA.toArray⟩ : ByteArray).size = TA.length := rfl
  have sTB : (⟨TB.toArray⟩ : ByteArray).size = TB.length := rfl
  go_enter Tryz.func4, Tryz.ntmps4
  go_wp2_with fail
  refine (rtext_to na la a1 a2 a3 a4 a5 a6 a7 a8 a9 TA 0 _ (HP.out.stays (by repeat (first | with_reducible exact Below.refl _ _ | refine Below.drew ?_ | refine Below.alloc ?_ (by simp; try omega) _))) (by omega) (by omega) HA).mono ?_
  rintro e w1 ⟨rfl, b1'⟩
  have B1 := Lib.hid (bstep (show Below w.heap.size w _ from (by repeat (first | with_reducible exact Below.refl _ _ | refine Below.drew ?_ | refine Below.alloc ?_ (by simp; try omega) _))) b1')
  have CA1 := Lib.hid (Cs.below ((Cs.new w [.string ⟨na.toArray⟩, .int .i64 a1, .int .i64 a2, .int .i64 a3, .int .i64 a4, .int .i64 a5, .int .i64 a6, .int .i64 a7, .int .i64 a8, .int .i64 a9, .string ⟨la.toArray⟩] 27).alloc (Obj.cells #[.string ⟨nb.toArray⟩, .int .i64 b1, .int .i64 b2, .int .i64 b3, .int .i64 b4, .int .i64 b5, .int .i64 b6, .int .i64 b7, .int .i64 b8, .int .i64 b9, .string ⟨lb.toArray⟩] 27)) b1')
  have eS : (w.alloc (Obj.cells #[.string ⟨na.toArray⟩, .int .i64 a1, .int .i64 a2, .int .i64 a3, .int .i64 a4, .int .i64 a5, .int .i64 a6, .int .i64 a7, .int .i64 a8, .int .i64 a9, .string ⟨la.toArray⟩] 27)).heap.size = w.heap.size + 1 := by simp
  have CB0 := Cs.new (w.alloc (Obj.cells #[.string ⟨na.toArray⟩, .int .i64 a1, .int .i64 a2, .int .i64 a3, .int .i64 a4, .int .i64 a5, .int .i64 a6, .int .i64 a7, .int .i64 a8, .int .i64 a9, .string ⟨la.toArray⟩] 27)) [.string ⟨nb.toArray⟩, .int .i64 b1, .int .i64 b2, .int .i64 b3, .int .i64 b4, .int .i64 b5, .int .i64 b6, .int .i64 b7, .int .i64 b8, .int .i64 b9, .string ⟨lb.toArray⟩] 27
  rw [eS] at CB0
  have CB1 := Lib.hid (Cs.below CB0 b1')
  clear b1' CB0 eS
  have z0 := (CB1.out.2 0 _ rfl).1
  have z1 := (CB1.out.2 1 _ rfl).1
  have z2 := (CB1.out.2 2 _ rfl).1
  have z3 := (CB1.out.2 3 _ rfl).1
  have z4 := (CB1.out.2 4 _ rfl).1
  have z5 := (CB1.out.2 5 _ rfl).1
  have z6 := (CB1.out.2 6 _ rfl).1
  have z7 := (CB1.out.2 7 _ rfl).1
  have z8 := (CB1.out.2 8 _ rfl).1
  have z9 := (CB1.out.2 9 _ rfl).1
  have z10 := (CB1.out.2 10 _ rfl).1
  go_wp2_with fail
  refine (rtext_to nb lb b1 b2 b3 b4 b5 b6 b7 b8 b9 [] 10 _ (HP.out.stays B1.out) (by omega) (by omega) HB).mono ?_
  rintro e w2 ⟨rfl, b2'⟩
  have B2 := Lib.hid (bstep B1.out b2')
  have CA2 := Lib.hid (CA1.out.below b2')
  have CB2 := Lib.hid (CB1.out.below b2')
  clear b2' CA1 CB1 z0 z1 z2 z3 z4 z5 z6 z7 z8 z9 z10
  go_wp2_with fail
  refine (wakes9_any _ (HP.out.stays B2.out) (HM.out.stays B2.out)).mono ?_
  rintro e w9 ⟨rfl, b9'⟩
  go_wp2
  go_ret
  exact ⟨rfl, bstep B2.out b9'⟩
set_option maxHeartbeats 12800000 in
set_option maxRecDepth 100000 in
theorem rb_ne (na la nb lb : List UInt8) (a1 a2 a3 a4 a5 a6 a7 a8 a9 b1 b2 b3 b4 b5 b6 b7 b8 b9 : Int) (TA TB : List UInt8) (w : World) (hp : Pow w) (hm : Wrd.MaxL w) (hna : na.length ≤ 200) (hla : la.length ≤ 200) (hnb : nb.length ≤ 200) (hlb : lb.length ≤ 200) (HA : Hid (ruT ⟨na, a1, a2, a3, a4, a5, a6, a7, a8, a9, la⟩ = TA ∧ ruE ⟨na, a1, a2, a3, a4, a5, a6, a7, a8, a9, la⟩ = 0)) (lA : TA.length ≤ 200) (HB : Hid (ruT ⟨nb, b1, b2, b3, b4, b5, b6, b7, b8, b9, lb⟩ = TB ∧ ruE ⟨nb, b1, b2, b3, b4, b5, b6, b7, b8, b9, lb⟩ = 0)) (_lB : TB.length ≤ 200) 
    (HS : Hid (Fds.splitR TA = (ruF ⟨na, a1, a2, a3, a4, a5, a6, a7, a8, a9, la⟩, 0))) (HR : Hid (ruP (ruF ⟨na, a1, a2, a3, a4, a5, a6, a7, a8, a9, la⟩) = (0, ⟨na, a1, a2, a3, a4, a5, a6, a7, a8, a9, la⟩))) (H8 : Hid (∀ t ∈ ruF ⟨na, a1, a2, a3, a4, a5, a6, a7, a8, a9, la⟩, t.length ≤ 1000)) (HNE : Hid (Unlike ⟨na, a1, a2, a3, a4, a5, a6, a7, a8, a9, la⟩ ⟨nb, b1, b2, b3, b4, b5, b6, b7, b8, b9, lb⟩)) (ht : (TA == TB) = false) :
    Calls Tryz.prog 4 #[.agg #[.string ⟨na.toArray⟩, .int .i64 a1, .int .i64 a2, .int .i64 a3, .int .i64 a4, .int .i64 a5, .int .i64 a6, .int .i64 a7, .int .i64 a8, .int .i64 a9, .string ⟨la.toArray⟩], .agg #[.string ⟨nb.toArray⟩, .int .i64 b1, .int .i64 b2, .int .i64 b3, .int .i64 b4, .int .i64 b5, .int .i64 b6, .int .i64 b7, .int .i64 b8, .int .i64 b9, .string ⟨lb.toArray⟩]] w fun e w' => e = .returned (.bool true) ∧ Below w.heap.size w w' := by
  have sna : (⟨na.toArray⟩ : ByteArray).size = na.length := rfl
  have sla : (⟨la.toArray⟩ : ByteArray).size = la.length := rfl
  have snb : (⟨nb.toArray⟩ : ByteArray).size = nb.length := rfl
  have slb : (⟨lb.toArray⟩ : ByteArray).size = lb.length := rfl
  have HP := Lib.hid hp
  have HM := Lib.hid hm
  clear hp hm
  have sTA : (⟨TA.toArray⟩ : ByteArray).size = TA.length := rfl
  have sTB : (⟨TB.toArray⟩ : ByteArray).size = TB.length := rfl
  have HL : Hid ((ruF ⟨na, a1, a2, a3, a4, a5, a6, a7, a8, a9, la⟩).length ≤ 1000000) := Lib.hid (by show 10 ≤ 1000000; omega)
  obtain ⟨L, hL⟩ : ∃ L, ruF ⟨na, a1, a2, a3, a4, a5, a6, a7, a8, a9, la⟩ = L := ⟨_, rfl⟩
  rw [hL] at HS HR H8 HL
  clear hL
  go_enter Tryz.func4, Tryz.ntmps4
  go_wp2_with fail
  refine (rtext_to na la a1 a2 a3 a4 a5 a6 a7 a8 a9 TA 0 _ (HP.out.stays (by repeat (first | with_reducible exact Below.refl _ _ | refine Below.drew ?_ | refine Below.alloc ?_ (by simp; try omega) _))) (by omega) (by omega) HA).mono ?_
  rintro e w1 ⟨rfl, b1'⟩
  have B1 := Lib.hid (bstep (show Below w.heap.size w _ from (by repeat (first | with_reducible exact Below.refl _ _ | refine Below.drew ?_ | refine Below.alloc ?_ (by simp; try omega) _))) b1')
  have CA1 := Lib.hid (Cs.below ((Cs.new w [.string ⟨na.toArray⟩, .int .i64 a1, .int .i64 a2, .int .i64 a3, .int .i64 a4, .int .i64 a5, .int .i64 a6, .int .i64 a7, .int .i64 a8, .int .i64 a9, .string ⟨la.toArray⟩] 27).alloc (Obj.cells #[.string ⟨nb.toArray⟩, .int .i64 b1, .int .i64 b2, .int .i64 b3, .int .i64 b4, .int .i64 b5, .int .i64 b6, .int .i64 b7, .int .i64 b8, .int .i64 b9, .string ⟨lb.toArray⟩] 27)) b1')
  have eS : (w.alloc (Obj.cells #[.string ⟨na.toArray⟩, .int .i64 a1, .int .i64 a2, .int .i64 a3, .int .i64 a4, .int .i64 a5, .int .i64 a6, .int .i64 a7, .int .i64 a8, .int .i64 a9, .string ⟨la.toArray⟩] 27)).heap.size = w.heap.size + 1 := by simp
  have CB0 := Cs.new (w.alloc (Obj.cells #[.string ⟨na.toArray⟩, .int .i64 a1, .int .i64 a2, .int .i64 a3, .int .i64 a4, .int .i64 a5, .int .i64 a6, .int .i64 a7, .int .i64 a8, .int .i64 a9, .string ⟨la.toArray⟩] 27)) [.string ⟨nb.toArray⟩, .int .i64 b1, .int .i64 b2, .int .i64 b3, .int .i64 b4, .int .i64 b5, .int .i64 b6, .int .i64 b7, .int .i64 b8, .int .i64 b9, .string ⟨lb.toArray⟩] 27
  rw [eS] at CB0
  have CB1 := Lib.hid (Cs.below CB0 b1')
  clear b1' CB0 eS
  have z0 := (CB1.out.2 0 _ rfl).1
  have z1 := (CB1.out.2 1 _ rfl).1
  have z2 := (CB1.out.2 2 _ rfl).1
  have z3 := (CB1.out.2 3 _ rfl).1
  have z4 := (CB1.out.2 4 _ rfl).1
  have z5 := (CB1.out.2 5 _ rfl).1
  have z6 := (CB1.out.2 6 _ rfl).1
  have z7 := (CB1.out.2 7 _ rfl).1
  have z8 := (CB1.out.2 8 _ rfl).1
  have z9 := (CB1.out.2 9 _ rfl).1
  have z10 := (CB1.out.2 10 _ rfl).1
  go_wp2_with fail
  refine (rtext_to nb lb b1 b2 b3 b4 b5 b6 b7 b8 b9 TB 0 _ (HP.out.stays B1.out) (by omega) (by omega) HB).mono ?_
  rintro e w2 ⟨rfl, b2'⟩
  have B2 := Lib.hid (bstep B1.out b2')
  have CA2 := Lib.hid (CA1.out.below b2')
  have CB2 := Lib.hid (CB1.out.below b2')
  clear b2' CA1 CB1 z0 z1 z2 z3 z4 z5 z6 z7 z8 z9 z10
  go_wp2_with fail
  refine (Fds.spl_to _ TA L 0 _ (by rw [sTA]; omega) (Lib.hid rfl) HS).mono ?_
  rintro e w3 ⟨v, rfl, tv, b3'⟩
  have B3 := Lib.hid (bstep B2.out b3')
  have CA3 := Lib.hid (CA2.out.below b3')
  have CB3 := Lib.hid (CB2.out.below b3')
  clear CA2 CB2
  have TV := Lib.hid tv
  clear b3' tv
  go_wp2_with fail
  refine (rparse_to v L 0 ⟨na, a1, a2, a3, a4, a5, a6, a7, a8, a9, la⟩ _ (HM.out.stays B3.out) TV.out H8.out HL.out HR).mono ?_
  rintro e w4 ⟨rfl, b4'⟩
  have B4 := Lib.hid (bstep B3.out b4')
  have CA4 := Lib.hid (CA3.out.below b4')
  have CB4 := Lib.hid (CB3.out.below b4')
  clear CA3 CB3
  have z0 := (CA4.out.2 0 _ rfl).1
  have x0 := (CB4.out.2 0 _ rfl).1
  have z1 := (CA4.out.2 1 _ rfl).1
  have x1 := (CB4.out.2 1 _ rfl).1
  have z2 := (CA4.out.2 2 _ rfl).1
  have x2 := (CB4.out.2 2 _ rfl).1
  have z3 := (CA4.out.2 3 _ rfl).1
  have x3 := (CB4.out.2 3 _ rfl).1
  have z4 := (CA4.out.2 4 _ rfl).1
  have x4 := (CB4.out.2 4 _ rfl).1
  have z5 := (CA4.out.2 5 _ rfl).1
  have x5 := (CB4.out.2 5 _ rfl).1
  have z6 := (CA4.out.2 6 _ rfl).1
  have x6 := (CB4.out.2 6 _ rfl).1
  have z7 := (CA4.out.2 7 _ rfl).1
  have x7 := (CB4.out.2 7 _ rfl).1
  have z8 := (CA4.out.2 8 _ rfl).1
  have x8 := (CB4.out.2 8 _ rfl).1
  have z9 := (CA4.out.2 9 _ rfl).1
  have x9 := (CB4.out.2 9 _ rfl).1
  have z10 := (CA4.out.2 10 _ rfl).1
  have x10 := (CB4.out.2 10 _ rfl).1
  have gz : w.heap.size < w4.heap.size := CA4.out.1
  have gx : w.heap.size + 1 < w4.heap.size := CB4.out.1
  have g1 : w.heap.size ≠ w4.heap.size := by omega
  have g2 : w4.heap.size ≠ w.heap.size := by omega
  have g3 : w.heap.size + 1 ≠ w4.heap.size := by omega
  have g4 : w4.heap.size ≠ w.heap.size + 1 := by omega
  clear b4'
  simp only [RV.val]
  go_wp2_with fail
  all_goals first
    | exact absurd (by subst_vars; rfl) HNE.out
    | (refine (wakes9_any _ (HP.out.stays (B4.out.alloc B4.out.size _)) (HM.out.stays (B4.out.alloc B4.out.size _))).mono ?_
       rintro e w9 ⟨rfl, b9'⟩
       go_wp2
       go_ret
       exact ⟨rfl, bstep (B4.out.alloc B4.out.size _) b9'⟩)
set_option maxHeartbeats 12800000 in
set_option maxRecDepth 100000 in
theorem rb_eq (na la : List UInt8) (a1 a2 a3 a4 a5 a6 a7 a8 a9 : Int) (TA : List UInt8) (w : World) (hp : Pow w) (hm : Wrd.MaxL w) (hna : na.length ≤ 200) (hla : la.length ≤ 200) (HA : Hid (ruT ⟨na, a1, a2, a3, a4, a5, a6, a7, a8, a9, la⟩ = TA ∧ ruE ⟨na, a1, a2, a3, a4, a5, a6, a7, a8, a9, la⟩ = 0)) (lA : TA.length ≤ 200) 
    (HS : Hid (Fds.splitR TA = (ruF ⟨na, a1, a2, a3, a4, a5, a6, a7, a8, a9, la⟩, 0))) (HR : Hid (ruP (ruF ⟨na, a1, a2, a3, a4, a5, a6, a7, a8, a9, la⟩) = (0, ⟨na, a1, a2, a3, a4, a5, a6, a7, a8, a9, la⟩))) (H8 : Hid (∀ t ∈ ruF ⟨na, a1, a2, a3, a4, a5, a6, a7, a8, a9, la⟩, t.length ≤ 1000))  :
    Calls Tryz.prog 4 #[.agg #[.string ⟨na.toArray⟩, .int .i64 a1, .int .i64 a2, .int .i64 a3, .int .i64 a4, .int .i64 a5, .int .i64 a6, .int .i64 a7, .int .i64 a8, .int .i64 a9, .string ⟨la.toArray⟩], .agg #[.string ⟨na.toArray⟩, .int .i64 a1, .int .i64 a2, .int .i64 a3, .int .i64 a4, .int .i64 a5, .int .i64 a6, .int .i64 a7, .int .i64 a8, .int .i64 a9, .string ⟨la.toArray⟩]] w fun e w' => e = .returned (.bool true) ∧ Below w.heap.size w w' := by
  have sna : (⟨na.toArray⟩ : ByteArray).size = na.length := rfl
  have sla : (⟨la.toArray⟩ : ByteArray).size = la.length := rfl
  have HP := Lib.hid hp
  have HM := Lib.hid hm
  clear hp hm
  have sTA : (⟨TA.toArray⟩ : ByteArray).size = TA.length := rfl
  have HL : Hid ((ruF ⟨na, a1, a2, a3, a4, a5, a6, a7, a8, a9, la⟩).length ≤ 1000000) := Lib.hid (by show 10 ≤ 1000000; omega)
  obtain ⟨L, hL⟩ : ∃ L, ruF ⟨na, a1, a2, a3, a4, a5, a6, a7, a8, a9, la⟩ = L := ⟨_, rfl⟩
  rw [hL] at HS HR H8 HL
  clear hL
  go_enter Tryz.func4, Tryz.ntmps4
  go_wp2_with fail
  refine (rtext_to na la a1 a2 a3 a4 a5 a6 a7 a8 a9 TA 0 _ (HP.out.stays (by repeat (first | with_reducible exact Below.refl _ _ | refine Below.drew ?_ | refine Below.alloc ?_ (by simp; try omega) _))) (by omega) (by omega) HA).mono ?_
  rintro e w1 ⟨rfl, b1'⟩
  have B1 := Lib.hid (bstep (show Below w.heap.size w _ from (by repeat (first | with_reducible exact Below.refl _ _ | refine Below.drew ?_ | refine Below.alloc ?_ (by simp; try omega) _))) b1')
  have CA1 := Lib.hid (Cs.below ((Cs.new w [.string ⟨na.toArray⟩, .int .i64 a1, .int .i64 a2, .int .i64 a3, .int .i64 a4, .int .i64 a5, .int .i64 a6, .int .i64 a7, .int .i64 a8, .int .i64 a9, .string ⟨la.toArray⟩] 27).alloc (Obj.cells #[.string ⟨na.toArray⟩, .int .i64 a1, .int .i64 a2, .int .i64 a3, .int .i64 a4, .int .i64 a5, .int .i64 a6, .int .i64 a7, .int .i64 a8, .int .i64 a9, .string ⟨la.toArray⟩] 27)) b1')
  have eS : (w.alloc (Obj.cells #[.string ⟨na.toArray⟩, .int .i64 a1, .int .i64 a2, .int .i64 a3, .int .i64 a4, .int .i64 a5, .int .i64 a6, .int .i64 a7, .int .i64 a8, .int .i64 a9, .string ⟨la.toArray⟩] 27)).heap.size = w.heap.size + 1 := by simp
  have CB0 := Cs.new (w.alloc (Obj.cells #[.string ⟨na.toArray⟩, .int .i64 a1, .int .i64 a2, .int .i64 a3, .int .i64 a4, .int .i64 a5, .int .i64 a6, .int .i64 a7, .int .i64 a8, .int .i64 a9, .string ⟨la.toArray⟩] 27)) [.string ⟨na.toArray⟩, .int .i64 a1, .int .i64 a2, .int .i64 a3, .int .i64 a4, .int .i64 a5, .int .i64 a6, .int .i64 a7, .int .i64 a8, .int .i64 a9, .string ⟨la.toArray⟩] 27
  rw [eS] at CB0
  have CB1 := Lib.hid (Cs.below CB0 b1')
  clear b1' CB0 eS
  have z0 := (CB1.out.2 0 _ rfl).1
  have z1 := (CB1.out.2 1 _ rfl).1
  have z2 := (CB1.out.2 2 _ rfl).1
  have z3 := (CB1.out.2 3 _ rfl).1
  have z4 := (CB1.out.2 4 _ rfl).1
  have z5 := (CB1.out.2 5 _ rfl).1
  have z6 := (CB1.out.2 6 _ rfl).1
  have z7 := (CB1.out.2 7 _ rfl).1
  have z8 := (CB1.out.2 8 _ rfl).1
  have z9 := (CB1.out.2 9 _ rfl).1
  have z10 := (CB1.out.2 10 _ rfl).1
  go_wp2_with fail
  refine (rtext_to na la a1 a2 a3 a4 a5 a6 a7 a8 a9 TA 0 _ (HP.out.stays B1.out) (by omega) (by omega) HA).mono ?_
  rintro e w2 ⟨rfl, b2'⟩
  have B2 := Lib.hid (bstep B1.out b2')
  have CA2 := Lib.hid (CA1.out.below b2')
  have CB2 := Lib.hid (CB1.out.below b2')
  clear b2' CA1 CB1 z0 z1 z2 z3 z4 z5 z6 z7 z8 z9 z10
  go_wp2_with fail
  refine (Fds.spl_to _ TA L 0 _ (by rw [sTA]; omega) (Lib.hid rfl) HS).mono ?_
  rintro e w3 ⟨v, rfl, tv, b3'⟩
  have B3 := Lib.hid (bstep B2.out b3')
  have CA3 := Lib.hid (CA2.out.below b3')
  have CB3 := Lib.hid (CB2.out.below b3')
  clear CA2 CB2
  have TV := Lib.hid tv
  clear b3' tv
  go_wp2_with fail
  refine (rparse_to v L 0 ⟨na, a1, a2, a3, a4, a5, a6, a7, a8, a9, la⟩ _ (HM.out.stays B3.out) TV.out H8.out HL.out HR).mono ?_
  rintro e w4 ⟨rfl, b4'⟩
  have B4 := Lib.hid (bstep B3.out b4')
  have CA4 := Lib.hid (CA3.out.below b4')
  have CB4 := Lib.hid (CB3.out.below b4')
  clear CA3 CB3
  have z0 := (CA4.out.2 0 _ rfl).1
  have x0 := (CB4.out.2 0 _ rfl).1
  have z1 := (CA4.out.2 1 _ rfl).1
  have x1 := (CB4.out.2 1 _ rfl).1
  have z2 := (CA4.out.2 2 _ rfl).1
  have x2 := (CB4.out.2 2 _ rfl).1
  have z3 := (CA4.out.2 3 _ rfl).1
  have x3 := (CB4.out.2 3 _ rfl).1
  have z4 := (CA4.out.2 4 _ rfl).1
  have x4 := (CB4.out.2 4 _ rfl).1
  have z5 := (CA4.out.2 5 _ rfl).1
  have x5 := (CB4.out.2 5 _ rfl).1
  have z6 := (CA4.out.2 6 _ rfl).1
  have x6 := (CB4.out.2 6 _ rfl).1
  have z7 := (CA4.out.2 7 _ rfl).1
  have x7 := (CB4.out.2 7 _ rfl).1
  have z8 := (CA4.out.2 8 _ rfl).1
  have x8 := (CB4.out.2 8 _ rfl).1
  have z9 := (CA4.out.2 9 _ rfl).1
  have x9 := (CB4.out.2 9 _ rfl).1
  have z10 := (CA4.out.2 10 _ rfl).1
  have x10 := (CB4.out.2 10 _ rfl).1
  have gz : w.heap.size < w4.heap.size := CA4.out.1
  have gx : w.heap.size + 1 < w4.heap.size := CB4.out.1
  have g1 : w.heap.size ≠ w4.heap.size := by omega
  have g2 : w4.heap.size ≠ w.heap.size := by omega
  have g3 : w.heap.size + 1 ≠ w4.heap.size := by omega
  have g4 : w4.heap.size ≠ w.heap.size + 1 := by omega
  clear b4'
  simp only [RV.val]
  go_wp2_with fail
  all_goals first
    | (refine (wakes9_any _ (HP.out.stays (B4.out.alloc B4.out.size _)) (HM.out.stays (B4.out.alloc B4.out.size _))).mono ?_
       rintro e w9 ⟨rfl, b9'⟩
       go_wp2
       go_ret
       exact ⟨rfl, bstep (B4.out.alloc B4.out.size _) b9'⟩)
theorem rback_any (na la nb lb : List UInt8) (a1 a2 a3 a4 a5 a6 a7 a8 a9 b1 b2 b3 b4 b5 b6 b7 b8 b9 : Int) (w : World) (hp : Pow w) (hm : Wrd.MaxL w) (m0 : na.length ≤ maxLen) (m1 : la.length ≤ maxLen) (m2 : nb.length ≤ maxLen) (m3 : lb.length ≤ maxLen) :
    Calls Tryz.prog 4 #[.agg #[.string ⟨na.toArray⟩, .int .i64 a1, .int .i64 a2, .int .i64 a3, .int .i64 a4, .int .i64 a5, .int .i64 a6, .int .i64 a7, .int .i64 a8, .int .i64 a9, .string ⟨la.toArray⟩], .agg #[.string ⟨nb.toArray⟩, .int .i64 b1, .int .i64 b2, .int .i64 b3, .int .i64 b4, .int .i64 b5, .int .i64 b6, .int .i64 b7, .int .i64 b8, .int .i64 b9, .string ⟨lb.toArray⟩]] w fun e w' => e = .returned (.bool true) ∧ Below w.heap.size w w' := by
  by_cases h0 : 200 < na.length
  · exact rb_big0 na la nb lb a1 a2 a3 a4 a5 a6 a7 a8 a9 b1 b2 b3 b4 b5 b6 b7 b8 b9 w m0 h0
  by_cases h1 : 200 < la.length
  · exact rb_big1 na la nb lb a1 a2 a3 a4 a5 a6 a7 a8 a9 b1 b2 b3 b4 b5 b6 b7 b8 b9 w m1 (by omega) h1
  by_cases h2 : 200 < nb.length
  · exact rb_big2 na la nb lb a1 a2 a3 a4 a5 a6 a7 a8 a9 b1 b2 b3 b4 b5 b6 b7 b8 b9 w m2 (by omega) (by omega) h2
  by_cases h3 : 200 < lb.length
  · exact rb_big3 na la nb lb a1 a2 a3 a4 a5 a6 a7 a8 a9 b1 b2 b3 b4 b5 b6 b7 b8 b9 w m3 (by omega) (by omega) (by omega) h3
  have l (r : RV) (h : chkB r = true) : (ruT r).length ≤ 200 := by rw [(rt_yes h).1]; exact (ruF_pl h).2.1
  have back (r : RV) (h : chkB r = true) : Fds.splitR (ruT r) = (ruF r, 0) ∧ ruP (ruF r) = (0, r) := by
    obtain ⟨p1, p2, _⟩ := ruF_pl h
    exact ⟨by rw [(rt_yes h).1]; exact split_join _ p1 (by omega), ruP_back h⟩
  cases ca : chkB ⟨na, a1, a2, a3, a4, a5, a6, a7, a8, a9, la⟩ with
  | false =>
    cases cb : chkB ⟨nb, b1, b2, b3, b4, b5, b6, b7, b8, b9, lb⟩ with
    | false => exact rb_nn na la nb lb a1 a2 a3 a4 a5 a6 a7 a8 a9 b1 b2 b3 b4 b5 b6 b7 b8 b9 [] [] w hp hm (by omega) (by omega) (by omega) (by omega) (Lib.hid (rt_no ca)) (Lib.hid (rt_no cb)) (by simp) (by simp)
    | true => exact rb_ny na la nb lb a1 a2 a3 a4 a5 a6 a7 a8 a9 b1 b2 b3 b4 b5 b6 b7 b8 b9 [] _ w hp hm (by omega) (by omega) (by omega) (by omega) (Lib.hid (rt_no ca)) (Lib.hid ⟨rfl, (rt_yes cb).2⟩) (by simp) (l _ cb)
  | true =>
    cases cb : chkB ⟨nb, b1, b2, b3, b4, b5, b6, b7, b8, b9, lb⟩ with
    | false => exact rb_yn na la nb lb a1 a2 a3 a4 a5 a6 a7 a8 a9 b1 b2 b3 b4 b5 b6 b7 b8 b9 _ [] w hp hm (by omega) (by omega) (by omega) (by omega) (Lib.hid ⟨rfl, (rt_yes ca).2⟩) (Lib.hid (rt_no cb)) (l _ ca) (by simp)
    | true =>
      have h8 : ∀ t ∈ ruF ⟨na, a1, a2, a3, a4, a5, a6, a7, a8, a9, la⟩, t.length ≤ 1000 := fun t ht => by have := (ruF_pl ca).2.2 t ht; omega
      by_cases hab : (⟨na, a1, a2, a3, a4, a5, a6, a7, a8, a9, la⟩ : RV) = ⟨nb, b1, b2, b3, b4, b5, b6, b7, b8, b9, lb⟩
      · injection hab with e0 e1 e2 e3 e4 e5 e6 e7 e8 e9 e10
        subst e0 e1 e2 e3 e4 e5 e6 e7 e8 e9 e10
        exact rb_eq na la a1 a2 a3 a4 a5 a6 a7 a8 a9 _ w hp hm (by omega) (by omega) (Lib.hid ⟨rfl, (rt_yes ca).2⟩) (l _ ca) (Lib.hid (back _ ca).1) (Lib.hid (back _ ca).2) (Lib.hid h8)
      · refine rb_ne na la nb lb a1 a2 a3 a4 a5 a6 a7 a8 a9 b1 b2 b3 b4 b5 b6 b7 b8 b9 _ _ w hp hm (by omega) (by omega) (by omega) (by omega) (Lib.hid ⟨rfl, (rt_yes ca).2⟩) (l _ ca) (Lib.hid ⟨rfl, (rt_yes cb).2⟩) (l _ cb) (Lib.hid (back _ ca).1) (Lib.hid (back _ ca).2) (Lib.hid h8) (Lib.hid hab) (beq_eq_false_iff_ne.2 fun e => hab ?_)
        have q1 := (back _ ca).1
        rw [e, (back _ cb).1] at q1
        have q2 := (back _ ca).2
        rw [← (Prod.mk.inj q1).1, (back _ cb).2] at q2
        exact (Prod.mk.inj q2).2.symm
end Rul
end Go.Proofs.YtpcnpacllkiieaaGreatDoor
