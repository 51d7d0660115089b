/-
  ZoneBack: what is written of an era is read; unlike eras have unlike texts. (Written by gen/gen_zonk.py.)
-/
import Derived.Test.YtpcnpacllkiieaaGreatDoorZonW
namespace Go.Proofs.YtpcnpacllkiieaaGreatDoor
open Go.RowKit
namespace Zon
open Sol Clk Cel Rul
def Unlike (a b : EV) : Prop := a ≠ b
set_option maxHeartbeats 3200000 in
set_option maxRecDepth 100000 in
theorem hev_no (st kd sv yr mo k v d n c : Int) (ru fm : List UInt8) (un : Bool) (w : World) (h1 : ru.length ≤ 200) (h2 : fm.length ≤ 200) :
    Calls Tryz.prog 30 #[.agg #[.int .i64 st, .int .i64 kd, .int .i64 sv, .string ⟨ru.toArray⟩, .string ⟨fm.toArray⟩, .bool un, .int .i64 yr, .int .i64 mo, .int .i64 k, .int .i64 v, .int .i64 d, .int .i64 n, .int .i64 c]] w fun e w' => e = .returned (.bool false) ∧ Below w.heap.size w w' := by
  have s1 : (⟨ru.toArray⟩ : ByteArray).size = ru.length := rfl
  have s2 : (⟨fm.toArray⟩ : ByteArray).size = fm.length := rfl
  go_enter Tryz.func30, Tryz.ntmps30
  go_wp2
  go_ret
  exact ⟨by first | rfl | exact ret_b (by simp <;> omega), by repeat (first | with_reducible exact Below.refl _ _ | refine Below.drew ?_ | refine Below.alloc ?_ (by simp; try omega) _)⟩
set_option maxHeartbeats 3200000 in
set_option maxRecDepth 100000 in
theorem hev_ru (st kd sv yr mo k v d n c : Int) (ru fm : List UInt8) (un : Bool) (w : World) (m : ru.length ≤ maxLen) (h1 : 200 < ru.length) :
    Calls Tryz.prog 30 #[.agg #[.int .i64 st, .int .i64 kd, .int .i64 sv, .string ⟨ru.toArray⟩, .string ⟨fm.toArray⟩, .bool un, .int .i64 yr, .int .i64 mo, .int .i64 k, .int .i64 v, .int .i64 d, .int .i64 n, .int .i64 c]] w fun e w' => e = .returned (.bool true) ∧ Below w.heap.size w w' := by
  unfold maxLen at m
  have s1 : (⟨ru.toArray⟩ : ByteArray).size = ru.length := rfl
  have s2 : (⟨fm.toArray⟩ : ByteArray).size = fm.length := rfl
  go_enter Tryz.func30, Tryz.ntmps30
  go_wp2
  go_ret
  exact ⟨by first | rfl | exact ret_b (by simp <;> omega), by repeat (first | with_reducible exact Below.refl _ _ | refine Below.drew ?_ | refine Below.alloc ?_ (by simp; try omega) _)⟩
set_option maxHeartbeats 3200000 in
set_option maxRecDepth 100000 in
theorem hev_fm (st kd sv yr mo k v d n c : Int) (ru fm : List UInt8) (un : Bool) (w : World) (m : fm.length ≤ maxLen) (h1 : ru.length ≤ 200) (h2 : 200 < fm.length) :
    Calls Tryz.prog 30 #[.agg #[.int .i64 st, .int .i64 kd, .int .i64 sv, .string ⟨ru.toArray⟩, .string ⟨fm.toArray⟩, .bool un, .int .i64 yr, .int .i64 mo, .int .i64 k, .int .i64 v, .int .i64 d, .int .i64 n, .int .i64 c]] w fun e w' => e = .returned (.bool true) ∧ Below w.heap.size w w' := by
  unfold maxLen at m
  have s1 : (⟨ru.toArray⟩ : ByteArray).size = ru.length := rfl
  have s2 : (⟨fm.toArray⟩ : ByteArray).size = fm.length := rfl
  go_enter Tryz.func30, Tryz.ntmps30
  go_wp2
  go_ret
  exact ⟨by first | rfl | exact ret_b (by simp <;> omega), by repeat (first | with_reducible exact Below.refl _ _ | refine Below.drew ?_ | refine Below.alloc ?_ (by simp; try omega) _)⟩
theorem hev_yes (st kd sv yr mo k v d n c : Int) (ru fm : List UInt8) (un : Bool) (w : World) (m1 : ru.length ≤ maxLen) (m2 : fm.length ≤ maxLen) (h : ¬ (ru.length ≤ 200 ∧ fm.length ≤ 200)) :
    Calls Tryz.prog 30 #[.agg #[.int .i64 st, .int .i64 kd, .int .i64 sv, .string ⟨ru.toArray⟩, .string ⟨fm.toArray⟩, .bool un, .int .i64 yr, .int .i64 mo, .int .i64 k, .int .i64 v, .int .i64 d, .int .i64 n, .int .i64 c]] w fun e w' => e = .returned (.bool true) ∧ Below w.heap.size w w' := by
  by_cases h1 : 200 < ru.length
  · exact hev_ru st kd sv yr mo k v d n c ru fm un w m1 h1
  · exact hev_fm st kd sv yr mo k v d n c ru fm un w m2 (by omega) (by omega)
set_option maxHeartbeats 12800000 in
set_option maxRecDepth 100000 in
theorem zb_big0 (ast akd asv ayr amo ak av ad an ac : Int) (aru afm : List UInt8) (aun : Bool) (bst bkd bsv byr bmo bk bv bd bn bc : Int) (bru bfm : List UInt8) (bun : Bool) (w : World) (m1 : aru.length ≤ maxLen) (m2 : afm.length ≤ maxLen) (h : ¬ (aru.length ≤ 200 ∧ afm.length ≤ 200)) :
    Calls Tryz.prog 8 #[.agg #[.int .i64 ast, .int .i64 akd, .int .i64 asv, .string ⟨aru.toArray⟩, .string ⟨afm.toArray⟩, .bool aun, .int .i64 ayr, .int .i64 amo, .int .i64 ak, .int .i64 av, .int .i64 ad, .int .i64 an, .int .i64 ac], .agg #[.int .i64 bst, .int .i64 bkd, .int .i64 bsv, .string ⟨bru.toArray⟩, .string ⟨bfm.toArray⟩, .bool bun, .int .i64 byr, .int .i64 bmo, .int .i64 bk, .int .i64 bv, .int .i64 bd, .int .i64 bn, .int .i64 bc]] w fun e w' => e = .returned (.bool true) ∧ Below w.heap.size w w' := by
  have HV := Lib.hid (fun W => hev_yes ast akd asv ayr amo ak av ad an ac aru afm aun W m1 m2 h)
  clear m1 m2 h
  go_enter Tryz.func8, Tryz.ntmps8
  go_wp2_with fail
  refine (HV.out _).mono ?_
  rintro e w0 ⟨rfl, b0'⟩
  go_wp2
  go_ret
  exact ⟨rfl, bstep (show Below w.heap.size w _ from (by repeat (first | with_reducible exact Below.refl _ _ | refine Below.drew ?_ | refine Below.alloc ?_ (by simp; try omega) _))) b0'⟩
set_option maxHeartbeats 12800000 in
set_option maxRecDepth 100000 in
theorem zb_big1 (ast akd asv ayr amo ak av ad an ac : Int) (aru afm : List UInt8) (aun : Bool) (bst bkd bsv byr bmo bk bv bd bn bc : Int) (bru bfm : List UInt8) (bun : Bool) (w : World) (ha : Hid (aru.length ≤ 200 ∧ afm.length ≤ 200)) (m1 : bru.length ≤ maxLen) (m2 : bfm.length ≤ maxLen) (h : ¬ (bru.length ≤ 200 ∧ bfm.length ≤ 200)) :
    Calls Tryz.prog 8 #[.agg #[.int .i64 ast, .int .i64 akd, .int .i64 asv, .string ⟨aru.toArray⟩, .string ⟨afm.toArray⟩, .bool aun, .int .i64 ayr, .int .i64 amo, .int .i64 ak, .int .i64 av, .int .i64 ad, .int .i64 an, .int .i64 ac], .agg #[.int .i64 bst, .int .i64 bkd, .int .i64 bsv, .string ⟨bru.toArray⟩, .string ⟨bfm.toArray⟩, .bool bun, .int .i64 byr, .int .i64 bmo, .int .i64 bk, .int .i64 bv, .int .i64 bd, .int .i64 bn, .int .i64 bc]] w fun e w' => e = .returned (.bool true) ∧ Below w.heap.size w w' := by
  have HV := Lib.hid (fun W => hev_yes bst bkd bsv byr bmo bk bv bd bn bc bru bfm bun W m1 m2 h)
  clear m1 m2 h
  go_enter Tryz.func8, Tryz.ntmps8
  go_wp2_with fail
  refine (hev_no ast akd asv ayr amo ak av ad an ac aru afm aun _ ha.out.1 ha.out.2).mono ?_
  rintro e w0 ⟨rfl, b0'⟩
  have B0 := Lib.hid (bstep (show Below w.heap.size w _ from (by repeat (first | with_reducible exact Below.refl _ _ | refine Below.drew ?_ | refine Below.alloc ?_ (by simp; try omega) _))) b0')
  have CA0 := Lib.hid (Cs.below ((Cs.new w [.int .i64 ast, .int .i64 akd, .int .i64 asv, .string ⟨aru.toArray⟩, .string ⟨afm.toArray⟩, .bool aun, .int .i64 ayr, .int .i64 amo, .int .i64 ak, .int .i64 av, .int .i64 ad, .int .i64 an, .int .i64 ac] 54).alloc (Obj.cells #[.int .i64 bst, .int .i64 bkd, .int .i64 bsv, .string ⟨bru.toArray⟩, .string ⟨bfm.toArray⟩, .bool bun, .int .i64 byr, .int .i64 bmo, .int .i64 bk, .int .i64 bv, .int .i64 bd, .int .i64 bn, .int .i64 bc] 54)) b0')
  have eS : (w.alloc (Obj.cells #[.int .i64 ast, .int .i64 akd, .int .i64 asv, .string ⟨aru.toArray⟩, .string ⟨afm.toArray⟩, .bool aun, .int .i64 ayr, .int .i64 amo, .int .i64 ak, .int .i64 av, .int .i64 ad, .int .i64 an, .int .i64 ac] 54)).heap.size = w.heap.size + 1 := by simp
  have CB0' := Cs.new (w.alloc (Obj.cells #[.int .i64 ast, .int .i64 akd, .int .i64 asv, .string ⟨aru.toArray⟩, .string ⟨afm.toArray⟩, .bool aun, .int .i64 ayr, .int .i64 amo, .int .i64 ak, .int .i64 av, .int .i64 ad, .int .i64 an, .int .i64 ac] 54)) [.int .i64 bst, .int .i64 bkd, .int .i64 bsv, .string ⟨bru.toArray⟩, .string ⟨bfm.toArray⟩, .bool bun, .int .i64 byr, .int .i64 bmo, .int .i64 bk, .int .i64 bv, .int .i64 bd, .int .i64 bn, .int .i64 bc] 54
  rw [eS] at CB0'
  have CB0 := Lib.hid (Cs.below CB0' b0')
  clear b0' CB0' eS
  have z0 := (CB0.out.2 0 _ rfl).1
  have z1 := (CB0.out.2 1 _ rfl).1
  have z2 := (CB0.out.2 2 _ rfl).1
  have z3 := (CB0.out.2 3 _ rfl).1
  have z4 := (CB0.out.2 4 _ rfl).1
  have z5 := (CB0.out.2 5 _ rfl).1
  have z6 := (CB0.out.2 6 _ rfl).1
  have z7 := (CB0.out.2 7 _ rfl).1
  have z8 := (CB0.out.2 8 _ rfl).1
  have z9 := (CB0.out.2 9 _ rfl).1
  have z10 := (CB0.out.2 10 _ rfl).1
  have z11 := (CB0.out.2 11 _ rfl).1
  have z12 := (CB0.out.2 12 _ rfl).1
  go_wp2_with fail
  refine (HV.out _).mono ?_
  rintro e w1 ⟨rfl, b1'⟩
  go_wp2
  go_ret
  exact ⟨rfl, bstep B0.out b1'⟩
set_option maxHeartbeats 12800000 in
set_option maxRecDepth 100000 in
theorem zb_nn (ast akd asv ayr amo ak av ad an ac : Int) (aru afm : List UInt8) (aun : Bool) (bst bkd bsv byr bmo bk bv bd bn bc : Int) (bru bfm : List UInt8) (bun : Bool) (TA TB : List UInt8) (w : World) (hp : Pow w) (hA : Civ.Ahead w) (hm : Wrd.MaxL w) (ha : Hid (aru.length ≤ 200 ∧ afm.length ≤ 200)) (hb : Hid (bru.length ≤ 200 ∧ bfm.length ≤ 200)) (HA : Hid (erT ⟨ast, akd, asv, aru, afm, aun, ayr, amo, ak, av, ad, an, ac⟩ = [] ∧ erE ⟨ast, akd, asv, aru, afm, aun, ayr, amo, ak, av, ad, an, ac⟩ = 11)) (HB : Hid (erT ⟨bst, bkd, bsv, bru, bfm, bun, byr, bmo, bk, bv, bd, bn, bc⟩ = [] ∧ erE ⟨bst, bkd, bsv, bru, bfm, bun, byr, bmo, bk, bv, bd, bn, bc⟩ = 11)) (_lA : TA.length ≤ 300) (_lB : TB.length ≤ 300) :
    Calls Tryz.prog 8 #[.agg #[.int .i64 ast, .int .i64 akd, .int .i64 asv, .string ⟨aru.toArray⟩, .string ⟨afm.toArray⟩, .bool aun, .int .i64 ayr, .int .i64 amo, .int .i64 ak, .int .i64 av, .int .i64 ad, .int .i64 an, .int .i64 ac], .agg #[.int .i64 bst, .int .i64 bkd, .int .i64 bsv, .string ⟨bru.toArray⟩, .string ⟨bfm.toArray⟩, .bool bun, .int .i64 byr, .int .i64 bmo, .int .i64 bk, .int .i64 bv, .int .i64 bd, .int .i64 bn, .int .i64 bc]] w fun e w' => e = .returned (.bool true) ∧ Below w.heap.size w w' := by
  have HP := Lib.hid hp
  have HA' := Lib.hid hA
  have HM := Lib.hid hm
  clear hp hm hA
  have sTA : (⟨TA.toArray⟩ : ByteArray).size = TA.length := rfl
  have sTB : (⟨TB.toArray⟩ : ByteArray).size = TB.length := rfl
  go_enter Tryz.func8, Tryz.ntmps8
  go_wp2_with fail
  refine (hev_no ast akd asv ayr amo ak av ad an ac aru afm aun _ ha.out.1 ha.out.2).mono ?_
  rintro e w0 ⟨rfl, b0'⟩
  have B0 := Lib.hid (bstep (show Below w.heap.size w _ from (by repeat (first | with_reducible exact Below.refl _ _ | refine Below.drew ?_ | refine Below.alloc ?_ (by simp; try omega) _))) b0')
  have CA0 := Lib.hid (Cs.below ((Cs.new w [.int .i64 ast, .int .i64 akd, .int .i64 asv, .string ⟨aru.toArray⟩, .string ⟨afm.toArray⟩, .bool aun, .int .i64 ayr, .int .i64 amo, .int .i64 ak, .int .i64 av, .int .i64 ad, .int .i64 an, .int .i64 ac] 54).alloc (Obj.cells #[.int .i64 bst, .int .i64 bkd, .int .i64 bsv, .string ⟨bru.toArray⟩, .string ⟨bfm.toArray⟩, .bool bun, .int .i64 byr, .int .i64 bmo, .int .i64 bk, .int .i64 bv, .int .i64 bd, .int .i64 bn, .int .i64 bc] 54)) b0')
  have eS : (w.alloc (Obj.cells #[.int .i64 ast, .int .i64 akd, .int .i64 asv, .string ⟨aru.toArray⟩, .string ⟨afm.toArray⟩, .bool aun, .int .i64 ayr, .int .i64 amo, .int .i64 ak, .int .i64 av, .int .i64 ad, .int .i64 an, .int .i64 ac] 54)).heap.size = w.heap.size + 1 := by simp
  have CB0' := Cs.new (w.alloc (Obj.cells #[.int .i64 ast, .int .i64 akd, .int .i64 asv, .string ⟨aru.toArray⟩, .string ⟨afm.toArray⟩, .bool aun, .int .i64 ayr, .int .i64 amo, .int .i64 ak, .int .i64 av, .int .i64 ad, .int .i64 an, .int .i64 ac] 54)) [.int .i64 bst, .int .i64 bkd, .int .i64 bsv, .string ⟨bru.toArray⟩, .string ⟨bfm.toArray⟩, .bool bun, .int .i64 byr, .int .i64 bmo, .int .i64 bk, .int .i64 bv, .int .i64 bd, .int .i64 bn, .int .i64 bc] 54
  rw [eS] at CB0'
  have CB0 := Lib.hid (Cs.below CB0' b0')
  clear b0' CB0' eS
  have z0 := (CB0.out.2 0 _ rfl).1
  have z1 := (CB0.out.2 1 _ rfl).1
  have z2 := (CB0.out.2 2 _ rfl).1
  have z3 := (CB0.out.2 3 _ rfl).1
  have z4 := (CB0.out.2 4 _ rfl).1
  have z5 := (CB0.out.2 5 _ rfl).1
  have z6 := (CB0.out.2 6 _ rfl).1
  have z7 := (CB0.out.2 7 _ rfl).1
  have z8 := (CB0.out.2 8 _ rfl).1
  have z9 := (CB0.out.2 9 _ rfl).1
  have z10 := (CB0.out.2 10 _ rfl).1
  have z11 := (CB0.out.2 11 _ rfl).1
  have z12 := (CB0.out.2 12 _ rfl).1
  go_wp2_with fail
  refine (hev_no bst bkd bsv byr bmo bk bv bd bn bc bru bfm bun _ hb.out.1 hb.out.2).mono ?_
  rintro e w1 ⟨rfl, b1'⟩
  have B1 := Lib.hid (bstep B0.out b1')
  have CA1 := Lib.hid (CA0.out.below b1')
  have CB1 := Lib.hid (CB0.out.below b1')
  clear b1' CA0 CB0
  clear z0 z1 z2 z3 z4 z5 z6 z7 z8 z9 z10 z11 z12
  have z0 := (CA1.out.2 0 _ rfl).1
  have z1 := (CA1.out.2 1 _ rfl).1
  have z2 := (CA1.out.2 2 _ rfl).1
  have z3 := (CA1.out.2 3 _ rfl).1
  have z4 := (CA1.out.2 4 _ rfl).1
  have z5 := (CA1.out.2 5 _ rfl).1
  have z6 := (CA1.out.2 6 _ rfl).1
  have z7 := (CA1.out.2 7 _ rfl).1
  have z8 := (CA1.out.2 8 _ rfl).1
  have z9 := (CA1.out.2 9 _ rfl).1
  have z10 := (CA1.out.2 10 _ rfl).1
  have z11 := (CA1.out.2 11 _ rfl).1
  have z12 := (CA1.out.2 12 _ rfl).1
  go_wp2_with fail
  refine (ztx_to ast akd asv aru afm aun ayr amo ak av ad an ac [] 11 _ (HP.out.stays B1.out) (HA'.out.stays B1.out) (HM.out.stays B1.out) (Nat.le_trans ha.out.1 (by decide)) (Nat.le_trans ha.out.2 (by decide)) HA).mono ?_
  rintro e w2 ⟨rfl, b2'⟩
  have B2 := Lib.hid (bstep B1.out b2')
  have CA2 := Lib.hid (CA1.out.below b2')
  have CB2 := Lib.hid (CB1.out.below b2')
  clear b2' CA1 CB1
  clear z0 z1 z2 z3 z4 z5 z6 z7 z8 z9 z10 z11 z12
  have z0 := (CB2.out.2 0 _ rfl).1
  have z1 := (CB2.out.2 1 _ rfl).1
  have z2 := (CB2.out.2 2 _ rfl).1
  have z3 := (CB2.out.2 3 _ rfl).1
  have z4 := (CB2.out.2 4 _ rfl).1
  have z5 := (CB2.out.2 5 _ rfl).1
  have z6 := (CB2.out.2 6 _ rfl).1
  have z7 := (CB2.out.2 7 _ rfl).1
  have z8 := (CB2.out.2 8 _ rfl).1
  have z9 := (CB2.out.2 9 _ rfl).1
  have z10 := (CB2.out.2 10 _ rfl).1
  have z11 := (CB2.out.2 11 _ rfl).1
  have z12 := (CB2.out.2 12 _ rfl).1
  go_wp2_with fail
  refine (ztx_to bst bkd bsv bru bfm bun byr bmo bk bv bd bn bc [] 11 _ (HP.out.stays B2.out) (HA'.out.stays B2.out) (HM.out.stays B2.out) (Nat.le_trans hb.out.1 (by decide)) (Nat.le_trans hb.out.2 (by decide)) HB).mono ?_
  rintro e w3 ⟨rfl, b3'⟩
  have B3 := Lib.hid (bstep B2.out b3')
  have CA3 := Lib.hid (CA2.out.below b3')
  have CB3 := Lib.hid (CB2.out.below b3')
  clear b3' CA2 CB2
  clear z0 z1 z2 z3 z4 z5 z6 z7 z8 z9 z10 z11 z12
  go_wp2_with fail
  refine (wakes10_any _ (HP.out.stays B3.out) (HA'.out.stays B3.out) (HM.out.stays B3.out)).mono ?_
  rintro e w9 ⟨rfl, b9'⟩
  go_wp2
  go_ret
  exact ⟨rfl, bstep B3.out b9'⟩
set_option maxHeartbeats 12800000 in
set_option maxRecDepth 100000 in
theorem zb_ny (ast akd asv ayr amo ak av ad an ac : Int) (aru afm : List UInt8) (aun : Bool) (bst bkd bsv byr bmo bk bv bd bn bc : Int) (bru bfm : List UInt8) (bun : Bool) (TA TB : List UInt8) (w : World) (hp : Pow w) (hA : Civ.Ahead w) (hm : Wrd.MaxL w) (ha : Hid (aru.length ≤ 200 ∧ afm.length ≤ 200)) (hb : Hid (bru.length ≤ 200 ∧ bfm.length ≤ 200)) (HA : Hid (erT ⟨ast, akd, asv, aru, afm, aun, ayr, amo, ak, av, ad, an, ac⟩ = [] ∧ erE ⟨ast, akd, asv, aru, afm, aun, ayr, amo, ak, av, ad, an, ac⟩ = 11)) (HB : Hid (erT ⟨bst, bkd, bsv, bru, bfm, bun, byr, bmo, bk, bv, bd, bn, bc⟩ = TB ∧ erE ⟨bst, bkd, bsv, bru, bfm, bun, byr, bmo, bk, bv, bd, bn, bc⟩ = 0)) (_lA : TA.length ≤ 300) (_lB : TB.length ≤ 300) :
    Calls Tryz.prog 8 #[.agg #[.int .i64 ast, .int .i64 akd, .int .i64 asv, .string ⟨aru.toArray⟩, .string ⟨afm.toArray⟩, .bool aun, .int .i64 ayr, .int .i64 amo, .int .i64 ak, .int .i64 av, .int .i64 ad, .int .i64 an, .int .i64 ac], .agg #[.int .i64 bst, .int .i64 bkd, .int .i64 bsv, .string ⟨bru.toArray⟩, .string ⟨bfm.toArray⟩, .bool bun, .int .i64 byr, .int .i64 bmo, .int .i64 bk, .int .i64 bv, .int .i64 bd, .int .i64 bn, .int .i64 bc]] w fun e w' => e = .returned (.bool true) ∧ Below w.heap.size w w' := by
  have HP := Lib.hid hp
  have HA' := Lib.hid hA
  have HM := Lib.hid hm
  clear hp hm hA
  have sTA : (⟨TA.toArray⟩ : ByteArray).size = TA.length := rfl
  have sTB : (⟨TB.toArray⟩ : ByteArray).size = TB.length := rfl
  go_enter Tryz.func8, Tryz.ntmps8
  go_wp2_with fail
  refine (hev_no ast akd asv ayr amo ak av ad an ac aru afm aun _ ha.out.1 ha.out.2).mono ?_
  rintro e w0 ⟨rfl, b0'⟩
  have B0 := Lib.hid (bstep (show Below w.heap.size w _ from (by repeat (first | with_reducible exact Below.refl _ _ | refine Below.drew ?_ | refine Below.alloc ?_ (by simp; try omega) _))) b0')
  have CA0 := Lib.hid (Cs.below ((Cs.new w [.int .i64 ast, .int .i64 akd, .int .i64 asv, .string ⟨aru.toArray⟩, .string ⟨afm.toArray⟩, .bool aun, .int .i64 ayr, .int .i64 amo, .int .i64 ak, .int .i64 av, .int .i64 ad, .int .i64 an, .int .i64 ac] 54).alloc (Obj.cells #[.int .i64 bst, .int .i64 bkd, .int .i64 bsv, .string ⟨bru.toArray⟩, .string ⟨bfm.toArray⟩, .bool bun, .int .i64 byr, .int .i64 bmo, .int .i64 bk, .int .i64 bv, .int .i64 bd, .int .i64 bn, .int .i64 bc] 54)) b0')
  have eS : (w.alloc (Obj.cells #[.int .i64 ast, .int .i64 akd, .int .i64 asv, .string ⟨aru.toArray⟩, .string ⟨afm.toArray⟩, .bool aun, .int .i64 ayr, .int .i64 amo, .int .i64 ak, .int .i64 av, .int .i64 ad, .int .i64 an, .int .i64 ac] 54)).heap.size = w.heap.size + 1 := by simp
  have CB0' := Cs.new (w.alloc (Obj.cells #[.int .i64 ast, .int .i64 akd, .int .i64 asv, .string ⟨aru.toArray⟩, .string ⟨afm.toArray⟩, .bool aun, .int .i64 ayr, .int .i64 amo, .int .i64 ak, .int .i64 av, .int .i64 ad, .int .i64 an, .int .i64 ac] 54)) [.int .i64 bst, .int .i64 bkd, .int .i64 bsv, .string ⟨bru.toArray⟩, .string ⟨bfm.toArray⟩, .bool bun, .int .i64 byr, .int .i64 bmo, .int .i64 bk, .int .i64 bv, .int .i64 bd, .int .i64 bn, .int .i64 bc] 54
  rw [eS] at CB0'
  have CB0 := Lib.hid (Cs.below CB0' b0')
  clear b0' CB0' eS
  have z0 := (CB0.out.2 0 _ rfl).1
  have z1 := (CB0.out.2 1 _ rfl).1
  have z2 := (CB0.out.2 2 _ rfl).1
  have z3 := (CB0.out.2 3 _ rfl).1
  have z4 := (CB0.out.2 4 _ rfl).1
  have z5 := (CB0.out.2 5 _ rfl).1
  have z6 := (CB0.out.2 6 _ rfl).1
  have z7 := (CB0.out.2 7 _ rfl).1
  have z8 := (CB0.out.2 8 _ rfl).1
  have z9 := (CB0.out.2 9 _ rfl).1
  have z10 := (CB0.out.2 10 _ rfl).1
  have z11 := (CB0.out.2 11 _ rfl).1
  have z12 := (CB0.out.2 12 _ rfl).1
  go_wp2_with fail
  refine (hev_no bst bkd bsv byr bmo bk bv bd bn bc bru bfm bun _ hb.out.1 hb.out.2).mono ?_
  rintro e w1 ⟨rfl, b1'⟩
  have B1 := Lib.hid (bstep B0.out b1')
  have CA1 := Lib.hid (CA0.out.below b1')
  have CB1 := Lib.hid (CB0.out.below b1')
  clear b1' CA0 CB0
  clear z0 z1 z2 z3 z4 z5 z6 z7 z8 z9 z10 z11 z12
  have z0 := (CA1.out.2 0 _ rfl).1
  have z1 := (CA1.out.2 1 _ rfl).1
  have z2 := (CA1.out.2 2 _ rfl).1
  have z3 := (CA1.out.2 3 _ rfl).1
  have z4 := (CA1.out.2 4 _ rfl).1
  have z5 := (CA1.out.2 5 _ rfl).1
  have z6 := (CA1.out.2 6 _ rfl).1
  have z7 := (CA1.out.2 7 _ rfl).1
  have z8 := (CA1.out.2 8 _ rfl).1
  have z9 := (CA1.out.2 9 _ rfl).1
  have z10 := (CA1.out.2 10 _ rfl).1
  have z11 := (CA1.out.2 11 _ rfl).1
  have z12 := (CA1.out.2 12 _ rfl).1
  go_wp2_with fail
  refine (ztx_to ast akd asv aru afm aun ayr amo ak av ad an ac [] 11 _ (HP.out.stays B1.out) (HA'.out.stays B1.out) (HM.out.stays B1.out) (Nat.le_trans ha.out.1 (by decide)) (Nat.le_trans ha.out.2 (by decide)) HA).mono ?_
  rintro e w2 ⟨rfl, b2'⟩
  have B2 := Lib.hid (bstep B1.out b2')
  have CA2 := Lib.hid (CA1.out.below b2')
  have CB2 := Lib.hid (CB1.out.below b2')
  clear b2' CA1 CB1
  clear z0 z1 z2 z3 z4 z5 z6 z7 z8 z9 z10 z11 z12
  have z0 := (CB2.out.2 0 _ rfl).1
  have z1 := (CB2.out.2 1 _ rfl).1
  have z2 := (CB2.out.2 2 _ rfl).1
  have z3 := (CB2.out.2 3 _ rfl).1
  have z4 := (CB2.out.2 4 _ rfl).1
  have z5 := (CB2.out.2 5 _ rfl).1
  have z6 := (CB2.out.2 6 _ rfl).1
  have z7 := (CB2.out.2 7 _ rfl).1
  have z8 := (CB2.out.2 8 _ rfl).1
  have z9 := (CB2.out.2 9 _ rfl).1
  have z10 := (CB2.out.2 10 _ rfl).1
  have z11 := (CB2.out.2 11 _ rfl).1
  have z12 := (CB2.out.2 12 _ rfl).1
  go_wp2_with fail
  refine (ztx_to bst bkd bsv bru bfm bun byr bmo bk bv bd bn bc TB 0 _ (HP.out.stays B2.out) (HA'.out.stays B2.out) (HM.out.stays B2.out) (Nat.le_trans hb.out.1 (by decide)) (Nat.le_trans hb.out.2 (by decide)) HB).mono ?_
  rintro e w3 ⟨rfl, b3'⟩
  have B3 := Lib.hid (bstep B2.out b3')
  have CA3 := Lib.hid (CA2.out.below b3')
  have CB3 := Lib.hid (CB2.out.below b3')
  clear b3' CA2 CB2
  clear z0 z1 z2 z3 z4 z5 z6 z7 z8 z9 z10 z11 z12
  go_wp2_with fail
  refine (wakes10_any _ (HP.out.stays B3.out) (HA'.out.stays B3.out) (HM.out.stays B3.out)).mono ?_
  rintro e w9 ⟨rfl, b9'⟩
  go_wp2
  go_ret
  exact ⟨rfl, bstep B3.out b9'⟩
set_option maxHeartbeats 12800000 in
set_option maxRecDepth 100000 in
theorem zb_yn (ast akd asv ayr amo ak av ad an ac : Int) (aru afm : List UInt8) (aun : Bool) (bst bkd bsv byr bmo bk bv bd bn bc : Int) (bru bfm : List UInt8) (bun : Bool) (TA TB : List UInt8) (w : World) (hp : Pow w) (hA : Civ.Ahead w) (hm : Wrd.MaxL w) (ha : Hid (aru.length ≤ 200 ∧ afm.length ≤ 200)) (hb : Hid (bru.length ≤ 200 ∧ bfm.length ≤ 200)) (HA : Hid (erT ⟨ast, akd, asv, aru, afm, aun, ayr, amo, ak, av, ad, an, ac⟩ = TA ∧ erE ⟨ast, akd, asv, aru, afm, aun, ayr, amo, ak, av, ad, an, ac⟩ = 0)) (HB : Hid (erT ⟨bst, bkd, bsv, bru, bfm, bun, byr, bmo, bk, bv, bd, bn, bc⟩ = [] ∧ erE ⟨bst, bkd, bsv, bru, bfm, bun, byr, bmo, bk, bv, bd, bn, bc⟩ = 11)) (_lA : TA.length ≤ 300) (_lB : TB.length ≤ 300) :
    Calls Tryz.prog 8 #[.agg #[.int .i64 ast, .int .i64 akd, .int .i64 asv, .string ⟨aru.toArray⟩, .string ⟨afm.toArray⟩, .bool aun, .int .i64 ayr, .int .i64 amo, .int .i64 ak, .int .i64 av, .int .i64 ad, .int .i64 an, .int .i64 ac], .agg #[.int .i64 bst, .int .i64 bkd, .int .i64 bsv, .string ⟨bru.toArray⟩, .string ⟨bfm.toArray⟩, .bool bun, .int .i64 byr, .int .i64 bmo, .int .i64 bk, .int .i64 bv, .int .i64 bd, .int .i64 bn, .int .i64 bc]] w fun e w' => e = .returned (.bool true) ∧ Below w.heap.size w w' := by
  have HP := Lib.hid hp
  have HA' := Lib.hid hA
  have HM := Lib.hid hm
  clear hp hm hA
  have sTA : (⟨TA.toArray⟩ : ByteArray).size = TA.length := rfl
  have sTB : (⟨TB.toArray⟩ : ByteArray).size = TB.length := rfl
  go_enter Tryz.func8, Tryz.ntmps8
  go_wp2_with fail
  refine (hev_no ast akd asv ayr amo ak av ad an ac aru afm aun _ ha.out.1 ha.out.2).mono ?_
  rintro e w0 ⟨rfl, b0'⟩
  have B0 := Lib.hid (bstep (show Below w.heap.size w _ from (by repeat (first | with_reducible exact Below.refl _ _ | refine Below.drew ?_ | refine Below.alloc ?_ (by simp; try omega) _))) b0')
  have CA0 := Lib.hid (Cs.below ((Cs.new w [.int .i64 ast, .int .i64 akd, .int .i64 asv, .string ⟨aru.toArray⟩, .string ⟨afm.toArray⟩, .bool aun, .int .i64 ayr, .int .i64 amo, .int .i64 ak, .int .i64 av, .int .i64 ad, .int .i64 an, .int .i64 ac] 54).alloc (Obj.cells #[.int .i64 bst, .int .i64 bkd, .int .i64 bsv, .string ⟨bru.toArray⟩, .string ⟨bfm.toArray⟩, .bool bun, .int .i64 byr, .int .i64 bmo, .int .i64 bk, .int .i64 bv, .int .i64 bd, .int .i64 bn, .int .i64 bc] 54)) b0')
  have eS : (w.alloc (Obj.cells #[.int .i64 ast, .int .i64 akd, .int .i64 asv, .string ⟨aru.toArray⟩, .string ⟨afm.toArray⟩, .bool aun, .int .i64 ayr, .int .i64 amo, .int .i64 ak, .int .i64 av, .int .i64 ad, .int .i64 an, .int .i64 ac] 54)).heap.size = w.heap.size + 1 := by simp
  have CB0' := Cs.new (w.alloc (Obj.cells #[.int .i64 ast, .int .i64 akd, .int .i64 asv, .string ⟨aru.toArray⟩, .string ⟨afm.toArray⟩, .bool aun, .int .i64 ayr, .int .i64 amo, .int .i64 ak, .int .i64 av, .int .i64 ad, .int .i64 an, .int .i64 ac] 54)) [.int .i64 bst, .int .i64 bkd, .int .i64 bsv, .string ⟨bru.toArray⟩, .string ⟨bfm.toArray⟩, .bool bun, .int .i64 byr, .int .i64 bmo, .int .i64 bk, .int .i64 bv, .int .i64 bd, .int .i64 bn, .int .i64 bc] 54
  rw [eS] at CB0'
  have CB0 := Lib.hid (Cs.below CB0' b0')
  clear b0' CB0' eS
  have z0 := (CB0.out.2 0 _ rfl).1
  have z1 := (CB0.out.2 1 _ rfl).1
  have z2 := (CB0.out.2 2 _ rfl).1
  have z3 := (CB0.out.2 3 _ rfl).1
  have z4 := (CB0.out.2 4 _ rfl).1
  have z5 := (CB0.out.2 5 _ rfl).1
  have z6 := (CB0.out.2 6 _ rfl).1
  have z7 := (CB0.out.2 7 _ rfl).1
  have z8 := (CB0.out.2 8 _ rfl).1
  have z9 := (CB0.out.2 9 _ rfl).1
  have z10 := (CB0.out.2 10 _ rfl).1
  have z11 := (CB0.out.2 11 _ rfl).1
  have z12 := (CB0.out.2 12 _ rfl).1
  go_wp2_with fail
  refine (hev_no bst bkd bsv byr bmo bk bv bd bn bc bru bfm bun _ hb.out.1 hb.out.2).mono ?_
  rintro e w1 ⟨rfl, b1'⟩
  have B1 := Lib.hid (bstep B0.out b1')
  have CA1 := Lib.hid (CA0.out.below b1')
  have CB1 := Lib.hid (CB0.out.below b1')
  clear b1' CA0 CB0
  clear z0 z1 z2 z3 z4 z5 z6 z7 z8 z9 z10 z11 z12
  have z0 := (CA1.out.2 0 _ rfl).1
  have z1 := (CA1.out.2 1 _ rfl).1
  have z2 := (CA1.out.2 2 _ rfl).1
  have z3 := (CA1.out.2 3 _ rfl).1
  have z4 := (CA1.out.2 4 _ rfl).1
  have z5 := (CA1.out.2 5 _ rfl).1
  have z6 := (CA1.out.2 6 _ rfl).1
  have z7 := (CA1.out.2 7 _ rfl).1
  have z8 := (CA1.out.2 8 _ rfl).1
  have z9 := (CA1.out.2 9 _ rfl).1
  have z10 := (CA1.out.2 10 _ rfl).1
  have z11 := (CA1.out.2 11 _ rfl).1
  have z12 := (CA1.out.2 12 _ rfl).1
  go_wp2_with fail
  refine (ztx_to ast akd asv aru afm aun ayr amo ak av ad an ac TA 0 _ (HP.out.stays B1.out) (HA'.out.stays B1.out) (HM.out.stays B1.out) (Nat.le_trans ha.out.1 (by decide)) (Nat.le_trans ha.out.2 (by decide)) HA).mono ?_
  rintro e w2 ⟨rfl, b2'⟩
  have B2 := Lib.hid (bstep B1.out b2')
  have CA2 := Lib.hid (CA1.out.below b2')
  have CB2 := Lib.hid (CB1.out.below b2')
  clear b2' CA1 CB1
  clear z0 z1 z2 z3 z4 z5 z6 z7 z8 z9 z10 z11 z12
  have z0 := (CB2.out.2 0 _ rfl).1
  have z1 := (CB2.out.2 1 _ rfl).1
  have z2 := (CB2.out.2 2 _ rfl).1
  have z3 := (CB2.out.2 3 _ rfl).1
  have z4 := (CB2.out.2 4 _ rfl).1
  have z5 := (CB2.out.2 5 _ rfl).1
  have z6 := (CB2.out.2 6 _ rfl).1
  have z7 := (CB2.out.2 7 _ rfl).1
  have z8 := (CB2.out.2 8 _ rfl).1
  have z9 := (CB2.out.2 9 _ rfl).1
  have z10 := (CB2.out.2 10 _ rfl).1
  have z11 := (CB2.out.2 11 _ rfl).1
  have z12 := (CB2.out.2 12 _ rfl).1
  go_wp2_with fail
  refine (ztx_to bst bkd bsv bru bfm bun byr bmo bk bv bd bn bc [] 11 _ (HP.out.stays B2.out) (HA'.out.stays B2.out) (HM.out.stays B2.out) (Nat.le_trans hb.out.1 (by decide)) (Nat.le_trans hb.out.2 (by decide)) HB).mono ?_
  rintro e w3 ⟨rfl, b3'⟩
  have B3 := Lib.hid (bstep B2.out b3')
  have CA3 := Lib.hid (CA2.out.below b3')
  have CB3 := Lib.hid (CB2.out.below b3')
  clear b3' CA2 CB2
  clear z0 z1 z2 z3 z4 z5 z6 z7 z8 z9 z10 z11 z12
  go_wp2_with fail
  refine (wakes10_any _ (HP.out.stays B3.out) (HA'.out.stays B3.out) (HM.out.stays B3.out)).mono ?_
  rintro e w9 ⟨rfl, b9'⟩
  go_wp2
  go_ret
  exact ⟨rfl, bstep B3.out b9'⟩
set_option maxHeartbeats 12800000 in
set_option maxRecDepth 100000 in
theorem zb_ne (ast akd asv ayr amo ak av ad an ac : Int) (aru afm : List UInt8) (aun : Bool) (bst bkd bsv byr bmo bk bv bd bn bc : Int) (bru bfm : List UInt8) (bun : Bool) (TA TB : List UInt8) (w : World) (hp : Pow w) (hA : Civ.Ahead w) (hm : Wrd.MaxL w) (ha : Hid (aru.length ≤ 200 ∧ afm.length ≤ 200)) (hb : Hid (bru.length ≤ 200 ∧ bfm.length ≤ 200)) (HA : Hid (erT ⟨ast, akd, asv, aru, afm, aun, ayr, amo, ak, av, ad, an, ac⟩ = TA ∧ erE ⟨ast, akd, asv, aru, afm, aun, ayr, amo, ak, av, ad, an, ac⟩ = 0)) (lA : TA.length ≤ 300) (HB : Hid (erT ⟨bst, bkd, bsv, bru, bfm, bun, byr, bmo, bk, bv, bd, bn, bc⟩ = TB ∧ erE ⟨bst, bkd, bsv, bru, bfm, bun, byr, bmo, bk, bv, bd, bn, bc⟩ = 0)) (_lB : TB.length ≤ 300)
    (HS : Hid (Fds.splitR TA = (erF ⟨ast, akd, asv, aru, afm, aun, ayr, amo, ak, av, ad, an, ac⟩, 0))) (HR : Hid (erP (erF ⟨ast, akd, asv, aru, afm, aun, ayr, amo, ak, av, ad, an, ac⟩) = (0, ⟨ast, akd, asv, aru, afm, aun, ayr, amo, ak, av, ad, an, ac⟩))) (H8 : Hid (∀ t ∈ erF ⟨ast, akd, asv, aru, afm, aun, ayr, amo, ak, av, ad, an, ac⟩, t.length ≤ 1000)) (HL : Hid ((erF ⟨ast, akd, asv, aru, afm, aun, ayr, amo, ak, av, ad, an, ac⟩).length ≤ 1000000)) (HNE : Hid (Unlike ⟨ast, akd, asv, aru, afm, aun, ayr, amo, ak, av, ad, an, ac⟩ ⟨bst, bkd, bsv, bru, bfm, bun, byr, bmo, bk, bv, bd, bn, bc⟩)) (ht : (TA == TB) = false) :
    Calls Tryz.prog 8 #[.agg #[.int .i64 ast, .int .i64 akd, .int .i64 asv, .string ⟨aru.toArray⟩, .string ⟨afm.toArray⟩, .bool aun, .int .i64 ayr, .int .i64 amo, .int .i64 ak, .int .i64 av, .int .i64 ad, .int .i64 an, .int .i64 ac], .agg #[.int .i64 bst, .int .i64 bkd, .int .i64 bsv, .string ⟨bru.toArray⟩, .string ⟨bfm.toArray⟩, .bool bun, .int .i64 byr, .int .i64 bmo, .int .i64 bk, .int .i64 bv, .int .i64 bd, .int .i64 bn, .int .i64 bc]] w fun e w' => e = .returned (.bool true) ∧ Below w.heap.size w w' := by
  have HP := Lib.hid hp
  have HA' := Lib.hid hA
  have HM := Lib.hid hm
  clear hp hm hA
  have sTA : (⟨TA.toArray⟩ : ByteArray).size = TA.length := rfl
  have sTB : (⟨TB.toArray⟩ : ByteArray).size = TB.length := rfl
  obtain ⟨L, hL⟩ : ∃ L, erF ⟨ast, akd, asv, aru, afm, aun, ayr, amo, ak, av, ad, an, ac⟩ = L := ⟨_, rfl⟩
  rw [hL] at HS HR H8 HL
  clear hL
  go_enter Tryz.func8, Tryz.ntmps8
  go_wp2_with fail
  refine (hev_no ast akd asv ayr amo ak av ad an ac aru afm aun _ ha.out.1 ha.out.2).mono ?_
  rintro e w0 ⟨rfl, b0'⟩
  have B0 := Lib.hid (bstep (show Below w.heap.size w _ from (by repeat (first | with_reducible exact Below.refl _ _ | refine Below.drew ?_ | refine Below.alloc ?_ (by simp; try omega) _))) b0')
  have CA0 := Lib.hid (Cs.below ((Cs.new w [.int .i64 ast, .int .i64 akd, .int .i64 asv, .string ⟨aru.toArray⟩, .string ⟨afm.toArray⟩, .bool aun, .int .i64 ayr, .int .i64 amo, .int .i64 ak, .int .i64 av, .int .i64 ad, .int .i64 an, .int .i64 ac] 54).alloc (Obj.cells #[.int .i64 bst, .int .i64 bkd, .int .i64 bsv, .string ⟨bru.toArray⟩, .string ⟨bfm.toArray⟩, .bool bun, .int .i64 byr, .int .i64 bmo, .int .i64 bk, .int .i64 bv, .int .i64 bd, .int .i64 bn, .int .i64 bc] 54)) b0')
  have eS : (w.alloc (Obj.cells #[.int .i64 ast, .int .i64 akd, .int .i64 asv, .string ⟨aru.toArray⟩, .string ⟨afm.toArray⟩, .bool aun, .int .i64 ayr, .int .i64 amo, .int .i64 ak, .int .i64 av, .int .i64 ad, .int .i64 an, .int .i64 ac] 54)).heap.size = w.heap.size + 1 := by simp
  have CB0' := Cs.new (w.alloc (Obj.cells #[.int .i64 ast, .int .i64 akd, .int .i64 asv, .string ⟨aru.toArray⟩, .string ⟨afm.toArray⟩, .bool aun, .int .i64 ayr, .int .i64 amo, .int .i64 ak, .int .i64 av, .int .i64 ad, .int .i64 an, .int .i64 ac] 54)) [.int .i64 bst, .int .i64 bkd, .int .i64 bsv, .string ⟨bru.toArray⟩, .string ⟨bfm.toArray⟩, .bool bun, .int .i64 byr, .int .i64 bmo, .int .i64 bk, .int .i64 bv, .int .i64 bd, .int .i64 bn, .int .i64 bc] 54
  rw [eS] at CB0'
  have CB0 := Lib.hid (Cs.below CB0' b0')
  clear b0' CB0' eS
  have z0 := (CB0.out.2 0 _ rfl).1
  have z1 := (CB0.out.2 1 _ rfl).1
  have z2 := (CB0.out.2 2 _ rfl).1
  have z3 := (CB0.out.2 3 _ rfl).1
  have z4 := (CB0.out.2 4 _ rfl).1
  have z5 := (CB0.out.2 5 _ rfl).1
  have z6 := (CB0.out.2 6 _ rfl).1
  have z7 := (CB0.out.2 7 _ rfl).1
  have z8 := (CB0.out.2 8 _ rfl).1
  have z9 := (CB0.out.2 9 _ rfl).1
  have z10 := (CB0.out.2 10 _ rfl).1
  have z11 := (CB0.out.2 11 _ rfl).1
  have z12 := (CB0.out.2 12 _ rfl).1
  go_wp2_with fail
  refine (hev_no bst bkd bsv byr bmo bk bv bd bn bc bru bfm bun _ hb.out.1 hb.out.2).mono ?_
  rintro e w1 ⟨rfl, b1'⟩
  have B1 := Lib.hid (bstep B0.out b1')
  have CA1 := Lib.hid (CA0.out.below b1')
  have CB1 := Lib.hid (CB0.out.below b1')
  clear b1' CA0 CB0
  clear z0 z1 z2 z3 z4 z5 z6 z7 z8 z9 z10 z11 z12
  have z0 := (CA1.out.2 0 _ rfl).1
  have z1 := (CA1.out.2 1 _ rfl).1
  have z2 := (CA1.out.2 2 _ rfl).1
  have z3 := (CA1.out.2 3 _ rfl).1
  have z4 := (CA1.out.2 4 _ rfl).1
  have z5 := (CA1.out.2 5 _ rfl).1
  have z6 := (CA1.out.2 6 _ rfl).1
  have z7 := (CA1.out.2 7 _ rfl).1
  have z8 := (CA1.out.2 8 _ rfl).1
  have z9 := (CA1.out.2 9 _ rfl).1
  have z10 := (CA1.out.2 10 _ rfl).1
  have z11 := (CA1.out.2 11 _ rfl).1
  have z12 := (CA1.out.2 12 _ rfl).1
  go_wp2_with fail
  refine (ztx_to ast akd asv aru afm aun ayr amo ak av ad an ac TA 0 _ (HP.out.stays B1.out) (HA'.out.stays B1.out) (HM.out.stays B1.out) (Nat.le_trans ha.out.1 (by decide)) (Nat.le_trans ha.out.2 (by decide)) HA).mono ?_
  rintro e w2 ⟨rfl, b2'⟩
  have B2 := Lib.hid (bstep B1.out b2')
  have CA2 := Lib.hid (CA1.out.below b2')
  have CB2 := Lib.hid (CB1.out.below b2')
  clear b2' CA1 CB1
  clear z0 z1 z2 z3 z4 z5 z6 z7 z8 z9 z10 z11 z12
  have z0 := (CB2.out.2 0 _ rfl).1
  have z1 := (CB2.out.2 1 _ rfl).1
  have z2 := (CB2.out.2 2 _ rfl).1
  have z3 := (CB2.out.2 3 _ rfl).1
  have z4 := (CB2.out.2 4 _ rfl).1
  have z5 := (CB2.out.2 5 _ rfl).1
  have z6 := (CB2.out.2 6 _ rfl).1
  have z7 := (CB2.out.2 7 _ rfl).1
  have z8 := (CB2.out.2 8 _ rfl).1
  have z9 := (CB2.out.2 9 _ rfl).1
  have z10 := (CB2.out.2 10 _ rfl).1
  have z11 := (CB2.out.2 11 _ rfl).1
  have z12 := (CB2.out.2 12 _ rfl).1
  go_wp2_with fail
  refine (ztx_to bst bkd bsv bru bfm bun byr bmo bk bv bd bn bc TB 0 _ (HP.out.stays B2.out) (HA'.out.stays B2.out) (HM.out.stays B2.out) (Nat.le_trans hb.out.1 (by decide)) (Nat.le_trans hb.out.2 (by decide)) HB).mono ?_
  rintro e w3 ⟨rfl, b3'⟩
  have B3 := Lib.hid (bstep B2.out b3')
  have CA3 := Lib.hid (CA2.out.below b3')
  have CB3 := Lib.hid (CB2.out.below b3')
  clear b3' CA2 CB2
  clear z0 z1 z2 z3 z4 z5 z6 z7 z8 z9 z10 z11 z12
  go_wp2_with fail
  refine (Fds.spl_to _ TA L 0 _ (by rw [sTA]; omega) (Lib.hid rfl) HS).mono ?_
  rintro e w4 ⟨v, rfl, tv, b4'⟩
  have B4 := Lib.hid (bstep B3.out b4')
  have CA4 := Lib.hid (CA3.out.below b4')
  have CB4 := Lib.hid (CB3.out.below b4')
  clear CA3 CB3
  have TV := Lib.hid tv
  clear b4' tv
  go_wp2_with fail
  refine (era_to v L 0 ⟨ast, akd, asv, aru, afm, aun, ayr, amo, ak, av, ad, an, ac⟩ _ (HA'.out.stays B4.out) (HM.out.stays B4.out) TV.out H8.out HL.out HR).mono ?_
  rintro e w5 ⟨rfl, b5'⟩
  have B5 := Lib.hid (bstep B4.out b5')
  have CA5 := Lib.hid (CA4.out.below b5')
  have CB5 := Lib.hid (CB4.out.below b5')
  clear CA4 CB4 b5'
  have z0 := (CA5.out.2 0 _ rfl).1
  have z1 := (CA5.out.2 1 _ rfl).1
  have z2 := (CA5.out.2 2 _ rfl).1
  have z3 := (CA5.out.2 3 _ rfl).1
  have z4 := (CA5.out.2 4 _ rfl).1
  have z5 := (CA5.out.2 5 _ rfl).1
  have z6 := (CA5.out.2 6 _ rfl).1
  have z7 := (CA5.out.2 7 _ rfl).1
  have z8 := (CA5.out.2 8 _ rfl).1
  have z9 := (CA5.out.2 9 _ rfl).1
  have z10 := (CA5.out.2 10 _ rfl).1
  have z11 := (CA5.out.2 11 _ rfl).1
  have z12 := (CA5.out.2 12 _ rfl).1
  have x0 := (CB5.out.2 0 _ rfl).1
  have x1 := (CB5.out.2 1 _ rfl).1
  have x2 := (CB5.out.2 2 _ rfl).1
  have x3 := (CB5.out.2 3 _ rfl).1
  have x4 := (CB5.out.2 4 _ rfl).1
  have x5 := (CB5.out.2 5 _ rfl).1
  have x6 := (CB5.out.2 6 _ rfl).1
  have x7 := (CB5.out.2 7 _ rfl).1
  have x8 := (CB5.out.2 8 _ rfl).1
  have x9 := (CB5.out.2 9 _ rfl).1
  have x10 := (CB5.out.2 10 _ rfl).1
  have x11 := (CB5.out.2 11 _ rfl).1
  have x12 := (CB5.out.2 12 _ rfl).1
  have gz : w.heap.size < w5.heap.size := CA5.out.1
  have gx : w.heap.size + 1 < w5.heap.size := CB5.out.1
  have g1 : w.heap.size ≠ w5.heap.size := by omega
  have g2 : w5.heap.size ≠ w.heap.size := by omega
  have g3 : w.heap.size + 1 ≠ w5.heap.size := by omega
  have g4 : w5.heap.size ≠ w.heap.size + 1 := by omega
  simp only [EV.val]
  go_wp2_with fail
  all_goals first
    | exact absurd (by subst_vars; rfl) HNE.out
    | (refine (wakes10_any _ (HP.out.stays (B5.out.alloc B5.out.size _)) (HA'.out.stays (B5.out.alloc B5.out.size _)) (HM.out.stays (B5.out.alloc B5.out.size _))).mono ?_
       rintro e w9 ⟨rfl, b9'⟩
       go_wp2
       go_ret
       exact ⟨rfl, bstep (B5.out.alloc B5.out.size _) b9'⟩)
set_option maxHeartbeats 12800000 in
set_option maxRecDepth 100000 in
theorem zb_eq (ast akd asv ayr amo ak av ad an ac : Int) (aru afm : List UInt8) (aun : Bool) (TA : List UInt8) (w : World) (hp : Pow w) (hA : Civ.Ahead w) (hm : Wrd.MaxL w) (ha : Hid (aru.length ≤ 200 ∧ afm.length ≤ 200)) (HA : Hid (erT ⟨ast, akd, asv, aru, afm, aun, ayr, amo, ak, av, ad, an, ac⟩ = TA ∧ erE ⟨ast, akd, asv, aru, afm, aun, ayr, amo, ak, av, ad, an, ac⟩ = 0)) (lA : TA.length ≤ 300) 
    (HS : Hid (Fds.splitR TA = (erF ⟨ast, akd, asv, aru, afm, aun, ayr, amo, ak, av, ad, an, ac⟩, 0))) (HR : Hid (erP (erF ⟨ast, akd, asv, aru, afm, aun, ayr, amo, ak, av, ad, an, ac⟩) = (0, ⟨ast, akd, asv, aru, afm, aun, ayr, amo, ak, av, ad, an, ac⟩))) (H8 : Hid (∀ t ∈ erF ⟨ast, akd, asv, aru, afm, aun, ayr, amo, ak, av, ad, an, ac⟩, t.length ≤ 1000)) (HL : Hid ((erF ⟨ast, akd, asv, aru, afm, aun, ayr, amo, ak, av, ad, an, ac⟩).length ≤ 1000000))  :
    Calls Tryz.prog 8 #[.agg #[.int .i64 ast, .int .i64 akd, .int .i64 asv, .string ⟨aru.toArray⟩, .string ⟨afm.toArray⟩, .bool aun, .int .i64 ayr, .int .i64 amo, .int .i64 ak, .int .i64 av, .int .i64 ad, .int .i64 an, .int .i64 ac], .agg #[.int .i64 ast, .int .i64 akd, .int .i64 asv, .string ⟨aru.toArray⟩, .string ⟨afm.toArray⟩, .bool aun, .int .i64 ayr, .int .i64 amo, .int .i64 ak, .int .i64 av, .int .i64 ad, .int .i64 an, .int .i64 ac]] w fun e w' => e = .returned (.bool true) ∧ Below w.heap.size w w' := by
  have HP := Lib.hid hp
  have HA' := Lib.hid hA
  have HM := Lib.hid hm
  clear hp hm hA
  have sTA : (⟨TA.toArray⟩ : ByteArray).size = TA.length := rfl
  obtain ⟨L, hL⟩ : ∃ L, erF ⟨ast, akd, asv, aru, afm, aun, ayr, amo, ak, av, ad, an, ac⟩ = L := ⟨_, rfl⟩
  rw [hL] at HS HR H8 HL
  clear hL
  go_enter Tryz.func8, Tryz.ntmps8
  go_wp2_with fail
  refine (hev_no ast akd asv ayr amo ak av ad an ac aru afm aun _ ha.out.1 ha.out.2).mono ?_
  rintro e w0 ⟨rfl, b0'⟩
  have B0 := Lib.hid (bstep (show Below w.heap.size w _ from (by repeat (first | with_reducible exact Below.refl _ _ | refine Below.drew ?_ | refine Below.alloc ?_ (by simp; try omega) _))) b0')
  have CA0 := Lib.hid (Cs.below ((Cs.new w [.int .i64 ast, .int .i64 akd, .int .i64 asv, .string ⟨aru.toArray⟩, .string ⟨afm.toArray⟩, .bool aun, .int .i64 ayr, .int .i64 amo, .int .i64 ak, .int .i64 av, .int .i64 ad, .int .i64 an, .int .i64 ac] 54).alloc (Obj.cells #[.int .i64 ast, .int .i64 akd, .int .i64 asv, .string ⟨aru.toArray⟩, .string ⟨afm.toArray⟩, .bool aun, .int .i64 ayr, .int .i64 amo, .int .i64 ak, .int .i64 av, .int .i64 ad, .int .i64 an, .int .i64 ac] 54)) b0')
  have eS : (w.alloc (Obj.cells #[.int .i64 ast, .int .i64 akd, .int .i64 asv, .string ⟨aru.toArray⟩, .string ⟨afm.toArray⟩, .bool aun, .int .i64 ayr, .int .i64 amo, .int .i64 ak, .int .i64 av, .int .i64 ad, .int .i64 an, .int .i64 ac] 54)).heap.size = w.heap.size + 1 := by simp
  have CB0' := Cs.new (w.alloc (Obj.cells #[.int .i64 ast, .int .i64 akd, .int .i64 asv, .string ⟨aru.toArray⟩, .string ⟨afm.toArray⟩, .bool aun, .int .i64 ayr, .int .i64 amo, .int .i64 ak, .int .i64 av, .int .i64 ad, .int .i64 an, .int .i64 ac] 54)) [.int .i64 ast, .int .i64 akd, .int .i64 asv, .string ⟨aru.toArray⟩, .string ⟨afm.toArray⟩, .bool aun, .int .i64 ayr, .int .i64 amo, .int .i64 ak, .int .i64 av, .int .i64 ad, .int .i64 an, .int .i64 ac] 54
  rw [eS] at CB0'
  have CB0 := Lib.hid (Cs.below CB0' b0')
  clear b0' CB0' eS
  have z0 := (CB0.out.2 0 _ rfl).1
  have z1 := (CB0.out.2 1 _ rfl).1
  have z2 := (CB0.out.2 2 _ rfl).1
  have z3 := (CB0.out.2 3 _ rfl).1
  have z4 := (CB0.out.2 4 _ rfl).1
  have z5 := (CB0.out.2 5 _ rfl).1
  have z6 := (CB0.out.2 6 _ rfl).1
  have z7 := (CB0.out.2 7 _ rfl).1
  have z8 := (CB0.out.2 8 _ rfl).1
  have z9 := (CB0.out.2 9 _ rfl).1
  have z10 := (CB0.out.2 10 _ rfl).1
  have z11 := (CB0.out.2 11 _ rfl).1
  have z12 := (CB0.out.2 12 _ rfl).1
  go_wp2_with fail
  refine (hev_no ast akd asv ayr amo ak av ad an ac aru afm aun _ ha.out.1 ha.out.2).mono ?_
  rintro e w1 ⟨rfl, b1'⟩
  have B1 := Lib.hid (bstep B0.out b1')
  have CA1 := Lib.hid (CA0.out.below b1')
  have CB1 := Lib.hid (CB0.out.below b1')
  clear b1' CA0 CB0
  clear z0 z1 z2 z3 z4 z5 z6 z7 z8 z9 z10 z11 z12
  have z0 := (CA1.out.2 0 _ rfl).1
  have z1 := (CA1.out.2 1 _ rfl).1
  have z2 := (CA1.out.2 2 _ rfl).1
  have z3 := (CA1.out.2 3 _ rfl).1
  have z4 := (CA1.out.2 4 _ rfl).1
  have z5 := (CA1.out.2 5 _ rfl).1
  have z6 := (CA1.out.2 6 _ rfl).1
  have z7 := (CA1.out.2 7 _ rfl).1
  have z8 := (CA1.out.2 8 _ rfl).1
  have z9 := (CA1.out.2 9 _ rfl).1
  have z10 := (CA1.out.2 10 _ rfl).1
  have z11 := (CA1.out.2 11 _ rfl).1
  have z12 := (CA1.out.2 12 _ rfl).1
  go_wp2_with fail
  refine (ztx_to ast akd asv aru afm aun ayr amo ak av ad an ac TA 0 _ (HP.out.stays B1.out) (HA'.out.stays B1.out) (HM.out.stays B1.out) (Nat.le_trans ha.out.1 (by decide)) (Nat.le_trans ha.out.2 (by decide)) HA).mono ?_
  rintro e w2 ⟨rfl, b2'⟩
  have B2 := Lib.hid (bstep B1.out b2')
  have CA2 := Lib.hid (CA1.out.below b2')
  have CB2 := Lib.hid (CB1.out.below b2')
  clear b2' CA1 CB1
  clear z0 z1 z2 z3 z4 z5 z6 z7 z8 z9 z10 z11 z12
  have z0 := (CB2.out.2 0 _ rfl).1
  have z1 := (CB2.out.2 1 _ rfl).1
  have z2 := (CB2.out.2 2 _ rfl).1
  have z3 := (CB2.out.2 3 _ rfl).1
  have z4 := (CB2.out.2 4 _ rfl).1
  have z5 := (CB2.out.2 5 _ rfl).1
  have z6 := (CB2.out.2 6 _ rfl).1
  have z7 := (CB2.out.2 7 _ rfl).1
  have z8 := (CB2.out.2 8 _ rfl).1
  have z9 := (CB2.out.2 9 _ rfl).1
  have z10 := (CB2.out.2 10 _ rfl).1
  have z11 := (CB2.out.2 11 _ rfl).1
  have z12 := (CB2.out.2 12 _ rfl).1
  go_wp2_with fail
  refine (ztx_to ast akd asv aru afm aun ayr amo ak av ad an ac TA 0 _ (HP.out.stays B2.out) (HA'.out.stays B2.out) (HM.out.stays B2.out) (Nat.le_trans ha.out.1 (by decide)) (Nat.le_trans ha.out.2 (by decide)) HA).mono ?_
  rintro e w3 ⟨rfl, b3'⟩
  have B3 := Lib.hid (bstep B2.out b3')
  have CA3 := Lib.hid (CA2.out.below b3')
  have CB3 := Lib.hid (CB2.out.below b3')
  clear b3' CA2 CB2
  clear z0 z1 z2 z3 z4 z5 z6 z7 z8 z9 z10 z11 z12
  go_wp2_with fail
  refine (Fds.spl_to _ TA L 0 _ (by rw [sTA]; omega) (Lib.hid rfl) HS).mono ?_
  rintro e w4 ⟨v, rfl, tv, b4'⟩
  have B4 := Lib.hid (bstep B3.out b4')
  have CA4 := Lib.hid (CA3.out.below b4')
  have CB4 := Lib.hid (CB3.out.below b4')
  clear CA3 CB3
  have TV := Lib.hid tv
  clear b4' tv
  go_wp2_with fail
  refine (era_to v L 0 ⟨ast, akd, asv, aru, afm, aun, ayr, amo, ak, av, ad, an, ac⟩ _ (HA'.out.stays B4.out) (HM.out.stays B4.out) TV.out H8.out HL.out HR).mono ?_
  rintro e w5 ⟨rfl, b5'⟩
  have B5 := Lib.hid (bstep B4.out b5')
  have CA5 := Lib.hid (CA4.out.below b5')
  have CB5 := Lib.hid (CB4.out.below b5')
  clear CA4 CB4 b5'
  have z0 := (CA5.out.2 0 _ rfl).1
  have z1 := (CA5.out.2 1 _ rfl).1
  have z2 := (CA5.out.2 2 _ rfl).1
  have z3 := (CA5.out.2 3 _ rfl).1
  have z4 := (CA5.out.2 4 _ rfl).1
  have z5 := (CA5.out.2 5 _ rfl).1
  have z6 := (CA5.out.2 6 _ rfl).1
  have z7 := (CA5.out.2 7 _ rfl).1
  have z8 := (CA5.out.2 8 _ rfl).1
  have z9 := (CA5.out.2 9 _ rfl).1
  have z10 := (CA5.out.2 10 _ rfl).1
  have z11 := (CA5.out.2 11 _ rfl).1
  have z12 := (CA5.out.2 12 _ rfl).1
  have x0 := (CB5.out.2 0 _ rfl).1
  have x1 := (CB5.out.2 1 _ rfl).1
  have x2 := (CB5.out.2 2 _ rfl).1
  have x3 := (CB5.out.2 3 _ rfl).1
  have x4 := (CB5.out.2 4 _ rfl).1
  have x5 := (CB5.out.2 5 _ rfl).1
  have x6 := (CB5.out.2 6 _ rfl).1
  have x7 := (CB5.out.2 7 _ rfl).1
  have x8 := (CB5.out.2 8 _ rfl).1
  have x9 := (CB5.out.2 9 _ rfl).1
  have x10 := (CB5.out.2 10 _ rfl).1
  have x11 := (CB5.out.2 11 _ rfl).1
  have x12 := (CB5.out.2 12 _ rfl).1
  have gz : w.heap.size < w5.heap.size := CA5.out.1
  have gx : w.heap.size + 1 < w5.heap.size := CB5.out.1
  have g1 : w.heap.size ≠ w5.heap.size := by omega
  have g2 : w5.heap.size ≠ w.heap.size := by omega
  have g3 : w.heap.size + 1 ≠ w5.heap.size := by omega
  have g4 : w5.heap.size ≠ w.heap.size + 1 := by omega
  simp only [EV.val]
  go_wp2_with fail
  all_goals first
    | (refine (wakes10_any _ (HP.out.stays (B5.out.alloc B5.out.size _)) (HA'.out.stays (B5.out.alloc B5.out.size _)) (HM.out.stays (B5.out.alloc B5.out.size _))).mono ?_
       rintro e w9 ⟨rfl, b9'⟩
       go_wp2
       go_ret
       exact ⟨rfl, bstep (B5.out.alloc B5.out.size _) b9'⟩)
theorem zback_any (ast akd asv ayr amo ak av ad an ac : Int) (aru afm : List UInt8) (aun : Bool) (bst bkd bsv byr bmo bk bv bd bn bc : Int) (bru bfm : List UInt8) (bun : Bool) (w : World) (hp : Pow w) (hA : Civ.Ahead w) (hm : Wrd.MaxL w) (m0 : aru.length ≤ maxLen) (m1 : afm.length ≤ maxLen) (m2 : bru.length ≤ maxLen) (m3 : bfm.length ≤ maxLen) :
    Calls Tryz.prog 8 #[.agg #[.int .i64 ast, .int .i64 akd, .int .i64 asv, .string ⟨aru.toArray⟩, .string ⟨afm.toArray⟩, .bool aun, .int .i64 ayr, .int .i64 amo, .int .i64 ak, .int .i64 av, .int .i64 ad, .int .i64 an, .int .i64 ac], .agg #[.int .i64 bst, .int .i64 bkd, .int .i64 bsv, .string ⟨bru.toArray⟩, .string ⟨bfm.toArray⟩, .bool bun, .int .i64 byr, .int .i64 bmo, .int .i64 bk, .int .i64 bv, .int .i64 bd, .int .i64 bn, .int .i64 bc]] w fun e w' => e = .returned (.bool true) ∧ Below w.heap.size w w' := by
  by_cases ha : aru.length ≤ 200 ∧ afm.length ≤ 200
  case neg => exact zb_big0 ast akd asv ayr amo ak av ad an ac aru afm aun bst bkd bsv byr bmo bk bv bd bn bc bru bfm bun w m0 m1 ha
  by_cases hb : bru.length ≤ 200 ∧ bfm.length ≤ 200
  case neg => exact zb_big1 ast akd asv ayr amo ak av ad an ac aru afm aun bst bkd bsv byr bmo bk bv bd bn bc bru bfm bun w (Lib.hid ha) m2 m3 hb
  have yes (r : EV) (h : rgB r = true) : erE r = 0 := by rw [erE, if_pos h]
  have no (r : EV) (h : rgB r = false) : erT r = [] ∧ erE r = 11 := ⟨by rw [erT, if_neg (by rw [h]; decide)], by rw [erE, if_neg (by rw [h]; decide)]⟩
  have l (r : EV) (h : rgB r = true) : (erT r).length ≤ 300 := by rw [erT, if_pos h]; exact (erF_pl h).2.1
  cases ca : rgB ⟨ast, akd, asv, aru, afm, aun, ayr, amo, ak, av, ad, an, ac⟩ with
  | false =>
    cases cb : rgB ⟨bst, bkd, bsv, bru, bfm, bun, byr, bmo, bk, bv, bd, bn, bc⟩ with
    | false => exact zb_nn ast akd asv ayr amo ak av ad an ac aru afm aun bst bkd bsv byr bmo bk bv bd bn bc bru bfm bun [] [] w hp hA hm (Lib.hid ha) (Lib.hid hb) (Lib.hid (no _ ca)) (Lib.hid (no _ cb)) (by simp) (by simp)
    | true => exact zb_ny ast akd asv ayr amo ak av ad an ac aru afm aun bst bkd bsv byr bmo bk bv bd bn bc bru bfm bun [] _ w hp hA hm (Lib.hid ha) (Lib.hid hb) (Lib.hid (no _ ca)) (Lib.hid ⟨rfl, yes _ cb⟩) (by simp) (l _ cb)
  | true =>
    cases cb : rgB ⟨bst, bkd, bsv, bru, bfm, bun, byr, bmo, bk, bv, bd, bn, bc⟩ with
    | false => exact zb_yn ast akd asv ayr amo ak av ad an ac aru afm aun bst bkd bsv byr bmo bk bv bd bn bc bru bfm bun _ [] w hp hA hm (Lib.hid ha) (Lib.hid hb) (Lib.hid ⟨rfl, yes _ ca⟩) (Lib.hid (no _ cb)) (l _ ca) (by simp)
    | true =>
      have h8 : ∀ t ∈ erF ⟨ast, akd, asv, aru, afm, aun, ayr, amo, ak, av, ad, an, ac⟩, t.length ≤ 1000 := fun t ht => by have := (erF_pl ca).2.2.1 t ht; omega
      have hl : (erF ⟨ast, akd, asv, aru, afm, aun, ayr, amo, ak, av, ad, an, ac⟩).length ≤ 1000000 := by have := (erF_pl ca).2.2.2; omega
      by_cases hab : (⟨ast, akd, asv, aru, afm, aun, ayr, amo, ak, av, ad, an, ac⟩ : EV) = ⟨bst, bkd, bsv, bru, bfm, bun, byr, bmo, bk, bv, bd, bn, bc⟩
      · injection hab with e0 e1 e2 e3 e4 e5 e6 e7 e8 e9 e10 e11 e12
        subst e0 e1 e2 e3 e4 e5 e6 e7 e8 e9 e10 e11 e12
        exact zb_eq ast akd asv ayr amo ak av ad an ac aru afm aun _ w hp hA hm (Lib.hid ha) (Lib.hid ⟨rfl, yes _ ca⟩) (l _ ca) (Lib.hid (era_back ca).1) (Lib.hid (era_back ca).2) (Lib.hid h8) (Lib.hid hl)
      · refine zb_ne ast akd asv ayr amo ak av ad an ac aru afm aun bst bkd bsv byr bmo bk bv bd bn bc bru bfm bun _ _ w hp hA hm (Lib.hid ha) (Lib.hid hb) (Lib.hid ⟨rfl, yes _ ca⟩) (l _ ca) (Lib.hid ⟨rfl, yes _ cb⟩) (l _ cb) (Lib.hid (era_back ca).1) (Lib.hid (era_back ca).2) (Lib.hid h8) (Lib.hid hl) (Lib.hid hab) (beq_eq_false_iff_ne.2 fun e => hab ?_)
        have q1 := (era_back ca).1
        rw [e, (era_back cb).1] at q1
        have q2 := (era_back ca).2
        rw [← (Prod.mk.inj q1).1, (era_back cb).2] at q2
        exact (Prod.mk.inj q2).2.symm
end Zon
end Go.Proofs.YtpcnpacllkiieaaGreatDoor
