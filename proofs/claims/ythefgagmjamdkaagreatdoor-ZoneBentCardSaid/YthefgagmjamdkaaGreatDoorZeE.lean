/-
  The reference's Era, whatever era. (Written by gen/gen_zree.py.)
-/
import Derived.Test.YthefgagmjamdkaaGreatDoorFmX3
import Derived.Test.YthefgagmjamdkaaGreatDoorRRul
import Derived.Test.YthefgagmjamdkaaGreatDoorBdFf
import Derived.Test.YthefgagmjamdkaaGreatDoorBdK
import Derived.Test.YthefgagmjamdkaaGreatDoorBdCl
namespace Go.Proofs.YthefgagmjamdkaaGreatDoor
open Go.RowKit
namespace Zon
open Sol Clk Cel Rul
theorem bday_b (n : Int) : bday n = bdayB n := by
  rw [bday, bdayB, ← Bool.decide_and]
  exact decide_eq_decide.2 (by omega)
theorem un_ref (yr mo k v d n c : Int) : unB true yr mo k v d n c = (decide (1 ≤ yr ∧ yr ≤ 9999) && (decide (1 ≤ mo ∧ mo ≤ 12) && (Wk.onOk k v d && (Atf.atOk n c && Wk.rsB yr mo k d)))) := by
  rw [unB, if_neg (by decide), Wk.resE]
  cases ho : Wk.onOk k v d with
  | false => simp
  | true =>
    rw [if_pos rfl]
    by_cases hy : 1 ≤ yr ∧ yr ≤ 9999
    · rw [if_pos hy, decide_eq_true hy, Wk.rsB]
      by_cases hm : 1 ≤ mo ∧ mo ≤ 12
      · rw [decide_eq_true hm]
        cases Atf.atOk n c <;> simp
      · have h0 : Cal.mlen yr mo = 0 := Civ.mlen_out hm
        have hn : ¬ Civ.numE yr mo (Wk.rday yr mo k d) = 0 := by
          intro hq
          rw [Civ.numE] at hq
          split at hq
          · rename_i hv
            have hv := of_decide_eq_true hv
            omega
          · omega
        rw [decide_eq_false hn, decide_eq_false hm]
        simp
    · rw [if_neg hy, decide_eq_false hy]
      simp
set_option maxHeartbeats 12800000 in
set_option maxRecDepth 100000 in
theorem re_0 (st kd sv : Int) (ru fm : List UInt8) (un : Bool) (yr mo k v d n c : Int) (w : World) (hru : ru.length ≤ 1000) (hfm : fm.length ≤ 1000) (q0 : Hid (bdayB st = false)) :
    Calls Tryz.prog 17 #[.agg #[.int .i64 st, .int .i64 kd, .int .i64 sv, .string ⟨ru.toArray⟩, .string ⟨fm.toArray⟩, .bool un, .int .i64 yr, .int .i64 mo, .int .i64 k, .int .i64 v, .int .i64 d, .int .i64 n, .int .i64 c]] w fun e w' => e = .returned (.bool false) ∧ Below w.heap.size w w' := by
  have Z1 : Hid ((⟨ru.toArray⟩ : ByteArray).size ≤ 1000) := Lib.hid hru
  have Z2 : Hid ((⟨fm.toArray⟩ : ByteArray).size ≤ 1000) := Lib.hid hfm
  have s1 : (⟨ru.toArray⟩ : ByteArray).size = ru.length := rfl
  have ML : Hid (ru.length ≤ maxLen) := Lib.hid (by unfold maxLen; omega)
  clear hru hfm
  go_enter Tryz.func17, Tryz.ntmps17
  go_wp2_with fail
  refine (rday9_to st false _ q0).mono ?_
  rintro e w' ⟨rfl, rfl⟩
  go_wp2
  go_ret
  exact ⟨rfl, by repeat (first | with_reducible exact Below.refl _ _ | with_reducible refine below_drewN ?_ _ | with_reducible refine Below.drew ?_ | refine Below.alloc ?_ (by simp; try omega) _)⟩
set_option maxHeartbeats 12800000 in
set_option maxRecDepth 100000 in
theorem re_1 (st kd sv : Int) (ru fm : List UInt8) (un : Bool) (yr mo k v d n c : Int) (w : World) (hru : ru.length ≤ 1000) (hfm : fm.length ≤ 1000) (q0 : Hid (bdayB st = true)) (q1 : Hid (Fm.rfB fm = false)) :
    Calls Tryz.prog 17 #[.agg #[.int .i64 st, .int .i64 kd, .int .i64 sv, .string ⟨ru.toArray⟩, .string ⟨fm.toArray⟩, .bool un, .int .i64 yr, .int .i64 mo, .int .i64 k, .int .i64 v, .int .i64 d, .int .i64 n, .int .i64 c]] w fun e w' => e = .returned (.bool false) ∧ Below w.heap.size w w' := by
  have Z1 : Hid ((⟨ru.toArray⟩ : ByteArray).size ≤ 1000) := Lib.hid hru
  have Z2 : Hid ((⟨fm.toArray⟩ : ByteArray).size ≤ 1000) := Lib.hid hfm
  have s1 : (⟨ru.toArray⟩ : ByteArray).size = ru.length := rfl
  have ML : Hid (ru.length ≤ maxLen) := Lib.hid (by unfold maxLen; omega)
  clear hru hfm
  go_enter Tryz.func17, Tryz.ntmps17
  go_wp2_with fail
  refine (rday9_to st true _ q0).mono ?_
  rintro e w' ⟨rfl, rfl⟩
  go_wp2_with fail
  refine (Fm.rfmt_to _ fm false _ Z2.out (Lib.hid rfl) q1).mono ?_
  rintro e w' ⟨rfl, rfl⟩
  go_wp2
  go_ret
  exact ⟨rfl, by repeat (first | with_reducible exact Below.refl _ _ | with_reducible refine below_drewN ?_ _ | with_reducible refine Below.drew ?_ | refine Below.alloc ?_ (by simp; try omega) _)⟩
set_option maxHeartbeats 12800000 in
set_option maxRecDepth 100000 in
theorem re_k (st kd sv : Int) (ru fm : List UInt8) (un : Bool) (yr mo k v d n c : Int) (w : World) (hru : ru.length ≤ 1000) (hfm : fm.length ≤ 1000) (q0 : Hid (bdayB st = true)) (q1 : Hid (Fm.rfB fm = true)) (k1 : (kd == 1) = false) (k2 : (kd == 2) = false) (k3 : (kd == 3) = false) :
    Calls Tryz.prog 17 #[.agg #[.int .i64 st, .int .i64 kd, .int .i64 sv, .string ⟨ru.toArray⟩, .string ⟨fm.toArray⟩, .bool un, .int .i64 yr, .int .i64 mo, .int .i64 k, .int .i64 v, .int .i64 d, .int .i64 n, .int .i64 c]] w fun e w' => e = .returned (.bool false) ∧ Below w.heap.size w w' := by
  have Z1 : Hid ((⟨ru.toArray⟩ : ByteArray).size ≤ 1000) := Lib.hid hru
  have Z2 : Hid ((⟨fm.toArray⟩ : ByteArray).size ≤ 1000) := Lib.hid hfm
  have s1 : (⟨ru.toArray⟩ : ByteArray).size = ru.length := rfl
  have ML : Hid (ru.length ≤ maxLen) := Lib.hid (by unfold maxLen; omega)
  clear hru hfm
  go_enter Tryz.func17, Tryz.ntmps17
  go_wp2_with fail
  refine (rday9_to st true _ q0).mono ?_
  rintro e w' ⟨rfl, rfl⟩
  go_wp2_with fail
  refine (Fm.rfmt_to _ fm true _ Z2.out (Lib.hid rfl) q1).mono ?_
  rintro e w' ⟨rfl, rfl⟩
  go_wp2
  go_ret
  exact ⟨rfl, by repeat (first | with_reducible exact Below.refl _ _ | with_reducible refine below_drewN ?_ _ | with_reducible refine Below.drew ?_ | refine Below.alloc ?_ (by simp; try omega) _)⟩
set_option maxHeartbeats 12800000 in
set_option maxRecDepth 100000 in
theorem re_2a (st sv : Int) (ru fm : List UInt8) (un : Bool) (yr mo k v d n c : Int) (w : World) (hru : ru.length ≤ 1000) (hfm : fm.length ≤ 1000) (q0 : Hid (bdayB st = true)) (q1 : Hid (Fm.rfB fm = true)) (e : (sv == 0) = false) :
    Calls Tryz.prog 17 #[.agg #[.int .i64 st, .int .i64 1, .int .i64 sv, .string ⟨ru.toArray⟩, .string ⟨fm.toArray⟩, .bool un, .int .i64 yr, .int .i64 mo, .int .i64 k, .int .i64 v, .int .i64 d, .int .i64 n, .int .i64 c]] w fun e w' => e = .returned (.bool false) ∧ Below w.heap.size w w' := by
  have Z1 : Hid ((⟨ru.toArray⟩ : ByteArray).size ≤ 1000) := Lib.hid hru
  have Z2 : Hid ((⟨fm.toArray⟩ : ByteArray).size ≤ 1000) := Lib.hid hfm
  have s1 : (⟨ru.toArray⟩ : ByteArray).size = ru.length := rfl
  have ML : Hid (ru.length ≤ maxLen) := Lib.hid (by unfold maxLen; omega)
  clear hru hfm
  go_enter Tryz.func17, Tryz.ntmps17
  have e2 : ¬ sv = 0 := by simpa using e
  go_wp2_with fail
  refine (rday9_to st true _ q0).mono ?_
  rintro e w' ⟨rfl, rfl⟩
  go_wp2_with fail
  refine (Fm.rfmt_to _ fm true _ Z2.out (Lib.hid rfl) q1).mono ?_
  rintro e w' ⟨rfl, rfl⟩
  go_wp2
  go_ret
  exact ⟨rfl, by repeat (first | with_reducible exact Below.refl _ _ | with_reducible refine below_drewN ?_ _ | with_reducible refine Below.drew ?_ | refine Below.alloc ?_ (by simp; try omega) _)⟩
set_option maxHeartbeats 12800000 in
set_option maxRecDepth 100000 in
theorem re_2b (st sv : Int) (ru fm : List UInt8) (un : Bool) (yr mo k v d n c : Int) (w : World) (hru : ru.length ≤ 1000) (hfm : fm.length ≤ 1000) (q0 : Hid (bdayB st = true)) (q1 : Hid (Fm.rfB fm = true)) (s0 : sv = 0) (l0 : 0 < ru.length) :
    Calls Tryz.prog 17 #[.agg #[.int .i64 st, .int .i64 1, .int .i64 sv, .string ⟨ru.toArray⟩, .string ⟨fm.toArray⟩, .bool un, .int .i64 yr, .int .i64 mo, .int .i64 k, .int .i64 v, .int .i64 d, .int .i64 n, .int .i64 c]] w fun e w' => e = .returned (.bool false) ∧ Below w.heap.size w w' := by
  have Z1 : Hid ((⟨ru.toArray⟩ : ByteArray).size ≤ 1000) := Lib.hid hru
  have Z2 : Hid ((⟨fm.toArray⟩ : ByteArray).size ≤ 1000) := Lib.hid hfm
  have s1 : (⟨ru.toArray⟩ : ByteArray).size = ru.length := rfl
  have ML : Hid (ru.length ≤ maxLen) := Lib.hid (by unfold maxLen; omega)
  clear hru hfm
  go_enter Tryz.func17, Tryz.ntmps17
  subst s0
  have ml := ML.out
  unfold maxLen at ml
  go_wp2_with fail
  refine (rday9_to st true _ q0).mono ?_
  rintro e w' ⟨rfl, rfl⟩
  go_wp2_with fail
  refine (Fm.rfmt_to _ fm true _ Z2.out (Lib.hid rfl) q1).mono ?_
  rintro e w' ⟨rfl, rfl⟩
  go_wp2
  go_ret
  exact ⟨rfl, by repeat (first | with_reducible exact Below.refl _ _ | with_reducible refine below_drewN ?_ _ | with_reducible refine Below.drew ?_ | refine Below.alloc ?_ (by simp; try omega) _)⟩
set_option maxHeartbeats 12800000 in
set_option maxRecDepth 100000 in
theorem re_3a (st sv : Int) (ru fm : List UInt8) (un : Bool) (yr mo k v d n c : Int) (w : World) (hru : ru.length ≤ 1000) (hfm : fm.length ≤ 1000) (q0 : Hid (bdayB st = true)) (q1 : Hid (Fm.rfB fm = true)) (q2 : Hid (bdayB sv = false)) :
    Calls Tryz.prog 17 #[.agg #[.int .i64 st, .int .i64 2, .int .i64 sv, .string ⟨ru.toArray⟩, .string ⟨fm.toArray⟩, .bool un, .int .i64 yr, .int .i64 mo, .int .i64 k, .int .i64 v, .int .i64 d, .int .i64 n, .int .i64 c]] w fun e w' => e = .returned (.bool false) ∧ Below w.heap.size w w' := by
  have Z1 : Hid ((⟨ru.toArray⟩ : ByteArray).size ≤ 1000) := Lib.hid hru
  have Z2 : Hid ((⟨fm.toArray⟩ : ByteArray).size ≤ 1000) := Lib.hid hfm
  have s1 : (⟨ru.toArray⟩ : ByteArray).size = ru.length := rfl
  have ML : Hid (ru.length ≤ maxLen) := Lib.hid (by unfold maxLen; omega)
  clear hru hfm
  go_enter Tryz.func17, Tryz.ntmps17
  go_wp2_with fail
  refine (rday9_to st true _ q0).mono ?_
  rintro e w' ⟨rfl, rfl⟩
  go_wp2_with fail
  refine (Fm.rfmt_to _ fm true _ Z2.out (Lib.hid rfl) q1).mono ?_
  rintro e w' ⟨rfl, rfl⟩
  go_wp2_with fail
  refine (rday9_to sv false _ q2).mono ?_
  rintro e w' ⟨rfl, rfl⟩
  go_wp2
  go_ret
  exact ⟨rfl, by repeat (first | with_reducible exact Below.refl _ _ | with_reducible refine below_drewN ?_ _ | with_reducible refine Below.drew ?_ | refine Below.alloc ?_ (by simp; try omega) _)⟩
set_option maxHeartbeats 12800000 in
set_option maxRecDepth 100000 in
theorem re_3b (st sv : Int) (ru fm : List UInt8) (un : Bool) (yr mo k v d n c : Int) (w : World) (hru : ru.length ≤ 1000) (hfm : fm.length ≤ 1000) (q0 : Hid (bdayB st = true)) (q1 : Hid (Fm.rfB fm = true)) (q2 : Hid (bdayB sv = true)) (l0 : 0 < ru.length) :
    Calls Tryz.prog 17 #[.agg #[.int .i64 st, .int .i64 2, .int .i64 sv, .string ⟨ru.toArray⟩, .string ⟨fm.toArray⟩, .bool un, .int .i64 yr, .int .i64 mo, .int .i64 k, .int .i64 v, .int .i64 d, .int .i64 n, .int .i64 c]] w fun e w' => e = .returned (.bool false) ∧ Below w.heap.size w w' := by
  have Z1 : Hid ((⟨ru.toArray⟩ : ByteArray).size ≤ 1000) := Lib.hid hru
  have Z2 : Hid ((⟨fm.toArray⟩ : ByteArray).size ≤ 1000) := Lib.hid hfm
  have s1 : (⟨ru.toArray⟩ : ByteArray).size = ru.length := rfl
  have ML : Hid (ru.length ≤ maxLen) := Lib.hid (by unfold maxLen; omega)
  clear hru hfm
  go_enter Tryz.func17, Tryz.ntmps17
  have ml := ML.out
  unfold maxLen at ml
  go_wp2_with fail
  refine (rday9_to st true _ q0).mono ?_
  rintro e w' ⟨rfl, rfl⟩
  go_wp2_with fail
  refine (Fm.rfmt_to _ fm true _ Z2.out (Lib.hid rfl) q1).mono ?_
  rintro e w' ⟨rfl, rfl⟩
  go_wp2_with fail
  refine (rday9_to sv true _ q2).mono ?_
  rintro e w' ⟨rfl, rfl⟩
  go_wp2
  go_ret
  exact ⟨rfl, by repeat (first | with_reducible exact Below.refl _ _ | with_reducible refine below_drewN ?_ _ | with_reducible refine Below.drew ?_ | refine Below.alloc ?_ (by simp; try omega) _)⟩
set_option maxHeartbeats 12800000 in
set_option maxRecDepth 100000 in
theorem re_4a (st sv : Int) (ru fm : List UInt8) (un : Bool) (yr mo k v d n c : Int) (w : World) (hru : ru.length ≤ 1000) (hfm : fm.length ≤ 1000) (q0 : Hid (bdayB st = true)) (q1 : Hid (Fm.rfB fm = true)) (e : (sv == 0) = false) :
    Calls Tryz.prog 17 #[.agg #[.int .i64 st, .int .i64 3, .int .i64 sv, .string ⟨ru.toArray⟩, .string ⟨fm.toArray⟩, .bool un, .int .i64 yr, .int .i64 mo, .int .i64 k, .int .i64 v, .int .i64 d, .int .i64 n, .int .i64 c]] w fun e w' => e = .returned (.bool false) ∧ Below w.heap.size w w' := by
  have Z1 : Hid ((⟨ru.toArray⟩ : ByteArray).size ≤ 1000) := Lib.hid hru
  have Z2 : Hid ((⟨fm.toArray⟩ : ByteArray).size ≤ 1000) := Lib.hid hfm
  have s1 : (⟨ru.toArray⟩ : ByteArray).size = ru.length := rfl
  have ML : Hid (ru.length ≤ maxLen) := Lib.hid (by unfold maxLen; omega)
  clear hru hfm
  go_enter Tryz.func17, Tryz.ntmps17
  have e2 : ¬ sv = 0 := by simpa using e
  go_wp2_with fail
  refine (rday9_to st true _ q0).mono ?_
  rintro e w' ⟨rfl, rfl⟩
  go_wp2_with fail
  refine (Fm.rfmt_to _ fm true _ Z2.out (Lib.hid rfl) q1).mono ?_
  rintro e w' ⟨rfl, rfl⟩
  go_wp2
  go_ret
  exact ⟨rfl, by repeat (first | with_reducible exact Below.refl _ _ | with_reducible refine below_drewN ?_ _ | with_reducible refine Below.drew ?_ | refine Below.alloc ?_ (by simp; try omega) _)⟩
set_option maxHeartbeats 12800000 in
set_option maxRecDepth 100000 in
theorem re_4b (st sv : Int) (ru fm : List UInt8) (un : Bool) (yr mo k v d n c : Int) (w : World) (hru : ru.length ≤ 1000) (hfm : fm.length ≤ 1000) (q0 : Hid (bdayB st = true)) (q1 : Hid (Fm.rfB fm = true)) (s0 : sv = 0) (q2 : Hid (nameB ru = false)) :
    Calls Tryz.prog 17 #[.agg #[.int .i64 st, .int .i64 3, .int .i64 sv, .string ⟨ru.toArray⟩, .string ⟨fm.toArray⟩, .bool un, .int .i64 yr, .int .i64 mo, .int .i64 k, .int .i64 v, .int .i64 d, .int .i64 n, .int .i64 c]] w fun e w' => e = .returned (.bool false) ∧ Below w.heap.size w w' := by
  have Z1 : Hid ((⟨ru.toArray⟩ : ByteArray).size ≤ 1000) := Lib.hid hru
  have Z2 : Hid ((⟨fm.toArray⟩ : ByteArray).size ≤ 1000) := Lib.hid hfm
  have s1 : (⟨ru.toArray⟩ : ByteArray).size = ru.length := rfl
  have ML : Hid (ru.length ≤ maxLen) := Lib.hid (by unfold maxLen; omega)
  clear hru hfm
  go_enter Tryz.func17, Tryz.ntmps17
  subst s0
  go_wp2_with fail
  refine (rday9_to st true _ q0).mono ?_
  rintro e w' ⟨rfl, rfl⟩
  go_wp2_with fail
  refine (Fm.rfmt_to _ fm true _ Z2.out (Lib.hid rfl) q1).mono ?_
  rintro e w' ⟨rfl, rfl⟩
  go_wp2_with fail
  refine (rnam_to _ ru false _ Z1.out (Lib.hid rfl) q2).mono ?_
  rintro e w' ⟨rfl, rfl⟩
  go_wp2
  go_ret
  exact ⟨rfl, by repeat (first | with_reducible exact Below.refl _ _ | with_reducible refine below_drewN ?_ _ | with_reducible refine Below.drew ?_ | refine Below.alloc ?_ (by simp; try omega) _)⟩
noncomputable def reT14C : Code := (Tryz.f17.body.bind (Tl.from_ 14)).getD .skip
set_option maxHeartbeats 25600000 in
set_option maxRecDepth 100000 in
theorem reT14 (st kd sv : Int) (ru fm : List UInt8) (un : Bool) (yr mo k v d n c : Int) (b : Bool) (g : Nat) (w x : World) (C0 : Hid (Cs g x [.int .i64 st, .int .i64 kd, .int .i64 sv, .string ⟨ru.toArray⟩, .string ⟨fm.toArray⟩, .bool un, .int .i64 yr, .int .i64 mo, .int .i64 k, .int .i64 v, .int .i64 d, .int .i64 n, .int .i64 c])) (B0 : Hid (Below w.heap.size w x)) (h : Hid (unB un yr mo k v d n c = b)) (z0 z2 z3 z4 z5 z6 z7 z8 z9 z10 z11 z12 z13 z14 z15 z16 z17 z18 z19 z20 z21 z22 z23 z24 z25 z26 z27 z28 z29 z30 z31 z32 z33 z34 z35 z36 z37 z38 z39 z40 z41 z42 z43 z44 z45 z46 z47 z48 z49 z50 z51 z52 z53 z54 z55 z56 z57 z58 z59 z60 z61 z62 z63 z64 z65 z66 z67 z68 z69 z70 z71 z72 z73 z74 z75 z76 z77 z78 z79 z80 z81 z82 z83 z84 z85 z86 z87 z88 z89 z90 z91 z92 z93 z94 z95 z96 z97 z98 z99 z100 z101 z102 z103 z104 z105 z106 : Value) : Code.wp Tryz.prog reT14C (bodyPost Tryz.prog Tryz.f17 (fun e w' => e = .returned (.bool b) ∧ Below w.heap.size w w')) ⟨List.toArray (z0 :: .pointer (some ⟨g, 0, none⟩) :: z2 :: z3 :: z4 :: z5 :: z6 :: z7 :: z8 :: z9 :: z10 :: z11 :: z12 :: z13 :: z14 :: z15 :: z16 :: z17 :: z18 :: z19 :: z20 :: z21 :: z22 :: z23 :: z24 :: z25 :: z26 :: z27 :: z28 :: z29 :: z30 :: z31 :: z32 :: z33 :: z34 :: z35 :: z36 :: z37 :: z38 :: z39 :: z40 :: z41 :: z42 :: z43 :: z44 :: z45 :: z46 :: z47 :: z48 :: z49 :: z50 :: z51 :: z52 :: z53 :: z54 :: z55 :: z56 :: z57 :: z58 :: z59 :: z60 :: z61 :: z62 :: z63 :: z64 :: z65 :: z66 :: z67 :: z68 :: z69 :: z70 :: z71 :: z72 :: z73 :: z74 :: z75 :: z76 :: z77 :: z78 :: z79 :: z80 :: z81 :: z82 :: z83 :: z84 :: z85 :: z86 :: z87 :: z88 :: z89 :: z90 :: z91 :: z92 :: z93 :: z94 :: z95 :: z96 :: z97 :: z98 :: z99 :: z100 :: z101 :: z102 :: z103 :: z104 :: z105 :: z106 :: []), []⟩ x := by
  conv => arg 2; whnf
  cases un with
  | false =>
    obtain ⟨E, hE⟩ : ∃ E, Wk.resE yr mo k v d = E := ⟨_, rfl⟩
    have hcs := unb_cases false yr mo k v d n c E b hE h.out
    clear h hE
    have z6 := (C0.out.2 6 _ rfl).1
    have z7 := (C0.out.2 7 _ rfl).1
    have z8 := (C0.out.2 8 _ rfl).1
    have z9 := (C0.out.2 9 _ rfl).1
    have z10 := (C0.out.2 10 _ rfl).1
    have z11 := (C0.out.2 11 _ rfl).1
    have z12 := (C0.out.2 12 _ rfl).1
    have z5 := (C0.out.2 5 _ rfl).1
    rcases hcs with ⟨_, e, rfl⟩ | ⟨_, rfl, e, rfl⟩ | ⟨_, rfl, rfl, e, rfl⟩ | ⟨_, rfl, rfl, rfl, e, rfl⟩ | ⟨_, rfl, rfl, rfl, rfl, e, rfl⟩ | ⟨_, rfl, rfl, rfl, rfl, rfl, e, rfl⟩ | ⟨_, rfl, rfl, rfl, rfl, rfl, rfl, e, rfl⟩ | ⟨_, rfl, rfl, rfl, rfl, rfl, rfl, rfl, rfl⟩ | ⟨h0, _⟩ | ⟨h0, _⟩
    · go_wp2
      go_ret
      exact ⟨rfl, B0.out⟩
    · go_wp2
      go_ret
      exact ⟨rfl, B0.out⟩
    · go_wp2
      go_ret
      exact ⟨rfl, B0.out⟩
    · go_wp2
      go_ret
      exact ⟨rfl, B0.out⟩
    · go_wp2
      go_ret
      exact ⟨rfl, B0.out⟩
    · go_wp2
      go_ret
      exact ⟨rfl, B0.out⟩
    · go_wp2
      go_ret
      exact ⟨rfl, B0.out⟩
    · go_wp2
      go_ret
      exact ⟨rfl, B0.out⟩
    · cases h0
    · cases h0
  | true =>
    have h := h.out
    rw [un_ref] at h
    have z6 := (C0.out.2 6 _ rfl).1
    have z7 := (C0.out.2 7 _ rfl).1
    have z8 := (C0.out.2 8 _ rfl).1
    have z9 := (C0.out.2 9 _ rfl).1
    have z10 := (C0.out.2 10 _ rfl).1
    have z11 := (C0.out.2 11 _ rfl).1
    have z12 := (C0.out.2 12 _ rfl).1
    have z5 := (C0.out.2 5 _ rfl).1
    cases q1 : decide (1 ≤ yr ∧ yr ≤ 9999) with
    | false =>
      rw [q1] at h
      have h : false = b := by simpa using h
      subst h
      go_wp2_with fail
      refine (Fm.rin9_to yr 1 9999 false _ (Lib.hid q1)).mono ?_
      rintro e w' ⟨rfl, rfl⟩
      go_wp2
      go_ret
      exact ⟨rfl, B0.out⟩
    | true =>
      cases q2 : decide (1 ≤ mo ∧ mo ≤ 12) with
      | false =>
        rw [q1, q2] at h
        have h : false = b := by simpa using h
        subst h
        go_wp2_with fail
        refine (Fm.rin9_to yr 1 9999 true _ (Lib.hid q1)).mono ?_
        rintro e w' ⟨rfl, rfl⟩
        go_wp2_with fail
        refine (Fm.rin9_to mo 1 12 false _ (Lib.hid q2)).mono ?_
        rintro e w' ⟨rfl, rfl⟩
        go_wp2
        go_ret
        exact ⟨rfl, B0.out⟩
      | true =>
        cases q3 : Wk.onOk k v d with
        | false =>
          rw [q1, q2, q3] at h
          have h : false = b := by simpa using h
          subst h
          go_wp2_with fail
          refine (Fm.rin9_to yr 1 9999 true _ (Lib.hid q1)).mono ?_
          rintro e w' ⟨rfl, rfl⟩
          go_wp2_with fail
          refine (Fm.rin9_to mo 1 12 true _ (Lib.hid q2)).mono ?_
          rintro e w' ⟨rfl, rfl⟩
          go_wp2_with fail
          refine (ron_b k v d false _ (Lib.hid q3)).mono ?_
          rintro e w2 ⟨rfl, hb2⟩
          have C1 := Lib.hid (C0.out.below hb2)
          have B1 := Lib.hid (bstep B0.out hb2)
          clear hb2 z5 z6 z7 z8 z9 z10 z11 z12 C0 B0
          have y6 := (C1.out.2 6 _ rfl).1
          have y7 := (C1.out.2 7 _ rfl).1
          have y8 := (C1.out.2 8 _ rfl).1
          have y9 := (C1.out.2 9 _ rfl).1
          have y10 := (C1.out.2 10 _ rfl).1
          have y11 := (C1.out.2 11 _ rfl).1
          have y12 := (C1.out.2 12 _ rfl).1
          go_wp2
          go_ret
          exact ⟨rfl, B1.out⟩
        | true =>
          cases q4 : Atf.atOk n c with
          | false =>
            rw [q1, q2, q3, q4] at h
            have h : false = b := by simpa using h
            subst h
            go_wp2_with fail
            refine (Fm.rin9_to yr 1 9999 true _ (Lib.hid q1)).mono ?_
            rintro e w' ⟨rfl, rfl⟩
            go_wp2_with fail
            refine (Fm.rin9_to mo 1 12 true _ (Lib.hid q2)).mono ?_
            rintro e w' ⟨rfl, rfl⟩
            go_wp2_with fail
            refine (ron_b k v d true _ (Lib.hid q3)).mono ?_
            rintro e w2 ⟨rfl, hb2⟩
            have C1 := Lib.hid (C0.out.below hb2)
            have B1 := Lib.hid (bstep B0.out hb2)
            clear hb2 z5 z6 z7 z8 z9 z10 z11 z12 C0 B0
            have y6 := (C1.out.2 6 _ rfl).1
            have y7 := (C1.out.2 7 _ rfl).1
            have y8 := (C1.out.2 8 _ rfl).1
            have y9 := (C1.out.2 9 _ rfl).1
            have y10 := (C1.out.2 10 _ rfl).1
            have y11 := (C1.out.2 11 _ rfl).1
            have y12 := (C1.out.2 12 _ rfl).1
            go_wp2_with fail
            refine (rat_b n c false _ (Lib.hid q4)).mono ?_
            rintro e w3 ⟨rfl, hb3⟩
            have C2 := Lib.hid (C1.out.below hb3)
            have B2 := Lib.hid (bstep B1.out hb3)
            clear hb3 y6 y7 y8 y9 y10 y11 y12 C1 B1
            have x6 := (C2.out.2 6 _ rfl).1
            have x7 := (C2.out.2 7 _ rfl).1
            have x8 := (C2.out.2 8 _ rfl).1
            have x9 := (C2.out.2 9 _ rfl).1
            have x10 := (C2.out.2 10 _ rfl).1
            have x11 := (C2.out.2 11 _ rfl).1
            have x12 := (C2.out.2 12 _ rfl).1
            go_wp2
            go_ret
            exact ⟨rfl, B2.out⟩
          | true =>
            rw [q1, q2, q3, q4] at h
            simp only [Bool.true_and] at h
            have HR := Lib.hid h
            have HY := Lib.hid (of_decide_eq_true q1)
            clear h
            go_wp2_with fail
            refine (Fm.rin9_to yr 1 9999 true _ (Lib.hid q1)).mono ?_
            rintro e w' ⟨rfl, rfl⟩
            go_wp2_with fail
            refine (Fm.rin9_to mo 1 12 true _ (Lib.hid q2)).mono ?_
            rintro e w' ⟨rfl, rfl⟩
            go_wp2_with fail
            refine (ron_b k v d true _ (Lib.hid q3)).mono ?_
            rintro e w2 ⟨rfl, hb2⟩
            have C1 := Lib.hid (C0.out.below hb2)
            have B1 := Lib.hid (bstep B0.out hb2)
            clear hb2 z5 z6 z7 z8 z9 z10 z11 z12 C0 B0
            have y6 := (C1.out.2 6 _ rfl).1
            have y7 := (C1.out.2 7 _ rfl).1
            have y8 := (C1.out.2 8 _ rfl).1
            have y9 := (C1.out.2 9 _ rfl).1
            have y10 := (C1.out.2 10 _ rfl).1
            have y11 := (C1.out.2 11 _ rfl).1
            have y12 := (C1.out.2 12 _ rfl).1
            go_wp2_with fail
            refine (rat_b n c true _ (Lib.hid q4)).mono ?_
            rintro e w3 ⟨rfl, hb3⟩
            have C2 := Lib.hid (C1.out.below hb3)
            have B2 := Lib.hid (bstep B1.out hb3)
            clear hb3 y6 y7 y8 y9 y10 y11 y12 C1 B1
            have x6 := (C2.out.2 6 _ rfl).1
            have x7 := (C2.out.2 7 _ rfl).1
            have x8 := (C2.out.2 8 _ rfl).1
            have x9 := (C2.out.2 9 _ rfl).1
            have x10 := (C2.out.2 10 _ rfl).1
            have x11 := (C2.out.2 11 _ rfl).1
            have x12 := (C2.out.2 12 _ rfl).1
            go_wp2_with fail
            refine (Wk.rres_any yr mo k v d _ q3 HY.out.1 HY.out.2).mono ?_
            rintro e w5 ⟨rfl, hb5⟩
            have B3 := Lib.hid (bstep B2.out hb5)
            clear hb5 C2 B2 x6 x7 x8 x9 x10 x11 x12
            rw [HR.out]
            go_wp2
            go_ret
            exact ⟨rfl, B3.out⟩

set_option maxHeartbeats 12800000 in
set_option maxRecDepth 100000 in
theorem re_a1 (st sv : Int) (fm : List UInt8) (un : Bool) (yr mo k v d n c : Int) (b : Bool) (w : World) (hru : ([] : List UInt8).length ≤ 1000) (hfm : fm.length ≤ 1000) (q0 : Hid (bdayB st = true)) (q1 : Hid (Fm.rfB fm = true)) (s0 : sv = 0) (hu : Hid (unB un yr mo k v d n c = b)) :
    Calls Tryz.prog 17 #[.agg #[.int .i64 st, .int .i64 1, .int .i64 sv, .string ⟨[].toArray⟩, .string ⟨fm.toArray⟩, .bool un, .int .i64 yr, .int .i64 mo, .int .i64 k, .int .i64 v, .int .i64 d, .int .i64 n, .int .i64 c]] w fun e w' => e = .returned (.bool b) ∧ Below w.heap.size w w' := by
  have Z1 : Hid ((⟨([] : List UInt8).toArray⟩ : ByteArray).size ≤ 1000) := Lib.hid hru
  have Z2 : Hid ((⟨fm.toArray⟩ : ByteArray).size ≤ 1000) := Lib.hid hfm
  clear hru hfm
  have C0 := Lib.hid (Cs.new w [.int .i64 st, .int .i64 1, .int .i64 sv, .string ⟨[].toArray⟩, .string ⟨fm.toArray⟩, .bool un, .int .i64 yr, .int .i64 mo, .int .i64 k, .int .i64 v, .int .i64 d, .int .i64 n, .int .i64 c] 30)
  have B0 := Lib.hid ((Below.refl w.heap.size w).alloc (Nat.le_refl _) (Obj.cells #[.int .i64 st, .int .i64 1, .int .i64 sv, .string ⟨[].toArray⟩, .string ⟨fm.toArray⟩, .bool un, .int .i64 yr, .int .i64 mo, .int .i64 k, .int .i64 v, .int .i64 d, .int .i64 n, .int .i64 c] 30))
  subst s0
  go_enter Tryz.func17, Tryz.ntmps17
  go_wp2_with fail
  refine (rday9_to st true _ q0).mono ?_
  rintro e w' ⟨rfl, rfl⟩
  go_wp2_with fail
  refine (Fm.rfmt_to _ fm true _ Z2.out (Lib.hid rfl) q1).mono ?_
  rintro e w' ⟨rfl, rfl⟩
  try go_simp
  repeat (first | (apply_assumption; exact reT14 st 1 0 [] fm un yr mo k v d n c b _ w _ C0 B0 hu _ _ _ _ _ _ _ _ _ _ _ _ _ _ _ _ _ _ _ _ _ _ _ _ _ _ _ _ _ _ _ _ _ _ _ _ _ _ _ _ _ _ _ _ _ _ _ _ _ _ _ _ _ _ _ _ _ _ _ _ _ _ _ _ _ _ _ _ _ _ _ _ _ _ _ _ _ _ _ _ _ _ _ _ _ _ _ _ _ _ _ _ _ _ _ _ _ _ _ _ _ _ _ _ _ _; done) | (go_not_at_region 14; first | (go_says fail) | go_values | go_skip | go_guarded | go_step | go_upon | go_back | (simp only [Int.not_lt, Int.not_le] at *; go_simp) | (go_values <;> (try go_simp)) | (go_ite <;> go_prune <;> (try go_simp))))
set_option maxHeartbeats 12800000 in
set_option maxRecDepth 100000 in
theorem re_a2 (st sv : Int) (fm : List UInt8) (un : Bool) (yr mo k v d n c : Int) (b : Bool) (w : World) (hru : ([] : List UInt8).length ≤ 1000) (hfm : fm.length ≤ 1000) (q0 : Hid (bdayB st = true)) (q1 : Hid (Fm.rfB fm = true)) (q2 : Hid (bdayB sv = true)) (hu : Hid (unB un yr mo k v d n c = b)) :
    Calls Tryz.prog 17 #[.agg #[.int .i64 st, .int .i64 2, .int .i64 sv, .string ⟨[].toArray⟩, .string ⟨fm.toArray⟩, .bool un, .int .i64 yr, .int .i64 mo, .int .i64 k, .int .i64 v, .int .i64 d, .int .i64 n, .int .i64 c]] w fun e w' => e = .returned (.bool b) ∧ Below w.heap.size w w' := by
  have Z1 : Hid ((⟨([] : List UInt8).toArray⟩ : ByteArray).size ≤ 1000) := Lib.hid hru
  have Z2 : Hid ((⟨fm.toArray⟩ : ByteArray).size ≤ 1000) := Lib.hid hfm
  clear hru hfm
  have C0 := Lib.hid (Cs.new w [.int .i64 st, .int .i64 2, .int .i64 sv, .string ⟨[].toArray⟩, .string ⟨fm.toArray⟩, .bool un, .int .i64 yr, .int .i64 mo, .int .i64 k, .int .i64 v, .int .i64 d, .int .i64 n, .int .i64 c] 30)
  have B0 := Lib.hid ((Below.refl w.heap.size w).alloc (Nat.le_refl _) (Obj.cells #[.int .i64 st, .int .i64 2, .int .i64 sv, .string ⟨[].toArray⟩, .string ⟨fm.toArray⟩, .bool un, .int .i64 yr, .int .i64 mo, .int .i64 k, .int .i64 v, .int .i64 d, .int .i64 n, .int .i64 c] 30))
  go_enter Tryz.func17, Tryz.ntmps17
  go_wp2_with fail
  refine (rday9_to st true _ q0).mono ?_
  rintro e w' ⟨rfl, rfl⟩
  go_wp2_with fail
  refine (Fm.rfmt_to _ fm true _ Z2.out (Lib.hid rfl) q1).mono ?_
  rintro e w' ⟨rfl, rfl⟩
  go_wp2_with fail
  refine (rday9_to sv true _ q2).mono ?_
  rintro e w' ⟨rfl, rfl⟩
  try go_simp
  repeat (first | (apply_assumption; exact reT14 st 2 sv [] fm un yr mo k v d n c b _ w _ C0 B0 hu _ _ _ _ _ _ _ _ _ _ _ _ _ _ _ _ _ _ _ _ _ _ _ _ _ _ _ _ _ _ _ _ _ _ _ _ _ _ _ _ _ _ _ _ _ _ _ _ _ _ _ _ _ _ _ _ _ _ _ _ _ _ _ _ _ _ _ _ _ _ _ _ _ _ _ _ _ _ _ _ _ _ _ _ _ _ _ _ _ _ _ _ _ _ _ _ _ _ _ _ _ _ _ _ _ _; done) | (go_not_at_region 14; first | (go_says fail) | go_values | go_skip | go_guarded | go_step | go_upon | go_back | (simp only [Int.not_lt, Int.not_le] at *; go_simp) | (go_values <;> (try go_simp)) | (go_ite <;> go_prune <;> (try go_simp))))
set_option maxHeartbeats 12800000 in
set_option maxRecDepth 100000 in
theorem re_a3 (st sv : Int) (ru fm : List UInt8) (un : Bool) (yr mo k v d n c : Int) (b : Bool) (w : World) (hru : ru.length ≤ 1000) (hfm : fm.length ≤ 1000) (q0 : Hid (bdayB st = true)) (q1 : Hid (Fm.rfB fm = true)) (s0 : sv = 0) (q2 : Hid (nameB ru = true)) (hu : Hid (unB un yr mo k v d n c = b)) :
    Calls Tryz.prog 17 #[.agg #[.int .i64 st, .int .i64 3, .int .i64 sv, .string ⟨ru.toArray⟩, .string ⟨fm.toArray⟩, .bool un, .int .i64 yr, .int .i64 mo, .int .i64 k, .int .i64 v, .int .i64 d, .int .i64 n, .int .i64 c]] w fun e w' => e = .returned (.bool b) ∧ Below w.heap.size w w' := by
  have Z1 : Hid ((⟨ru.toArray⟩ : ByteArray).size ≤ 1000) := Lib.hid hru
  have Z2 : Hid ((⟨fm.toArray⟩ : ByteArray).size ≤ 1000) := Lib.hid hfm
  clear hru hfm
  have C0 := Lib.hid (Cs.new w [.int .i64 st, .int .i64 3, .int .i64 sv, .string ⟨ru.toArray⟩, .string ⟨fm.toArray⟩, .bool un, .int .i64 yr, .int .i64 mo, .int .i64 k, .int .i64 v, .int .i64 d, .int .i64 n, .int .i64 c] 30)
  have B0 := Lib.hid ((Below.refl w.heap.size w).alloc (Nat.le_refl _) (Obj.cells #[.int .i64 st, .int .i64 3, .int .i64 sv, .string ⟨ru.toArray⟩, .string ⟨fm.toArray⟩, .bool un, .int .i64 yr, .int .i64 mo, .int .i64 k, .int .i64 v, .int .i64 d, .int .i64 n, .int .i64 c] 30))
  subst s0
  go_enter Tryz.func17, Tryz.ntmps17
  go_wp2_with fail
  refine (rday9_to st true _ q0).mono ?_
  rintro e w' ⟨rfl, rfl⟩
  go_wp2_with fail
  refine (Fm.rfmt_to _ fm true _ Z2.out (Lib.hid rfl) q1).mono ?_
  rintro e w' ⟨rfl, rfl⟩
  go_wp2_with fail
  refine (rnam_to _ ru true _ Z1.out (Lib.hid rfl) q2).mono ?_
  rintro e w' ⟨rfl, rfl⟩
  try go_simp
  repeat (first | (apply_assumption; exact reT14 st 3 0 ru fm un yr mo k v d n c b _ w _ C0 B0 hu _ _ _ _ _ _ _ _ _ _ _ _ _ _ _ _ _ _ _ _ _ _ _ _ _ _ _ _ _ _ _ _ _ _ _ _ _ _ _ _ _ _ _ _ _ _ _ _ _ _ _ _ _ _ _ _ _ _ _ _ _ _ _ _ _ _ _ _ _ _ _ _ _ _ _ _ _ _ _ _ _ _ _ _ _ _ _ _ _ _ _ _ _ _ _ _ _ _ _ _ _ _ _ _ _ _; done) | (go_not_at_region 14; first | (go_says fail) | go_values | go_skip | go_guarded | go_step | go_upon | go_back | (simp only [Int.not_lt, Int.not_le] at *; go_simp) | (go_values <;> (try go_simp)) | (go_ite <;> go_prune <;> (try go_simp))))
theorem rera_to (st kd sv : Int) (ru fm : List UInt8) (un : Bool) (yr mo k v d n c : Int) (b : Bool) (w : World) (hru : ru.length ≤ 1000) (hfm : fm.length ≤ 1000) (h : Hid (rgB ⟨st, kd, sv, ru, fm, un, yr, mo, k, v, d, n, c⟩ = b)) :
    Calls Tryz.prog 17 #[.agg #[.int .i64 st, .int .i64 kd, .int .i64 sv, .string ⟨ru.toArray⟩, .string ⟨fm.toArray⟩, .bool un, .int .i64 yr, .int .i64 mo, .int .i64 k, .int .i64 v, .int .i64 d, .int .i64 n, .int .i64 c]] w fun e w' => e = .returned (.bool b) ∧ Below w.heap.size w w' := by
  have h : (bday st && (svB kd sv ru && (Fm.fmtB fm && unB un yr mo k v d n c))) = b := h.out
  rw [bday_b, ← Fm.rf_eq] at h
  cases q0 : bdayB st with
  | false =>
    rw [q0] at h
    have h : false = b := by simpa using h
    subst h
    exact re_0 st kd sv ru fm un yr mo k v d n c w hru hfm (Lib.hid q0)
  | true =>
    cases q1 : Fm.rfB fm with
    | false =>
      rw [q0, q1] at h
      have h : false = b := by simpa using h
      subst h
      exact re_1 st kd sv ru fm un yr mo k v d n c w hru hfm (Lib.hid q0) (Lib.hid q1)
    | true =>
      rw [q0, q1, Bool.true_and, Bool.true_and] at h
      by_cases k1 : kd = 1
      · subst k1
        rw [svB, if_pos rfl] at h
        by_cases s0 : sv = 0
        · by_cases l0 : ru = []
          · subst l0
            have h : unB un yr mo k v d n c = b := by rw [← h]; simp [s0]
            exact re_a1 st sv fm un yr mo k v d n c b w hru hfm (Lib.hid q0) (Lib.hid q1) s0 (Lib.hid h)
          · have h : false = b := by rw [← h]; simp [l0]
            subst h
            exact re_2b st sv ru fm un yr mo k v d n c w hru hfm (Lib.hid q0) (Lib.hid q1) s0 (List.length_pos_iff.2 l0)
        · have h : false = b := by rw [← h]; simp [s0]
          subst h
          exact re_2a st sv ru fm un yr mo k v d n c w hru hfm (Lib.hid q0) (Lib.hid q1) (beq_eq_false_iff_ne.2 s0)
      by_cases k2 : kd = 2
      · subst k2
        rw [svB, if_neg (by decide), if_pos rfl, bday_b] at h
        cases q2 : bdayB sv with
        | true =>
          by_cases l0 : ru = []
          · subst l0
            have h : unB un yr mo k v d n c = b := by rw [← h]; simp [q2]
            exact re_a2 st sv fm un yr mo k v d n c b w hru hfm (Lib.hid q0) (Lib.hid q1) (Lib.hid q2) (Lib.hid h)
          · have h : false = b := by rw [← h]; simp [l0]
            subst h
            exact re_3b st sv ru fm un yr mo k v d n c w hru hfm (Lib.hid q0) (Lib.hid q1) (Lib.hid q2) (List.length_pos_iff.2 l0)
        | false =>
          have h : false = b := by rw [← h]; simp [q2]
          subst h
          exact re_3a st sv ru fm un yr mo k v d n c w hru hfm (Lib.hid q0) (Lib.hid q1) (Lib.hid q2)
      by_cases k3 : kd = 3
      · subst k3
        rw [svB, if_neg (by decide), if_neg (by decide), if_pos rfl] at h
        by_cases s0 : sv = 0
        · cases q2 : nameB ru with
          | true =>
            have h : unB un yr mo k v d n c = b := by rw [← h]; simp [s0, q2]
            exact re_a3 st sv ru fm un yr mo k v d n c b w hru hfm (Lib.hid q0) (Lib.hid q1) s0 (Lib.hid q2) (Lib.hid h)
          | false =>
            have h : false = b := by rw [← h]; simp [q2]
            subst h
            exact re_4b st sv ru fm un yr mo k v d n c w hru hfm (Lib.hid q0) (Lib.hid q1) s0 (Lib.hid q2)
        · have h : false = b := by rw [← h]; simp [s0]
          subst h
          exact re_4a st sv ru fm un yr mo k v d n c w hru hfm (Lib.hid q0) (Lib.hid q1) (beq_eq_false_iff_ne.2 s0)
      · have h : false = b := by rw [← h, svB, if_neg k1, if_neg k2, if_neg k3]; rfl
        subst h
        exact re_k st kd sv ru fm un yr mo k v d n c w hru hfm (Lib.hid q0) (Lib.hid q1) (beq_eq_false_iff_ne.2 k1) (beq_eq_false_iff_ne.2 k2) (beq_eq_false_iff_ne.2 k3)
end Zon
end Go.Proofs.YthefgagmjamdkaaGreatDoor
