/-
  Contracts of package rule: Check, part 1. (Written by gen/gen_rula.py.)
-/
import Derived.Test.YtpcnpacllkiieaaGreatDoorRulA
namespace Go.Proofs.YtpcnpacllkiieaaGreatDoor
open Go.RowKit
namespace Rul
open Sol Clk Cel
set_option maxHeartbeats 12800000 in
set_option maxRecDepth 100000 in
theorem rchk0 (nm lt : List UInt8) (fr tu mo k v d n c sv : Int) (w : World) (hnm : nm.length ≤ 1000000) (hlt : lt.length ≤ 1000000) (q0 : Hid (nameB nm = false)) :
    Calls Tryz.prog 24 #[.agg #[.string ⟨nm.toArray⟩, .int .i64 fr, .int .i64 tu, .int .i64 mo, .int .i64 k, .int .i64 v, .int .i64 d, .int .i64 n, .int .i64 c, .int .i64 sv, .string ⟨lt.toArray⟩]] w fun x w' => x = .returned (.int .i64 10) ∧ Below w.heap.size w w' := by
  have Z1 : Hid ((⟨nm.toArray⟩ : ByteArray).size ≤ 1000000) := Lib.hid hnm
  have Z2 : Hid ((⟨lt.toArray⟩ : ByteArray).size ≤ 1000000) := Lib.hid hlt
  clear hnm hlt
  go_enter Tryz.func24, Tryz.ntmps24

  go_wp2_with fail
  refine (nam_to _ nm false _ Z1.out (Lib.hid rfl) q0).mono ?_
  rintro e w1 ⟨rfl, rfl⟩
  go_wp2
  go_ret
  exact ⟨rfl, by repeat (first | with_reducible exact Below.refl _ _ | refine Below.setCell ?_ (by simp) _ | refine below_drewN ?_ _ | refine Below.drew ?_ | refine Below.alloc ?_ (by simp; try omega) _)⟩
set_option maxHeartbeats 12800000 in
set_option maxRecDepth 100000 in
theorem rchk1 (nm lt : List UInt8) (fr tu mo k v d n c sv : Int) (w : World) (hnm : nm.length ≤ 1000000) (hlt : lt.length ≤ 1000000) (q0 : Hid (nameB nm = true)) (q1 : Hid (Fm.letB lt = false)) :
    Calls Tryz.prog 24 #[.agg #[.string ⟨nm.toArray⟩, .int .i64 fr, .int .i64 tu, .int .i64 mo, .int .i64 k, .int .i64 v, .int .i64 d, .int .i64 n, .int .i64 c, .int .i64 sv, .string ⟨lt.toArray⟩]] w fun x w' => x = .returned (.int .i64 10) ∧ Below w.heap.size w w' := by
  have Z1 : Hid ((⟨nm.toArray⟩ : ByteArray).size ≤ 1000000) := Lib.hid hnm
  have Z2 : Hid ((⟨lt.toArray⟩ : ByteArray).size ≤ 1000000) := Lib.hid hlt
  clear hnm hlt
  go_enter Tryz.func24, Tryz.ntmps24

  go_wp2_with fail
  refine (nam_to _ nm true _ Z1.out (Lib.hid rfl) q0).mono ?_
  rintro e w1 ⟨rfl, rfl⟩
  go_wp2_with fail
  refine (let2_to _ lt false _ Z2.out (Lib.hid rfl) q1).mono ?_
  rintro e w1 ⟨rfl, rfl⟩
  go_wp2
  go_ret
  exact ⟨rfl, by repeat (first | with_reducible exact Below.refl _ _ | refine Below.setCell ?_ (by simp) _ | refine below_drewN ?_ _ | refine Below.drew ?_ | refine Below.alloc ?_ (by simp; try omega) _)⟩
set_option maxHeartbeats 12800000 in
set_option maxRecDepth 100000 in
theorem rchk2 (nm lt : List UInt8) (fr tu mo k v d n c sv : Int) (w : World) (hnm : nm.length ≤ 1000000) (hlt : lt.length ≤ 1000000) (q0 : Hid (nameB nm = true)) (q1 : Hid (Fm.letB lt = true)) (q2 : ¬ 1 ≤ fr) :
    Calls Tryz.prog 24 #[.agg #[.string ⟨nm.toArray⟩, .int .i64 fr, .int .i64 tu, .int .i64 mo, .int .i64 k, .int .i64 v, .int .i64 d, .int .i64 n, .int .i64 c, .int .i64 sv, .string ⟨lt.toArray⟩]] w fun x w' => x = .returned (.int .i64 10) ∧ Below w.heap.size w w' := by
  have Z1 : Hid ((⟨nm.toArray⟩ : ByteArray).size ≤ 1000000) := Lib.hid hnm
  have Z2 : Hid ((⟨lt.toArray⟩ : ByteArray).size ≤ 1000000) := Lib.hid hlt
  clear hnm hlt
  go_enter Tryz.func24, Tryz.ntmps24

  go_wp2_with fail
  refine (nam_to _ nm true _ Z1.out (Lib.hid rfl) q0).mono ?_
  rintro e w1 ⟨rfl, rfl⟩
  go_wp2_with fail
  refine (let2_to _ lt true _ Z2.out (Lib.hid rfl) q1).mono ?_
  rintro e w1 ⟨rfl, rfl⟩
  go_wp2
  go_ret
  exact ⟨rfl, by repeat (first | with_reducible exact Below.refl _ _ | refine Below.setCell ?_ (by simp) _ | refine below_drewN ?_ _ | refine Below.drew ?_ | refine Below.alloc ?_ (by simp; try omega) _)⟩
set_option maxHeartbeats 12800000 in
set_option maxRecDepth 100000 in
theorem rchk3 (nm lt : List UInt8) (fr tu mo k v d n c sv : Int) (w : World) (hnm : nm.length ≤ 1000000) (hlt : lt.length ≤ 1000000) (q0 : Hid (nameB nm = true)) (q1 : Hid (Fm.letB lt = true)) (q2 : 1 ≤ fr) (q3 : ¬ fr ≤ tu) :
    Calls Tryz.prog 24 #[.agg #[.string ⟨nm.toArray⟩, .int .i64 fr, .int .i64 tu, .int .i64 mo, .int .i64 k, .int .i64 v, .int .i64 d, .int .i64 n, .int .i64 c, .int .i64 sv, .string ⟨lt.toArray⟩]] w fun x w' => x = .returned (.int .i64 10) ∧ Below w.heap.size w w' := by
  have Z1 : Hid ((⟨nm.toArray⟩ : ByteArray).size ≤ 1000000) := Lib.hid hnm
  have Z2 : Hid ((⟨lt.toArray⟩ : ByteArray).size ≤ 1000000) := Lib.hid hlt
  clear hnm hlt
  go_enter Tryz.func24, Tryz.ntmps24

  go_wp2_with fail
  refine (nam_to _ nm true _ Z1.out (Lib.hid rfl) q0).mono ?_
  rintro e w1 ⟨rfl, rfl⟩
  go_wp2_with fail
  refine (let2_to _ lt true _ Z2.out (Lib.hid rfl) q1).mono ?_
  rintro e w1 ⟨rfl, rfl⟩
  go_wp2
  go_ret
  exact ⟨rfl, by repeat (first | with_reducible exact Below.refl _ _ | refine Below.setCell ?_ (by simp) _ | refine below_drewN ?_ _ | refine Below.drew ?_ | refine Below.alloc ?_ (by simp; try omega) _)⟩
set_option maxHeartbeats 12800000 in
set_option maxRecDepth 100000 in
theorem rchk4 (nm lt : List UInt8) (fr tu mo k v d n c sv : Int) (w : World) (hnm : nm.length ≤ 1000000) (hlt : lt.length ≤ 1000000) (q0 : Hid (nameB nm = true)) (q1 : Hid (Fm.letB lt = true)) (q2 : 1 ≤ fr) (q3 : fr ≤ tu) (q4 : ¬ tu ≤ 9999) :
    Calls Tryz.prog 24 #[.agg #[.string ⟨nm.toArray⟩, .int .i64 fr, .int .i64 tu, .int .i64 mo, .int .i64 k, .int .i64 v, .int .i64 d, .int .i64 n, .int .i64 c, .int .i64 sv, .string ⟨lt.toArray⟩]] w fun x w' => x = .returned (.int .i64 10) ∧ Below w.heap.size w w' := by
  have Z1 : Hid ((⟨nm.toArray⟩ : ByteArray).size ≤ 1000000) := Lib.hid hnm
  have Z2 : Hid ((⟨lt.toArray⟩ : ByteArray).size ≤ 1000000) := Lib.hid hlt
  clear hnm hlt
  go_enter Tryz.func24, Tryz.ntmps24

  go_wp2_with fail
  refine (nam_to _ nm true _ Z1.out (Lib.hid rfl) q0).mono ?_
  rintro e w1 ⟨rfl, rfl⟩
  go_wp2_with fail
  refine (let2_to _ lt true _ Z2.out (Lib.hid rfl) q1).mono ?_
  rintro e w1 ⟨rfl, rfl⟩
  go_wp2
  go_ret
  exact ⟨rfl, by repeat (first | with_reducible exact Below.refl _ _ | refine Below.setCell ?_ (by simp) _ | refine below_drewN ?_ _ | refine Below.drew ?_ | refine Below.alloc ?_ (by simp; try omega) _)⟩
end Rul
end Go.Proofs.YtpcnpacllkiieaaGreatDoor
