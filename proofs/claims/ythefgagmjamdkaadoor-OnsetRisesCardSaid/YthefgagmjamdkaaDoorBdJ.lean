/-
  Several texts in one (RulC1, RulC2, RulC3).
-/
import Derived.Test.YthefgagmjamdkaaDoorBdI
/-
  Contracts of package rule: Check, part 1. (Written by gen/gen_rula.py.)
-/
namespace Go.Proofs.YthefgagmjamdkaaDoor
open Go.RowKit
namespace Rul
open Sol Clk Cel
set_option maxHeartbeats 12800000 in
set_option maxRecDepth 100000 in
theorem rchk0 (nm lt : List UInt8) (fr tu mo k v d n c sv : Int) (w : World) (hnm : nm.length ≤ 1000000) (hlt : lt.length ≤ 1000000) (q0 : Hid (nameB nm = false)) :
    Calls Tryd.prog 33 #[.agg #[.string ⟨nm.toArray⟩, .int .i64 fr, .int .i64 tu, .int .i64 mo, .int .i64 k, .int .i64 v, .int .i64 d, .int .i64 n, .int .i64 c, .int .i64 sv, .string ⟨lt.toArray⟩]] w fun x w' => x = .returned (.int .i64 10) ∧ Below w.heap.size w w' := by
  have Z1 : Hid ((⟨nm.toArray⟩ : ByteArray).size ≤ 1000000) := Lib.hid hnm
  have Z2 : Hid ((⟨lt.toArray⟩ : ByteArray).size ≤ 1000000) := Lib.hid hlt
  clear hnm hlt
  go_enter Tryd.func33, Tryd.ntmps33

  go_wp2_with fail
  refine (nam_to _ nm false _ Z1.out (Lib.hid rfl) q0).mono ?_
  rintro e w1 ⟨rfl, rfl⟩
  go_wp2
  go_ret
  exact ⟨rfl, by repeat (first | with_reducible exact Below.refl _ _ | refine Below.setCell ?_ (by simp) _ | refine below_drewN ?_ _ | refine Below.drew ?_ | refine Below.alloc ?_ (by simp; try omega) _)⟩
set_option maxHeartbeats 12800000 in
set_option maxRecDepth 100000 in
theorem rchk1 (nm lt : List UInt8) (fr tu mo k v d n c sv : Int) (w : World) (hnm : nm.length ≤ 1000000) (hlt : lt.length ≤ 1000000) (q0 : Hid (nameB nm = true)) (q1 : Hid (Fm.letB lt = false)) :
    Calls Tryd.prog 33 #[.agg #[.string ⟨nm.toArray⟩, .int .i64 fr, .int .i64 tu, .int .i64 mo, .int .i64 k, .int .i64 v, .int .i64 d, .int .i64 n, .int .i64 c, .int .i64 sv, .string ⟨lt.toArray⟩]] w fun x w' => x = .returned (.int .i64 10) ∧ Below w.heap.size w w' := by
  have Z1 : Hid ((⟨nm.toArray⟩ : ByteArray).size ≤ 1000000) := Lib.hid hnm
  have Z2 : Hid ((⟨lt.toArray⟩ : ByteArray).size ≤ 1000000) := Lib.hid hlt
  clear hnm hlt
  go_enter Tryd.func33, Tryd.ntmps33

  go_wp2_with fail
  refine (nam_to _ nm true _ Z1.out (Lib.hid rfl) q0).mono ?_
  rintro e w1 ⟨rfl, rfl⟩
  go_wp2_with fail
  refine (let2_to _ lt false _ Z2.out (Lib.hid rfl) q1).mono ?_
  rintro e w1 ⟨rfl, rfl⟩
  go_wp2
  go_ret
  exact ⟨rfl, by repeat (first | with_reducible exact Below.refl _ _ | refine Below.setCell ?_ (by simp) _ | refine below_drewN ?_ _ | refine Below.drew ?_ | refine Below.alloc ?_ (by simp; try omega) _)⟩
set_option maxHeartbeats 12800000 in
set_option maxRecDepth 100000 in
theorem rchk2 (nm lt : List UInt8) (fr tu mo k v d n c sv : Int) (w : World) (hnm : nm.length ≤ 1000000) (hlt : lt.length ≤ 1000000) (q0 : Hid (nameB nm = true)) (q1 : Hid (Fm.letB lt = true)) (q2 : ¬ 1 ≤ fr) :
    Calls Tryd.prog 33 #[.agg #[.string ⟨nm.toArray⟩, .int .i64 fr, .int .i64 tu, .int .i64 mo, .int .i64 k, .int .i64 v, .int .i64 d, .int .i64 n, .int .i64 c, .int .i64 sv, .string ⟨lt.toArray⟩]] w fun x w' => x = .returned (.int .i64 10) ∧ Below w.heap.size w w' := by
  have Z1 : Hid ((⟨nm.toArray⟩ : ByteArray).size ≤ 1000000) := Lib.hid hnm
  have Z2 : Hid ((⟨lt.toArray⟩ : ByteArray).size ≤ 1000000) := Lib.hid hlt
  clear hnm hlt
  go_enter Tryd.func33, Tryd.ntmps33

  go_wp2_with fail
  refine (nam_to _ nm true _ Z1.out (Lib.hid rfl) q0).mono ?_
  rintro e w1 ⟨rfl, rfl⟩
  go_wp2_with fail
  refine (let2_to _ lt true _ Z2.out (Lib.hid rfl) q1).mono ?_
  rintro e w1 ⟨rfl, rfl⟩
  go_wp2
  go_ret
  exact ⟨rfl, by repeat (first | with_reducible exact Below.refl _ _ | refine Below.setCell ?_ (by simp) _ | refine below_drewN ?_ _ | refine Below.drew ?_ | refine Below.alloc ?_ (by simp; try omega) _)⟩
set_option maxHeartbeats 12800000 in
set_option maxRecDepth 100000 in
theorem rchk3 (nm lt : List UInt8) (fr tu mo k v d n c sv : Int) (w : World) (hnm : nm.length ≤ 1000000) (hlt : lt.length ≤ 1000000) (q0 : Hid (nameB nm = true)) (q1 : Hid (Fm.letB lt = true)) (q2 : 1 ≤ fr) (q3 : ¬ fr ≤ tu) :
    Calls Tryd.prog 33 #[.agg #[.string ⟨nm.toArray⟩, .int .i64 fr, .int .i64 tu, .int .i64 mo, .int .i64 k, .int .i64 v, .int .i64 d, .int .i64 n, .int .i64 c, .int .i64 sv, .string ⟨lt.toArray⟩]] w fun x w' => x = .returned (.int .i64 10) ∧ Below w.heap.size w w' := by
  have Z1 : Hid ((⟨nm.toArray⟩ : ByteArray).size ≤ 1000000) := Lib.hid hnm
  have Z2 : Hid ((⟨lt.toArray⟩ : ByteArray).size ≤ 1000000) := Lib.hid hlt
  clear hnm hlt
  go_enter Tryd.func33, Tryd.ntmps33

  go_wp2_with fail
  refine (nam_to _ nm true _ Z1.out (Lib.hid rfl) q0).mono ?_
  rintro e w1 ⟨rfl, rfl⟩
  go_wp2_with fail
  refine (let2_to _ lt true _ Z2.out (Lib.hid rfl) q1).mono ?_
  rintro e w1 ⟨rfl, rfl⟩
  go_wp2
  go_ret
  exact ⟨rfl, by repeat (first | with_reducible exact Below.refl _ _ | refine Below.setCell ?_ (by simp) _ | refine below_drewN ?_ _ | refine Below.drew ?_ | refine Below.alloc ?_ (by simp; try omega) _)⟩
set_option maxHeartbeats 12800000 in
set_option maxRecDepth 100000 in
theorem rchk4 (nm lt : List UInt8) (fr tu mo k v d n c sv : Int) (w : World) (hnm : nm.length ≤ 1000000) (hlt : lt.length ≤ 1000000) (q0 : Hid (nameB nm = true)) (q1 : Hid (Fm.letB lt = true)) (q2 : 1 ≤ fr) (q3 : fr ≤ tu) (q4 : ¬ tu ≤ 9999) :
    Calls Tryd.prog 33 #[.agg #[.string ⟨nm.toArray⟩, .int .i64 fr, .int .i64 tu, .int .i64 mo, .int .i64 k, .int .i64 v, .int .i64 d, .int .i64 n, .int .i64 c, .int .i64 sv, .string ⟨lt.toArray⟩]] w fun x w' => x = .returned (.int .i64 10) ∧ Below w.heap.size w w' := by
  have Z1 : Hid ((⟨nm.toArray⟩ : ByteArray).size ≤ 1000000) := Lib.hid hnm
  have Z2 : Hid ((⟨lt.toArray⟩ : ByteArray).size ≤ 1000000) := Lib.hid hlt
  clear hnm hlt
  go_enter Tryd.func33, Tryd.ntmps33

  go_wp2_with fail
  refine (nam_to _ nm true _ Z1.out (Lib.hid rfl) q0).mono ?_
  rintro e w1 ⟨rfl, rfl⟩
  go_wp2_with fail
  refine (let2_to _ lt true _ Z2.out (Lib.hid rfl) q1).mono ?_
  rintro e w1 ⟨rfl, rfl⟩
  go_wp2
  go_ret
  exact ⟨rfl, by repeat (first | with_reducible exact Below.refl _ _ | refine Below.setCell ?_ (by simp) _ | refine below_drewN ?_ _ | refine Below.drew ?_ | refine Below.alloc ?_ (by simp; try omega) _)⟩
end Rul
end Go.Proofs.YthefgagmjamdkaaDoor
/-
  Contracts of package rule: Check, part 2. (Written by gen/gen_rula.py.)
-/
namespace Go.Proofs.YthefgagmjamdkaaDoor
open Go.RowKit
namespace Rul
open Sol Clk Cel
set_option maxHeartbeats 12800000 in
set_option maxRecDepth 100000 in
theorem rchk5 (nm lt : List UInt8) (fr tu mo k v d n c sv : Int) (w : World) (hnm : nm.length ≤ 1000000) (hlt : lt.length ≤ 1000000) (q0 : Hid (nameB nm = true)) (q1 : Hid (Fm.letB lt = true)) (q2 : 1 ≤ fr) (q3 : fr ≤ tu) (q4 : tu ≤ 9999) (q5 : ¬ 1 ≤ mo) :
    Calls Tryd.prog 33 #[.agg #[.string ⟨nm.toArray⟩, .int .i64 fr, .int .i64 tu, .int .i64 mo, .int .i64 k, .int .i64 v, .int .i64 d, .int .i64 n, .int .i64 c, .int .i64 sv, .string ⟨lt.toArray⟩]] w fun x w' => x = .returned (.int .i64 10) ∧ Below w.heap.size w w' := by
  have Z1 : Hid ((⟨nm.toArray⟩ : ByteArray).size ≤ 1000000) := Lib.hid hnm
  have Z2 : Hid ((⟨lt.toArray⟩ : ByteArray).size ≤ 1000000) := Lib.hid hlt
  clear hnm hlt
  go_enter Tryd.func33, Tryd.ntmps33

  go_wp2_with fail
  refine (nam_to _ nm true _ Z1.out (Lib.hid rfl) q0).mono ?_
  rintro e w1 ⟨rfl, rfl⟩
  go_wp2_with fail
  refine (let2_to _ lt true _ Z2.out (Lib.hid rfl) q1).mono ?_
  rintro e w1 ⟨rfl, rfl⟩
  go_wp2
  go_ret
  exact ⟨rfl, by repeat (first | with_reducible exact Below.refl _ _ | refine Below.setCell ?_ (by simp) _ | refine below_drewN ?_ _ | refine Below.drew ?_ | refine Below.alloc ?_ (by simp; try omega) _)⟩
set_option maxHeartbeats 12800000 in
set_option maxRecDepth 100000 in
theorem rchk6 (nm lt : List UInt8) (fr tu mo k v d n c sv : Int) (w : World) (hnm : nm.length ≤ 1000000) (hlt : lt.length ≤ 1000000) (q0 : Hid (nameB nm = true)) (q1 : Hid (Fm.letB lt = true)) (q2 : 1 ≤ fr) (q3 : fr ≤ tu) (q4 : tu ≤ 9999) (q5 : 1 ≤ mo) (q6 : ¬ mo ≤ 12) :
    Calls Tryd.prog 33 #[.agg #[.string ⟨nm.toArray⟩, .int .i64 fr, .int .i64 tu, .int .i64 mo, .int .i64 k, .int .i64 v, .int .i64 d, .int .i64 n, .int .i64 c, .int .i64 sv, .string ⟨lt.toArray⟩]] w fun x w' => x = .returned (.int .i64 10) ∧ Below w.heap.size w w' := by
  have Z1 : Hid ((⟨nm.toArray⟩ : ByteArray).size ≤ 1000000) := Lib.hid hnm
  have Z2 : Hid ((⟨lt.toArray⟩ : ByteArray).size ≤ 1000000) := Lib.hid hlt
  clear hnm hlt
  go_enter Tryd.func33, Tryd.ntmps33

  go_wp2_with fail
  refine (nam_to _ nm true _ Z1.out (Lib.hid rfl) q0).mono ?_
  rintro e w1 ⟨rfl, rfl⟩
  go_wp2_with fail
  refine (let2_to _ lt true _ Z2.out (Lib.hid rfl) q1).mono ?_
  rintro e w1 ⟨rfl, rfl⟩
  go_wp2
  go_ret
  exact ⟨rfl, by repeat (first | with_reducible exact Below.refl _ _ | refine Below.setCell ?_ (by simp) _ | refine below_drewN ?_ _ | refine Below.drew ?_ | refine Below.alloc ?_ (by simp; try omega) _)⟩
set_option maxHeartbeats 12800000 in
set_option maxRecDepth 100000 in
theorem rchk7 (nm lt : List UInt8) (fr tu mo k v d n c sv : Int) (w : World) (hnm : nm.length ≤ 1000000) (hlt : lt.length ≤ 1000000) (q0 : Hid (nameB nm = true)) (q1 : Hid (Fm.letB lt = true)) (q2 : 1 ≤ fr) (q3 : fr ≤ tu) (q4 : tu ≤ 9999) (q5 : 1 ≤ mo) (q6 : mo ≤ 12) (q7 : Hid (Wk.onOk k v d = false)) :
    Calls Tryd.prog 33 #[.agg #[.string ⟨nm.toArray⟩, .int .i64 fr, .int .i64 tu, .int .i64 mo, .int .i64 k, .int .i64 v, .int .i64 d, .int .i64 n, .int .i64 c, .int .i64 sv, .string ⟨lt.toArray⟩]] w fun x w' => x = .returned (.int .i64 10) ∧ Below w.heap.size w w' := by
  have Z1 : Hid ((⟨nm.toArray⟩ : ByteArray).size ≤ 1000000) := Lib.hid hnm
  have Z2 : Hid ((⟨lt.toArray⟩ : ByteArray).size ≤ 1000000) := Lib.hid hlt
  clear hnm hlt
  go_enter Tryd.func33, Tryd.ntmps33

  go_wp2_with fail
  refine (nam_to _ nm true _ Z1.out (Lib.hid rfl) q0).mono ?_
  rintro e w1 ⟨rfl, rfl⟩
  go_wp2_with fail
  refine (let2_to _ lt true _ Z2.out (Lib.hid rfl) q1).mono ?_
  rintro e w1 ⟨rfl, rfl⟩
  go_wp2_with fail
  refine (Wk.check_at k v d 8 _ (Lib.hid (by exact Wk.chE_no q7.out))).mono ?_
  rintro e w1 ⟨rfl, rfl⟩
  go_wp2
  go_ret
  exact ⟨rfl, by repeat (first | with_reducible exact Below.refl _ _ | refine Below.setCell ?_ (by simp) _ | refine below_drewN ?_ _ | refine Below.drew ?_ | refine Below.alloc ?_ (by simp; try omega) _)⟩
set_option maxHeartbeats 12800000 in
set_option maxRecDepth 100000 in
theorem rchk8 (nm lt : List UInt8) (fr tu mo k v d n c sv : Int) (w : World) (hnm : nm.length ≤ 1000000) (hlt : lt.length ≤ 1000000) (q0 : Hid (nameB nm = true)) (q1 : Hid (Fm.letB lt = true)) (q2 : 1 ≤ fr) (q3 : fr ≤ tu) (q4 : tu ≤ 9999) (q5 : 1 ≤ mo) (q6 : mo ≤ 12) (q7 : Hid (Wk.onOk k v d = true)) (q8 : Hid (fitB fr tu mo k d = false)) :
    Calls Tryd.prog 33 #[.agg #[.string ⟨nm.toArray⟩, .int .i64 fr, .int .i64 tu, .int .i64 mo, .int .i64 k, .int .i64 v, .int .i64 d, .int .i64 n, .int .i64 c, .int .i64 sv, .string ⟨lt.toArray⟩]] w fun x w' => x = .returned (.int .i64 10) ∧ Below w.heap.size w w' := by
  have Z1 : Hid ((⟨nm.toArray⟩ : ByteArray).size ≤ 1000000) := Lib.hid hnm
  have Z2 : Hid ((⟨lt.toArray⟩ : ByteArray).size ≤ 1000000) := Lib.hid hlt
  clear hnm hlt
  go_enter Tryd.func33, Tryd.ntmps33

  go_wp2_with fail
  refine (nam_to _ nm true _ Z1.out (Lib.hid rfl) q0).mono ?_
  rintro e w1 ⟨rfl, rfl⟩
  go_wp2_with fail
  refine (let2_to _ lt true _ Z2.out (Lib.hid rfl) q1).mono ?_
  rintro e w1 ⟨rfl, rfl⟩
  go_wp2_with fail
  refine (Wk.check_at k v d 0 _ (Lib.hid (by exact Wk.chE_yes q7.out))).mono ?_
  rintro e w1 ⟨rfl, rfl⟩
  go_wp2_with fail
  refine (fits_to nm lt fr tu mo k v d n c sv false _ q8).mono ?_
  rintro e w1 ⟨rfl, hb1⟩
  have C1 : Cs w.heap.size w1 [.string ⟨nm.toArray⟩, .int .i64 fr, .int .i64 tu, .int .i64 mo, .int .i64 k, .int .i64 v, .int .i64 d, .int .i64 n, .int .i64 c, .int .i64 sv, .string ⟨lt.toArray⟩] := Cs.below (by repeat (first | exact Cs.new _ _ _ | refine Cs.alloc ?_ _)) hb1
  have hB : Below w.heap.size w w1 := bstep (by repeat (first | with_reducible exact Below.refl _ _ | refine Below.setCell ?_ (by simp) _ | refine below_drewN ?_ _ | refine Below.drew ?_ | refine Below.alloc ?_ (by simp; try omega) _)) hb1
  have z7 := (C1.2 7 _ rfl).1
  have z8 := (C1.2 8 _ rfl).1
  have z9 := (C1.2 9 _ rfl).1
  clear hb1
  go_wp2
  go_ret
  exact ⟨rfl, by repeat (first | with_reducible exact hB | refine Below.alloc ?_ (by first | exact hB.size | (simp; have := hB.size; omega)) _)⟩
end Rul
end Go.Proofs.YthefgagmjamdkaaDoor
/-
  Contracts of package rule: Check, part 3. (Written by gen/gen_rula.py.)
-/
namespace Go.Proofs.YthefgagmjamdkaaDoor
open Go.RowKit
namespace Rul
open Sol Clk Cel
set_option maxHeartbeats 12800000 in
set_option maxRecDepth 100000 in
theorem rchk9 (nm lt : List UInt8) (fr tu mo k v d n c sv : Int) (w : World) (hnm : nm.length ≤ 1000000) (hlt : lt.length ≤ 1000000) (q0 : Hid (nameB nm = true)) (q1 : Hid (Fm.letB lt = true)) (q2 : 1 ≤ fr) (q3 : fr ≤ tu) (q4 : tu ≤ 9999) (q5 : 1 ≤ mo) (q6 : mo ≤ 12) (q7 : Hid (Wk.onOk k v d = true)) (q8 : Hid (fitB fr tu mo k d = true)) (q9 : Hid (Atf.atOk n c = false)) :
    Calls Tryd.prog 33 #[.agg #[.string ⟨nm.toArray⟩, .int .i64 fr, .int .i64 tu, .int .i64 mo, .int .i64 k, .int .i64 v, .int .i64 d, .int .i64 n, .int .i64 c, .int .i64 sv, .string ⟨lt.toArray⟩]] w fun x w' => x = .returned (.int .i64 10) ∧ Below w.heap.size w w' := by
  have Z1 : Hid ((⟨nm.toArray⟩ : ByteArray).size ≤ 1000000) := Lib.hid hnm
  have Z2 : Hid ((⟨lt.toArray⟩ : ByteArray).size ≤ 1000000) := Lib.hid hlt
  clear hnm hlt
  go_enter Tryd.func33, Tryd.ntmps33

  go_wp2_with fail
  refine (nam_to _ nm true _ Z1.out (Lib.hid rfl) q0).mono ?_
  rintro e w1 ⟨rfl, rfl⟩
  go_wp2_with fail
  refine (let2_to _ lt true _ Z2.out (Lib.hid rfl) q1).mono ?_
  rintro e w1 ⟨rfl, rfl⟩
  go_wp2_with fail
  refine (Wk.check_at k v d 0 _ (Lib.hid (by exact Wk.chE_yes q7.out))).mono ?_
  rintro e w1 ⟨rfl, rfl⟩
  go_wp2_with fail
  refine (fits_to nm lt fr tu mo k v d n c sv true _ q8).mono ?_
  rintro e w1 ⟨rfl, hb1⟩
  have C1 : Cs w.heap.size w1 [.string ⟨nm.toArray⟩, .int .i64 fr, .int .i64 tu, .int .i64 mo, .int .i64 k, .int .i64 v, .int .i64 d, .int .i64 n, .int .i64 c, .int .i64 sv, .string ⟨lt.toArray⟩] := Cs.below (by repeat (first | exact Cs.new _ _ _ | refine Cs.alloc ?_ _)) hb1
  have hB : Below w.heap.size w w1 := bstep (by repeat (first | with_reducible exact Below.refl _ _ | refine Below.setCell ?_ (by simp) _ | refine below_drewN ?_ _ | refine Below.drew ?_ | refine Below.alloc ?_ (by simp; try omega) _)) hb1
  have z7 := (C1.2 7 _ rfl).1
  have z8 := (C1.2 8 _ rfl).1
  have z9 := (C1.2 9 _ rfl).1
  clear hb1
  go_wp2_with fail
  refine (Atf.acheck_to n c 9 _ (Lib.hid (by rw [Atf.atE, q9.out]; rfl))).mono ?_
  rintro e w2 ⟨rfl, rfl⟩
  have z9' := ((C1.alloc (Obj.cells #[.int .i64 n, .int .i64 c] 41)).2 9 _ rfl).1
  go_wp2
  go_ret
  exact ⟨rfl, by repeat (first | with_reducible exact hB | refine Below.alloc ?_ (by first | exact hB.size | (simp; have := hB.size; omega)) _)⟩
set_option maxHeartbeats 12800000 in
set_option maxRecDepth 100000 in
theorem rchk10 (nm lt : List UInt8) (fr tu mo k v d n c sv : Int) (w : World) (hnm : nm.length ≤ 1000000) (hlt : lt.length ≤ 1000000) (q0 : Hid (nameB nm = true)) (q1 : Hid (Fm.letB lt = true)) (q2 : 1 ≤ fr) (q3 : fr ≤ tu) (q4 : tu ≤ 9999) (q5 : 1 ≤ mo) (q6 : mo ≤ 12) (q7 : Hid (Wk.onOk k v d = true)) (q8 : Hid (fitB fr tu mo k d = true)) (q9 : Hid (Atf.atOk n c = true)) (q10 : ¬ -86400 < sv) :
    Calls Tryd.prog 33 #[.agg #[.string ⟨nm.toArray⟩, .int .i64 fr, .int .i64 tu, .int .i64 mo, .int .i64 k, .int .i64 v, .int .i64 d, .int .i64 n, .int .i64 c, .int .i64 sv, .string ⟨lt.toArray⟩]] w fun x w' => x = .returned (.int .i64 10) ∧ Below w.heap.size w w' := by
  have Z1 : Hid ((⟨nm.toArray⟩ : ByteArray).size ≤ 1000000) := Lib.hid hnm
  have Z2 : Hid ((⟨lt.toArray⟩ : ByteArray).size ≤ 1000000) := Lib.hid hlt
  clear hnm hlt
  go_enter Tryd.func33, Tryd.ntmps33

  go_wp2_with fail
  refine (nam_to _ nm true _ Z1.out (Lib.hid rfl) q0).mono ?_
  rintro e w1 ⟨rfl, rfl⟩
  go_wp2_with fail
  refine (let2_to _ lt true _ Z2.out (Lib.hid rfl) q1).mono ?_
  rintro e w1 ⟨rfl, rfl⟩
  go_wp2_with fail
  refine (Wk.check_at k v d 0 _ (Lib.hid (by exact Wk.chE_yes q7.out))).mono ?_
  rintro e w1 ⟨rfl, rfl⟩
  go_wp2_with fail
  refine (fits_to nm lt fr tu mo k v d n c sv true _ q8).mono ?_
  rintro e w1 ⟨rfl, hb1⟩
  have C1 : Cs w.heap.size w1 [.string ⟨nm.toArray⟩, .int .i64 fr, .int .i64 tu, .int .i64 mo, .int .i64 k, .int .i64 v, .int .i64 d, .int .i64 n, .int .i64 c, .int .i64 sv, .string ⟨lt.toArray⟩] := Cs.below (by repeat (first | exact Cs.new _ _ _ | refine Cs.alloc ?_ _)) hb1
  have hB : Below w.heap.size w w1 := bstep (by repeat (first | with_reducible exact Below.refl _ _ | refine Below.setCell ?_ (by simp) _ | refine below_drewN ?_ _ | refine Below.drew ?_ | refine Below.alloc ?_ (by simp; try omega) _)) hb1
  have z7 := (C1.2 7 _ rfl).1
  have z8 := (C1.2 8 _ rfl).1
  have z9 := (C1.2 9 _ rfl).1
  clear hb1
  go_wp2_with fail
  refine (Atf.acheck_to n c 0 _ (Lib.hid (by rw [Atf.atE, q9.out]; rfl))).mono ?_
  rintro e w2 ⟨rfl, rfl⟩
  have z9' := ((C1.alloc (Obj.cells #[.int .i64 n, .int .i64 c] 41)).2 9 _ rfl).1
  have hd : decide (-86400 < sv) = false := decide_eq_false (by omega)
  go_wp2
  go_ret
  exact ⟨rfl, by repeat (first | with_reducible exact hB | refine Below.alloc ?_ (by first | exact hB.size | (simp; have := hB.size; omega)) _)⟩
set_option maxHeartbeats 12800000 in
set_option maxRecDepth 100000 in
theorem rchk11 (nm lt : List UInt8) (fr tu mo k v d n c sv : Int) (w : World) (hnm : nm.length ≤ 1000000) (hlt : lt.length ≤ 1000000) (q0 : Hid (nameB nm = true)) (q1 : Hid (Fm.letB lt = true)) (q2 : 1 ≤ fr) (q3 : fr ≤ tu) (q4 : tu ≤ 9999) (q5 : 1 ≤ mo) (q6 : mo ≤ 12) (q7 : Hid (Wk.onOk k v d = true)) (q8 : Hid (fitB fr tu mo k d = true)) (q9 : Hid (Atf.atOk n c = true)) (q10 : -86400 < sv) (q11 : ¬ sv < 86400) :
    Calls Tryd.prog 33 #[.agg #[.string ⟨nm.toArray⟩, .int .i64 fr, .int .i64 tu, .int .i64 mo, .int .i64 k, .int .i64 v, .int .i64 d, .int .i64 n, .int .i64 c, .int .i64 sv, .string ⟨lt.toArray⟩]] w fun x w' => x = .returned (.int .i64 10) ∧ Below w.heap.size w w' := by
  have Z1 : Hid ((⟨nm.toArray⟩ : ByteArray).size ≤ 1000000) := Lib.hid hnm
  have Z2 : Hid ((⟨lt.toArray⟩ : ByteArray).size ≤ 1000000) := Lib.hid hlt
  clear hnm hlt
  go_enter Tryd.func33, Tryd.ntmps33

  go_wp2_with fail
  refine (nam_to _ nm true _ Z1.out (Lib.hid rfl) q0).mono ?_
  rintro e w1 ⟨rfl, rfl⟩
  go_wp2_with fail
  refine (let2_to _ lt true _ Z2.out (Lib.hid rfl) q1).mono ?_
  rintro e w1 ⟨rfl, rfl⟩
  go_wp2_with fail
  refine (Wk.check_at k v d 0 _ (Lib.hid (by exact Wk.chE_yes q7.out))).mono ?_
  rintro e w1 ⟨rfl, rfl⟩
  go_wp2_with fail
  refine (fits_to nm lt fr tu mo k v d n c sv true _ q8).mono ?_
  rintro e w1 ⟨rfl, hb1⟩
  have C1 : Cs w.heap.size w1 [.string ⟨nm.toArray⟩, .int .i64 fr, .int .i64 tu, .int .i64 mo, .int .i64 k, .int .i64 v, .int .i64 d, .int .i64 n, .int .i64 c, .int .i64 sv, .string ⟨lt.toArray⟩] := Cs.below (by repeat (first | exact Cs.new _ _ _ | refine Cs.alloc ?_ _)) hb1
  have hB : Below w.heap.size w w1 := bstep (by repeat (first | with_reducible exact Below.refl _ _ | refine Below.setCell ?_ (by simp) _ | refine below_drewN ?_ _ | refine Below.drew ?_ | refine Below.alloc ?_ (by simp; try omega) _)) hb1
  have z7 := (C1.2 7 _ rfl).1
  have z8 := (C1.2 8 _ rfl).1
  have z9 := (C1.2 9 _ rfl).1
  clear hb1
  go_wp2_with fail
  refine (Atf.acheck_to n c 0 _ (Lib.hid (by rw [Atf.atE, q9.out]; rfl))).mono ?_
  rintro e w2 ⟨rfl, rfl⟩
  have z9' := ((C1.alloc (Obj.cells #[.int .i64 n, .int .i64 c] 41)).2 9 _ rfl).1
  have hd : decide (sv < 86400) = false := decide_eq_false (by omega)
  go_wp2
  go_ret
  exact ⟨rfl, by repeat (first | with_reducible exact hB | refine Below.alloc ?_ (by first | exact hB.size | (simp; have := hB.size; omega)) _)⟩
set_option maxHeartbeats 12800000 in
set_option maxRecDepth 100000 in
theorem rchk12 (nm lt : List UInt8) (fr tu mo k v d n c sv : Int) (w : World) (hnm : nm.length ≤ 1000000) (hlt : lt.length ≤ 1000000) (q0 : Hid (nameB nm = true)) (q1 : Hid (Fm.letB lt = true)) (q2 : 1 ≤ fr) (q3 : fr ≤ tu) (q4 : tu ≤ 9999) (q5 : 1 ≤ mo) (q6 : mo ≤ 12) (q7 : Hid (Wk.onOk k v d = true)) (q8 : Hid (fitB fr tu mo k d = true)) (q9 : Hid (Atf.atOk n c = true)) (q10 : -86400 < sv) (q11 : sv < 86400) :
    Calls Tryd.prog 33 #[.agg #[.string ⟨nm.toArray⟩, .int .i64 fr, .int .i64 tu, .int .i64 mo, .int .i64 k, .int .i64 v, .int .i64 d, .int .i64 n, .int .i64 c, .int .i64 sv, .string ⟨lt.toArray⟩]] w fun x w' => x = .returned (.int .i64 0) ∧ Below w.heap.size w w' := by
  have Z1 : Hid ((⟨nm.toArray⟩ : ByteArray).size ≤ 1000000) := Lib.hid hnm
  have Z2 : Hid ((⟨lt.toArray⟩ : ByteArray).size ≤ 1000000) := Lib.hid hlt
  clear hnm hlt
  go_enter Tryd.func33, Tryd.ntmps33

  go_wp2_with fail
  refine (nam_to _ nm true _ Z1.out (Lib.hid rfl) q0).mono ?_
  rintro e w1 ⟨rfl, rfl⟩
  go_wp2_with fail
  refine (let2_to _ lt true _ Z2.out (Lib.hid rfl) q1).mono ?_
  rintro e w1 ⟨rfl, rfl⟩
  go_wp2_with fail
  refine (Wk.check_at k v d 0 _ (Lib.hid (by exact Wk.chE_yes q7.out))).mono ?_
  rintro e w1 ⟨rfl, rfl⟩
  go_wp2_with fail
  refine (fits_to nm lt fr tu mo k v d n c sv true _ q8).mono ?_
  rintro e w1 ⟨rfl, hb1⟩
  have C1 : Cs w.heap.size w1 [.string ⟨nm.toArray⟩, .int .i64 fr, .int .i64 tu, .int .i64 mo, .int .i64 k, .int .i64 v, .int .i64 d, .int .i64 n, .int .i64 c, .int .i64 sv, .string ⟨lt.toArray⟩] := Cs.below (by repeat (first | exact Cs.new _ _ _ | refine Cs.alloc ?_ _)) hb1
  have hB : Below w.heap.size w w1 := bstep (by repeat (first | with_reducible exact Below.refl _ _ | refine Below.setCell ?_ (by simp) _ | refine below_drewN ?_ _ | refine Below.drew ?_ | refine Below.alloc ?_ (by simp; try omega) _)) hb1
  have z7 := (C1.2 7 _ rfl).1
  have z8 := (C1.2 8 _ rfl).1
  have z9 := (C1.2 9 _ rfl).1
  clear hb1
  go_wp2_with fail
  refine (Atf.acheck_to n c 0 _ (Lib.hid (by rw [Atf.atE, q9.out]; rfl))).mono ?_
  rintro e w2 ⟨rfl, rfl⟩
  have z9' := ((C1.alloc (Obj.cells #[.int .i64 n, .int .i64 c] 41)).2 9 _ rfl).1
  go_wp2
  go_ret
  exact ⟨rfl, by repeat (first | with_reducible exact hB | refine Below.alloc ?_ (by first | exact hB.size | (simp; have := hB.size; omega)) _)⟩
theorem rchk_to (nm lt : List UInt8) (fr tu mo k v d n c sv : Int) (e : Int) (w : World) (hnm : nm.length ≤ 1000000) (hlt : lt.length ≤ 1000000) (h : Hid (ruE ⟨nm, fr, tu, mo, k, v, d, n, c, sv, lt⟩ = e)) :
    Calls Tryd.prog 33 #[.agg #[.string ⟨nm.toArray⟩, .int .i64 fr, .int .i64 tu, .int .i64 mo, .int .i64 k, .int .i64 v, .int .i64 d, .int .i64 n, .int .i64 c, .int .i64 sv, .string ⟨lt.toArray⟩]] w fun x w' => x = .returned (.int .i64 e) ∧ Below w.heap.size w w' := by
  rcases chk_cases nm lt fr tu mo k v d n c sv e h.out with ⟨q0, rfl⟩ | ⟨q0, q1, rfl⟩ | ⟨q0, q1, q2, rfl⟩ | ⟨q0, q1, q2, q3, rfl⟩ | ⟨q0, q1, q2, q3, q4, rfl⟩ | ⟨q0, q1, q2, q3, q4, q5, rfl⟩ | ⟨q0, q1, q2, q3, q4, q5, q6, rfl⟩ | ⟨q0, q1, q2, q3, q4, q5, q6, q7, rfl⟩ | ⟨q0, q1, q2, q3, q4, q5, q6, q7, q8, rfl⟩ | ⟨q0, q1, q2, q3, q4, q5, q6, q7, q8, q9, rfl⟩ | ⟨q0, q1, q2, q3, q4, q5, q6, q7, q8, q9, q10, rfl⟩ | ⟨q0, q1, q2, q3, q4, q5, q6, q7, q8, q9, q10, q11, rfl⟩ | ⟨q0, q1, q2, q3, q4, q5, q6, q7, q8, q9, q10, q11, rfl⟩
  · exact rchk0 nm lt fr tu mo k v d n c sv w hnm hlt q0
  · exact rchk1 nm lt fr tu mo k v d n c sv w hnm hlt q0 q1
  · exact rchk2 nm lt fr tu mo k v d n c sv w hnm hlt q0 q1 q2
  · exact rchk3 nm lt fr tu mo k v d n c sv w hnm hlt q0 q1 q2 q3
  · exact rchk4 nm lt fr tu mo k v d n c sv w hnm hlt q0 q1 q2 q3 q4
  · exact rchk5 nm lt fr tu mo k v d n c sv w hnm hlt q0 q1 q2 q3 q4 q5
  · exact rchk6 nm lt fr tu mo k v d n c sv w hnm hlt q0 q1 q2 q3 q4 q5 q6
  · exact rchk7 nm lt fr tu mo k v d n c sv w hnm hlt q0 q1 q2 q3 q4 q5 q6 q7
  · exact rchk8 nm lt fr tu mo k v d n c sv w hnm hlt q0 q1 q2 q3 q4 q5 q6 q7 q8
  · exact rchk9 nm lt fr tu mo k v d n c sv w hnm hlt q0 q1 q2 q3 q4 q5 q6 q7 q8 q9
  · exact rchk10 nm lt fr tu mo k v d n c sv w hnm hlt q0 q1 q2 q3 q4 q5 q6 q7 q8 q9 q10
  · exact rchk11 nm lt fr tu mo k v d n c sv w hnm hlt q0 q1 q2 q3 q4 q5 q6 q7 q8 q9 q10 q11
  · exact rchk12 nm lt fr tu mo k v d n c sv w hnm hlt q0 q1 q2 q3 q4 q5 q6 q7 q8 q9 q10 q11
end Rul
end Go.Proofs.YthefgagmjamdkaaDoor
