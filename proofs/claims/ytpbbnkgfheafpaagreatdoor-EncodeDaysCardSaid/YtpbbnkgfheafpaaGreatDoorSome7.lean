/-
  Contract of the laws' own Some of layer 7: a right form of any numbers.
-/
import Derived.Test.YtpbbnkgfheafpaaGreatDoorBdD
import Derived.Deep.DeepCutAuto
namespace Go.Proofs.YtpbbnkgfheafpaaGreatDoor
open Go.RowKit
namespace Enc
open Wk
/-- The law's own Some: a right form of any numbers. -/
def smK (k : Int) : Int := 1 + (IntKind.u64.wrap k).tmod 4
def smW (k v : Int) : Int := if smK k = 1 then 0 else (IntKind.u64.wrap v).tmod 7
def smD (k d : Int) : Int := if smK k = 2 then 0 else 1 + (IntKind.u64.wrap d).tmod 31
theorem um_bd (x : Int) (m : Int) (hm : 0 < m) : 0 ≤ (IntKind.u64.wrap x).tmod m ∧ (IntKind.u64.wrap x).tmod m < m :=
  ⟨Int.tmod_nonneg m (by rw [IntKind.wrap_u64]; omega), Int.tmod_lt_of_pos _ hm⟩
theorem sm_ok (k v d : Int) : Wk.onOk (smK k) (smW k v) (smD k d) = true := by
  have h1 := um_bd k 4 (by omega)
  have h2 := um_bd v 7 (by omega)
  have h3 := um_bd d 31 (by omega)
  refine decide_eq_true ?_
  unfold smW smD smK
  split <;> split <;> omega
set_option maxHeartbeats 1600000 in
set_option maxRecDepth 100000 in
theorem some7_any (k v d : Int) (w : World) :
    Calls Tryz.prog 4 #[.int .i64 k, .int .i64 v, .int .i64 d] w fun e w' => e = .returned (.agg #[.int .i64 (smK k), .int .i64 (smW k v), .int .i64 (smD k d)]) ∧ Below w.heap.size w w' := by
  have h1 := um_bd k 4 (by omega)
  have h2 := um_bd v 7 (by omega)
  have h3 := um_bd d 31 (by omega)
  have HK : Hid (smK k = 1 + (IntKind.u64.wrap k).tmod 4) := Lib.hid rfl
  have HV : Hid (smW k v = if smK k = 1 then 0 else (IntKind.u64.wrap v).tmod 7) := Lib.hid rfl
  have HD : Hid (smD k d = if smK k = 2 then 0 else 1 + (IntKind.u64.wrap d).tmod 31) := Lib.hid rfl
  rw [HK.out] at HV HD
  go_enter Tryz.func4, Tryz.ntmps4
  go_upto_region 2 with fail
  generalize (IntKind.u64.wrap k).tmod 4 = K at *
  generalize (IntKind.u64.wrap v).tmod 7 = V at *
  generalize (IntKind.u64.wrap d).tmod 31 = D at *
  have h4 : K = 0 ∨ K = 1 ∨ (K == 0) = false ∧ (K == 1) = false ∧ (1 + K == 1) = false ∧ (1 + K == 2) = false ∧ 2 ≤ K := by
    have : K = 0 ∨ K = 1 ∨ 2 ≤ K := by omega
    rcases this with h | h | h
    · exact Or.inl h
    · exact Or.inr (Or.inl h)
    · exact Or.inr (Or.inr ⟨beq_eq_false_iff_ne.2 (by omega), beq_eq_false_iff_ne.2 (by omega), beq_eq_false_iff_ne.2 (by omega), beq_eq_false_iff_ne.2 (by omega), h⟩)
  rcases h4 with rfl | rfl | ⟨k0, k1, k2, k3, k4⟩
  · go_wp2
    refine bodyPost_ret (v := .agg #[.int .i64 1, .int .i64 0, .int .i64 (1 + D)]) (by simp [results, Tryz.results4, go_sem]) rfl ⟨by rw [HK.out, HV.out, HD.out]; rfl, ?_⟩
    repeat (first | exact Below.refl _ _ | refine Below.setCell ?_ (by simp) _ | refine below_drewN ?_ _ | refine Below.drew ?_ | refine Below.alloc ?_ (by simp) _)
  · go_wp2
    refine bodyPost_ret (v := .agg #[.int .i64 2, .int .i64 V, .int .i64 0]) (by simp [results, Tryz.results4, go_sem]) rfl ⟨by rw [HK.out, HV.out, HD.out]; rfl, ?_⟩
    repeat (first | exact Below.refl _ _ | refine Below.setCell ?_ (by simp) _ | refine below_drewN ?_ _ | refine Below.drew ?_ | refine Below.alloc ?_ (by simp) _)
  · go_wp2
    refine bodyPost_ret (v := .agg #[.int .i64 (1 + K), .int .i64 V, .int .i64 (1 + D)]) (by simp [results, Tryz.results4, go_sem]) rfl ⟨by rw [HK.out, HV.out, HD.out, if_neg (by omega), if_neg (by omega)], ?_⟩
    repeat (first | exact Below.refl _ _ | refine Below.setCell ?_ (by simp) _ | refine below_drewN ?_ _ | refine Below.drew ?_ | refine Below.alloc ?_ (by simp) _)
theorem some7_to (k v d a b c : Int) (w : World) (h : Hid (smK k = a ∧ smW k v = b ∧ smD k d = c)) :
    Calls Tryz.prog 4 #[.int .i64 k, .int .i64 v, .int .i64 d] w fun e w' => e = .returned (.agg #[.int .i64 a, .int .i64 b, .int .i64 c]) ∧ Below w.heap.size w w' :=
  (some7_any k v d w).mono fun _ _ ⟨he, hw⟩ => ⟨by rw [he, h.out.1, h.out.2.1, h.out.2.2], hw⟩
end Enc
end Go.Proofs.YtpbbnkgfheafpaaGreatDoor
