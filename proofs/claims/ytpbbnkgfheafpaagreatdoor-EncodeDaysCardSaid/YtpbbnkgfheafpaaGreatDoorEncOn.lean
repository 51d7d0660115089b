/-
  Contracts of package encode: days, On, where a form is refused or has a number.
-/
import Derived.Test.YtpbbnkgfheafpaaGreatDoorBdD
namespace Go.Proofs.YtpbbnkgfheafpaaGreatDoor
open Go.RowKit
namespace Enc
open Wk
def fromV (k d m : Int) : Int := if k = 4 then d + m - 6 else d + m
def toV (k d m : Int) : Int := if k = 3 then d + m + 6 else d + m
theorem ret_ii {a a' c c' : Int} (h : a = a') (h' : c = c') : Ending.returned (.tuple #[.int .i64 a, .int .i64 c]) = .returned (.tuple #[.int .i64 a', .int .i64 c']) := by rw [h, h']
set_option maxHeartbeats 1600000 in
set_option maxRecDepth 100000 in
theorem days_any (k v d m : Int) (w : World) (hk : 1 ≤ k ∧ k ≤ 4) (hd : 0 ≤ d ∧ d ≤ 31) (hm : -40 ≤ m ∧ m ≤ 40) :
    Calls Tryz.prog 13 #[.agg #[.int .i64 k, .int .i64 v, .int .i64 d], .int .i64 m] w fun e w' => e = .returned (.tuple #[.int .i64 (fromV k d m), .int .i64 (toV k d m)]) ∧ Below w.heap.size w w' := by
  have h4 : k = 1 ∨ k = 2 ∨ k = 3 ∨ k = 4 := by omega
  obtain ⟨d0, d1⟩ := hd
  obtain ⟨m0, m1⟩ := hm
  clear hk
  have s1 : IntKind.i64.wrap (d + m) = d + m := IntWalk.i64_in _ (by omega)
  have S1 := Lib.hid s1
  clear s1
  rcases h4 with rfl | rfl | rfl | rfl
  all_goals
    go_enter Tryz.func13, Tryz.ntmps13
    go_wp2_with fail
    have s1 := S1.out
    go_quiet (fail)
    clear s1
    go_wp2
    go_ret2
    exact ⟨ret_ii rfl rfl, by repeat (first | exact Below.refl _ _ | refine below_drewN ?_ _ | refine Below.alloc ?_ (by simp; try omega) _)⟩
theorem days_to (k v d m a b : Int) (w : World) (hk : 1 ≤ k ∧ k ≤ 4) (hd : 0 ≤ d ∧ d ≤ 31) (hm : -40 ≤ m ∧ m ≤ 40) (h : Hid (fromV k d m = a ∧ toV k d m = b)) :
    Calls Tryz.prog 13 #[.agg #[.int .i64 k, .int .i64 v, .int .i64 d], .int .i64 m] w fun e w' => e = .returned (.tuple #[.int .i64 a, .int .i64 b]) ∧ Below w.heap.size w w' :=
  (days_any k v d m w hk hd hm).mono fun _ _ ⟨he, hw⟩ => ⟨by rw [he, h.out.1, h.out.2], hw⟩
theorem mlen_to (y m n : Int) (w : World) (h : Hid (Cal.mlen y m = n)) :
    Calls Tryz.prog 14 #[.int .i64 y, .int .i64 m] w fun e w' => e = .returned (.int .i64 n) ∧ w = w' :=
  (Civ.len_any y m w).mono fun _ _ ⟨he, hw⟩ => ⟨by rw [he, h.out], hw⟩
/-- Refused: nothing, and why. -/
def No (c : Int) (w : World) (e : Ending) (w' : World) : Prop := e = .returned (.tuple #[.agg #[.int .i64 0, .int .i64 0, .int .i64 0, .bool false, .int .i64 0, .bool false, .slice none 0 0, .slice none 0 0, .slice none 0 0, .slice none 0 0, .slice none 0 0, .slice none 0 0, .slice none 0 0, .slice none 0 0, .slice none 0 0, .int .i64 0], .int .i64 c]) ∧ Below w.heap.size w w'
set_option maxHeartbeats 1600000 in
set_option maxRecDepth 100000 in
theorem on_bad (month k v d m : Int) (w : World) (ho : onOk k v d = false) :
    Calls Tryz.prog 5 #[.int .i64 month, .agg #[.int .i64 k, .int .i64 v, .int .i64 d], .int .i64 m] w (No 8 w) := by
  have HC := Lib.hid (chE_no ho)
  clear ho
  go_enter Tryz.func5, Tryz.ntmps5
  go_wp2_with fail
  refine (check_at _ _ _ _ _ HC).mono ?_
  rintro e w1 ⟨rfl, rfl⟩
  go_wp2
  exact bodyPost_ret (v := .tuple #[.agg #[.int .i64 0, .int .i64 0, .int .i64 0, .bool false, .int .i64 0, .bool false, .slice none 0 0, .slice none 0 0, .slice none 0 0, .slice none 0 0, .slice none 0 0, .slice none 0 0, .slice none 0 0, .slice none 0 0, .slice none 0 0, .int .i64 0], .int .i64 8]) (by simp [results, Tryz.results5, go_sem]) rfl ⟨rfl, by repeat (first | exact Below.refl _ _ | refine Below.setCell ?_ (by simp) _ | refine Below.alloc ?_ (by simp; try omega) _)⟩
end Enc
end Go.Proofs.YtpbbnkgfheafpaaGreatDoor
