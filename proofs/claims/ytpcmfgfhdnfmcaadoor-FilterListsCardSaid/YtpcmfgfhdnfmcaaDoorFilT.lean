/-
  solsticelaw20.Some: a time of the years 1 to 9999.
-/
import Derived.Test.YtpcmfgfhdnfmcaaDoorFilW
import Derived.Test.YtpcmfgfhdnfmcaaDoorBdS
namespace Go.Proofs.YtpcmfgfhdnfmcaaDoor
open Go.RowKit
namespace Fil
open Civ (Ahead)
open Cel
def vsm (t : Int) : Int := -62135596800 + IntKind.u64.wrap t % 315537897600
theorem vsm_bd (t : Int) : -62135596800 ≤ vsm t ∧ vsm t < 253402300800 := by unfold vsm; omega
theorem n_first : Cal.num 1 1 1 = -719162 := by decide +kernel
theorem n_last : Cal.num 10000 1 1 = 2932897 := by decide +kernel
theorem vsm_mo (t : Int) : moO (vsm t) = true := by
  have := vsm_bd t
  exact mo_of (by omega) (by omega)
theorem ret_i1 {a a' : Int} (h : a = a') : Ending.returned (.int .i64 a) = .returned (.int .i64 a') := by rw [h]
set_option maxHeartbeats 1600000 in
theorem vsome_to (t a : Int) (w : World) (h : Hid (vsm t = a)) :
    Calls Tryd.prog 21 #[.int .i64 t] w fun e w' => e = .returned (.int .i64 a) ∧ Below w.heap.size w w' := by
  have u0 : 0 ≤ IntKind.u64.wrap t := by rw [IntKind.wrap_u64]; omega
  have H := h.out
  rw [vsm] at H
  have r1 : (IntKind.u64.wrap t).tmod 315537897600 = IntKind.u64.wrap t % 315537897600 := Int.tmod_eq_emod_of_nonneg u0
  have hx : 0 ≤ IntKind.u64.wrap t % 315537897600 ∧ IntKind.u64.wrap t % 315537897600 < 315537897600 := by omega
  have HH := Lib.hid H
  obtain ⟨x0, x1⟩ := hx
  clear H
  go_enter Tryd.func21, Tryd.ntmps21
  go_wp2_with fail
  refine (Civ.rnum_any 1 1 1 _ (by omega) (by omega) (by omega) (by omega) (by omega) (by omega)).mono ?_
  rintro e w1 ⟨rfl, b1⟩
  rw [n_first]
  go_wp2_with fail
  refine (Civ.rnum_any 10000 1 1 _ (by omega) (by omega) (by omega) (by omega) (by omega) (by omega)).mono ?_
  rintro e w2 ⟨rfl, b2⟩
  rw [n_last]
  go_wp2
  go_ret
  exact ⟨ret_i1 HH.out, b1.trans (b2.mono b1.size)⟩
end Fil
end Go.Proofs.YtpcmfgfhdnfmcaaDoor
