/-
  ValueBack: what is written of a time, of an offset, is read; unlike ones have unlike texts; the later time's text comes behind.
-/
import Derived.Test.YtnjmpenfhieakaaDoorValM
import Derived.Test.YtnjmpenfhieakaaDoorVal9
import Derived.Test.YtnjmpenfhieakaaDoorRefCiv2
namespace Go.Proofs.YtnjmpenfhieakaaDoor
open Go.RowKit
namespace Val
open Sol Civ Wk
def vsm (t : Int) : Int := -62135596800 + IntKind.u64.wrap t % 315537897600
theorem vsm_bd (t : Int) : -62135596800 ≤ vsm t ∧ vsm t < 253402300800 := by unfold vsm; omega
theorem n_first : Cal.num 1 1 1 = -719162 := by decide +kernel
theorem n_last : Cal.num 10000 1 1 = 2932897 := by decide +kernel
set_option maxHeartbeats 1600000 in
theorem vsome_to (t a : Int) (w : World) (h : Hid (vsm t = a)) :
    Calls Tryd.prog 18 #[.int .i64 t] w fun e w' => e = .returned (.int .i64 a) ∧ Below w.heap.size w w' := by
  have u0 : 0 ≤ IntKind.u64.wrap t := by rw [IntKind.wrap_u64]; omega
  have H := h.out
  rw [vsm] at H
  have r1 : (IntKind.u64.wrap t).tmod 315537897600 = IntKind.u64.wrap t % 315537897600 := Int.tmod_eq_emod_of_nonneg u0
  have hx : 0 ≤ IntKind.u64.wrap t % 315537897600 ∧ IntKind.u64.wrap t % 315537897600 < 315537897600 := by omega
  have HH := Lib.hid H
  obtain ⟨x0, x1⟩ := hx
  clear H
  go_enter Tryd.func18, Tryd.ntmps18
  go_wp2_with fail
  refine (rnum_any 1 1 1 _ (by omega) (by omega) (by omega) (by omega) (by omega) (by omega)).mono ?_
  rintro e w1 ⟨rfl, b1⟩
  rw [n_first]
  go_wp2_with fail
  refine (rnum_any 10000 1 1 _ (by omega) (by omega) (by omega) (by omega) (by omega) (by omega)).mono ?_
  rintro e w2 ⟨rfl, b2⟩
  rw [n_last]
  go_wp2
  go_ret
  exact ⟨ret_i HH.out, b1.trans (b2.mono b1.size)⟩
theorem tm_size {T : List UInt8} (h : T.length ≤ 16) : (⟨T.toArray⟩ : ByteArray).size ≤ 1000 := by show T.length ≤ 1000; omega
end Val
end Go.Proofs.YtnjmpenfhieakaaDoor
