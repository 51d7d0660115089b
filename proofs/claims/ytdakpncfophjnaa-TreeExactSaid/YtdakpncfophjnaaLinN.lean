/-
  LineBad: texts that are no lines. (Written by gen/gen_linn.py.)
-/
import Derived.Test.YtdakpncfophjnaaLinW
namespace Go.Proofs.Ytdakpncfophjnaa
open Go.RowKit
namespace Lin
open CutB Cel
open Opn (TxtV)
set_option maxHeartbeats 3200000 in
set_option maxRecDepth 100000 in
theorem kln_zz (a : Option Addr) (c : Nat) (w : World) :
    Calls Try.prog 19 #[.agg #[.string ⟨#[]⟩, .slice a 0 c, .string ⟨#[]⟩], .agg #[.string ⟨#[]⟩, .slice none 0 0, .string ⟨#[]⟩]] w fun e w' => e = .returned (.bool true) ∧ Below w.heap.size w w' := by
  have C0 := Lib.hid ((Cs.new w [.string ⟨#[]⟩, .slice a 0 c, .string ⟨#[]⟩] 24).alloc (Obj.cells #[.string ⟨#[]⟩, .slice none 0 0, .string ⟨#[]⟩] 24))
  go_enter Try.func19, Try.ntmps19
  go_wp2
  go_loopw [5] (fun i wr => i = .int .i64 0 ∧ Cs w.heap.size wr [.string ⟨#[]⟩, .slice a 0 c, .string ⟨#[]⟩] ∧ Below w.heap.size w wr) (fun _ _ => 0)
  case atStart => exact ⟨rfl, C0.out, ((Below.refl _ _).alloc (Nat.le_refl _) _).alloc (by simp) _⟩
  case round =>
    obtain ⟨rfl, hc, hb⟩ := hrel
    have z1 := (hc.2 1 _ rfl).1
    go_wp2
    go_ret
    exact ⟨rfl, hb⟩
def bdT : Nat → List UInt8 := fun k => (([[], [65], [58, 120], [65, 59, 66, 58, 120], [65, 59, 61, 98, 58, 120], [65, 59, 66, 61, 34, 99, 58, 120], [65, 59, 66, 61, 99, 34, 100, 58, 120], [65, 95, 66, 58, 120], [65, 59, 66, 61, 34, 99, 34, 100, 58, 120], [65, 32, 66, 58, 120], [65, 59, 66, 61, 99, 59, 58, 120], [65, 58, 1], [65, 59, 66, 61, 2, 58, 120], [65, 59, 66, 61, 34, 99, 34], [65, 61, 98, 58, 120]] : List (List UInt8))).getD k []
theorem bd_all : ∀ k < 15, lnP (bdT k) = (18, LV.zero) ∧ (bdT k).length ≤ 20 := by decide +kernel
theorem bd_good : lnP [65, 59, 66, 61, 58] = (0, ⟨[65], [⟨[66], [[]]⟩], []⟩) := by decide +kernel
theorem nat_u (x : Int) (k : Int) (hk : 0 < k) : ∃ n : Nat, (IntKind.u64.wrap x).tmod k = (n : Int) ∧ (n : Int) < k := by
  have h0 : 0 ≤ (IntKind.u64.wrap x).tmod k := Int.tmod_nonneg _ (by rw [IntKind.wrap_u64]; omega)
  have h1 := Int.tmod_lt_of_pos (IntKind.u64.wrap x) hk
  exact ⟨((IntKind.u64.wrap x).tmod k).toNat, by omega, by omega⟩
end Lin
end Go.Proofs.Ytdakpncfophjnaa
