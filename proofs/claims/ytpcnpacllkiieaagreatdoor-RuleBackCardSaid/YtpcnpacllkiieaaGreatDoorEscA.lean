/-
  Contracts of package escape: isControl, Put. (Written by gen/gen_esca.py.)
-/
import Derived.Test.YtpcnpacllkiieaaGreatDoorNumD
import Derived.Test.YtpcnpacllkiieaaGreatDoorMath1
import Derived.Laws.IdiomStrings
import Derived.Laws.OwnMore
import Derived.Deep.AppendLies
import Derived.OwnWalk
import Derived.Below
namespace Go.Proofs.YtpcnpacllkiieaaGreatDoor
open Go.RowKit
namespace Esc
def ctl (c : UInt8) : Bool := decide (((c.toNat : Int) < 32 ∧ c ≠ 9) ∨ c = 127)
def putC (c : UInt8) : List UInt8 := if c = 10 then [92, 110] else if c = 92 ∨ c = 59 ∨ c = 44 then [92, c] else [c]
def okP (c : UInt8) : Bool := decide (c = 10) || !ctl c
def putB (S : List UInt8) : Bool := S.all okP
def putL (S : List UInt8) : List UInt8 := S.flatMap putC
def putR (S : List UInt8) : List UInt8 × Int := if putB S = true then (putL S, 0) else ([], 3)
def bv (c : UInt8) : Value := .int .u8 (c.toNat : Int)
theorem putC_len (c : UInt8) : (putC c).length ≤ 2 := by unfold putC; split <;> (try split) <;> simp
theorem putL_len : ∀ S : List UInt8, (putL S).length ≤ 2 * S.length
  | [] => by simp [putL]
  | c :: S => by
    have := putL_len S
    have h := putC_len c
    unfold putL at this ⊢
    rw [List.flatMap_cons, List.length_append, List.length_cons]
    omega
theorem put_no {S : List UInt8} {k : Nat} (hk : k < S.length) (h : okP S[k] = false) : putB S = false := by
  cases e : putB S with
  | false => rfl
  | true =>
    have := List.all_eq_true.1 e S[k] (List.getElem_mem hk)
    rw [h] at this; cases this
theorem u8_ne {c : UInt8} {n : Nat} (hn : n < 256) (h : c ≠ UInt8.ofNat n) : ((c.toNat : Int) == (n : Int)) = false :=
  beq_eq_false_iff_ne.2 (fun e => h (UInt8.toNat_inj.1 (by
    have : c.toNat = n := by omega
    rw [this, UInt8.toNat_ofNat_of_lt' hn])))
theorem ret_si {s s' : ByteArray} {a a' : Int} (k : s = s') (h : a = a') : Ending.returned (.tuple #[.string s, .int .i64 a]) = .returned (.tuple #[.string s', .int .i64 a']) := by rw [h, k]
theorem iu : (Tryz.prog.info? 5).map (fun i => (i.zero, i.size, i.bytes)) = some (some (.int .u8 0), 1, 1) := by kernel_rfl
theorem own_cells {w : World} {B g n cap : Nat} {L : List UInt8} (h : w.ownsRow B 5 1 (.slice (some ⟨g, 0, none⟩) n cap) n (L.map bv)) (hn : n = L.length) : ∀ j (hj : j < L.length), w.cell? ((⟨g, 0, none⟩ : Addr).add j) = some (.int .u8 (L[j].toNat : Int)) := fun j hj => by
  have := h.cellAt j (by omega)
  rw [show (⟨g, 0, none⟩ : Addr).add j = ⟨g, j, none⟩ from by simp [Addr.add]; exact fun h => h.symm, this]
  simp [bv, hj]
end Esc
end Go.Proofs.YtpcnpacllkiieaaGreatDoor
