/-
  fold's calls, whole; its waking call; FoldExact: the walk.
-/
import Derived.Test.YtdakpncfophjnaaFldV
namespace Go.Proofs.Ytdakpncfophjnaa
open Go.RowKit
namespace Fld
open Opn (sv TxtV)
def unfR (S : List UInt8) : List (List UInt8) × Int := if okCR S = true then (unfS S, 0) else ([], 18)
def lineR (S : List UInt8) : List UInt8 × Int := if hit S = true then ([], 18) else (foldL S, 0)
theorem unfold_any (s : ByteArray) (S : List UInt8) (L : List (List UInt8)) (rc : Int) (w : World) (hs : s.size ≤ 600000) (hS : Hid (s.data.toList = S)) (h : Hid (unfR S = (L, rc))) :
    Calls Try.prog 56 #[.string s] w fun e w' => ∃ v, e = .returned (.tuple #[v, .int .i64 rc]) ∧ TxtV w' v L ∧ Below w.heap.size w w' := by
  have hh := h.out
  unfold unfR at hh
  cases ho : okCR S with
  | true =>
    rw [ho, if_pos rfl] at hh
    injection hh with a b
    subst a b
    exact unf_to s S w hs hS (Lib.hid ho)
  | false =>
    rw [ho, if_neg (by decide)] at hh
    injection hh with a b
    subst a b
    exact (unf_no s S w hs hS (Lib.hid ho)).mono fun e w' ⟨h1, h2⟩ => ⟨_, h1, TxtV.none _, h2⟩
theorem runf_any (s : ByteArray) (S : List UInt8) (L : List (List UInt8)) (rc : Int) (w : World) (hs : s.size ≤ 600000) (hS : Hid (s.data.toList = S)) (h : Hid (unfR S = (L, rc))) :
    Calls Try.prog 58 #[.string s] w fun e w' => ∃ v, e = .returned (.tuple #[v, .int .i64 rc]) ∧ TxtV w' v L ∧ Below w.heap.size w w' := by
  have hh := h.out
  unfold unfR at hh
  cases ho : okCR S with
  | true =>
    rw [ho, if_pos rfl] at hh
    injection hh with a b
    subst a b
    exact runf_to s S w hs hS (Lib.hid ho)
  | false =>
    rw [ho, if_neg (by decide)] at hh
    injection hh with a b
    subst a b
    exact (runf_no s S w hs hS (Lib.hid ho)).mono fun e w' ⟨h1, h2⟩ => ⟨_, h1, TxtV.none _, h2⟩
theorem line_any (s : ByteArray) (S R : List UInt8) (rc : Int) (w : World) (hs : s.size ≤ 60000) (hS : Hid (s.data.toList = S)) (h : Hid (lineR S = (R, rc))) :
    Calls Try.prog 74 #[.string s] w fun e w' => e = .returned (.tuple #[.string ⟨R.toArray⟩, .int .i64 rc]) ∧ Below w.heap.size w w' := by
  have hh := h.out
  unfold lineR at hh
  cases ho : hit S with
  | true =>
    rw [ho, if_pos rfl] at hh
    injection hh with a b
    subst a b
    exact line_no s S w hs hS (Lib.hid ho)
  | false =>
    rw [ho, if_neg (by decide)] at hh
    injection hh with a b
    subst a b
    exact line_to s S w hs hS (Lib.hid ho)
theorem txt_lit1 (w : World) (x : ByteArray) (X : List UInt8) (hx : x = ⟨X.toArray⟩) : TxtV (w.alloc (.cells #[.string x] 9)) (.slice (some ⟨w.heap.size, 0, none⟩) 1 1) [X] := by
  subst hx
  refine ⟨_, _, _, rfl, rfl, fun j hj => ⟨_, 0, rfl, by simp, ?_⟩⟩
  match j, hj with
  | 0, _ => rw [World.cell?_alloc_new]; rfl
theorem txt_lit2 (w : World) (x y : ByteArray) (X Y : List UInt8) (hx : x = ⟨X.toArray⟩) (hy : y = ⟨Y.toArray⟩) : TxtV (w.alloc (.cells #[.string x, .string y] 9)) (.slice (some ⟨w.heap.size, 0, none⟩) 2 2) [X, Y] := by
  subst hx hy
  refine ⟨_, _, _, rfl, rfl, fun j hj => ⟨_, 0, rfl, by simp, ?_⟩⟩
  match j, hj with
  | 0, _ => rw [World.cell?_alloc_new]; rfl
  | 1, _ => rw [World.cell?_alloc_new]; rfl
/-- The waking call's long line. -/
def as76 : List UInt8 := List.replicate 76 97
theorem wk_l1 : ∃ T, lineR as76 = (T, 0) ∧ T.length = 81 ∧ unfR T = ([as76], 0) := ⟨_, rfl, by decide +kernel, by decide +kernel⟩
theorem wk_l2 : lineR [97, 10] = ([], 18) := by decide +kernel
theorem wk_u2 : unfR [97, 13, 10, 32, 98, 10, 99] = ([[97, 98], [99]], 0) := by decide +kernel
end Fld
end Go.Proofs.Ytdakpncfophjnaa
