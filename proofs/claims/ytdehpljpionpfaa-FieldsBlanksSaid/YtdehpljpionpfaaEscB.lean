/-
  Contracts of package escape: escaped, Get. (Written by gen/gen_escb.py.)
-/
import Derived.Test.YtdehpljpionpfaaEscA
namespace Go.Proofs.Ytdehpljpionpfaa
open Go.RowKit
namespace Esc
/-- What is meant by a byte behind a backslash. -/
def mnt (d : UInt8) : Option UInt8 := if d = 92 ∨ d = 59 ∨ d = 44 then some d else if d = 110 ∨ d = 78 then some 10 else none
def getO : Nat → List UInt8 → Option (List UInt8)
  | 0, _ => some []
  | _ + 1, [] => some []
  | f + 1, c :: S => if ctl c = true ∨ c = 59 ∨ c = 44 then none else if c = 92 then
      (match S with
       | [] => none
       | d :: S' => match mnt d with
         | none => none
         | some m => (getO f S').map (fun r => m :: r))
      else (getO f S).map (fun r => c :: r)
theorem getO_cons (f : Nat) (c : UInt8) (S : List UInt8) : getO (f + 1) (c :: S) = if ctl c = true ∨ c = 59 ∨ c = 44 then none else if c = 92 then
      (match S with
       | [] => none
       | d :: S' => match mnt d with
         | none => none
         | some m => (getO f S').map (fun r => m :: r))
      else (getO f S).map (fun r => c :: r) := rfl
/-- More fuel than signs changes nothing. -/
theorem getO_fuel : ∀ (f g : Nat) (S : List UInt8), S.length ≤ f → S.length ≤ g → getO f S = getO g S
  | 0, 0, _, _, _ => rfl
  | 0, g + 1, S, h, _ => by
    have : S = [] := List.length_eq_zero_iff.1 (by omega)
    subst this; rfl
  | f + 1, 0, S, _, h => by
    have : S = [] := List.length_eq_zero_iff.1 (by omega)
    subst this; rfl
  | f + 1, g + 1, [], _, _ => rfl
  | f + 1, g + 1, c :: S, h1, h2 => by
    rw [List.length_cons] at h1 h2
    rw [getO_cons, getO_cons]
    split
    · rfl
    · split
      · match S with
        | [] => rfl
        | d :: S' =>
          rw [List.length_cons] at h1 h2
          simp only
          rw [getO_fuel f g S' (by omega) (by omega)]
      · rw [getO_fuel f g S (by omega) (by omega)]
def getS (S : List UInt8) : Option (List UInt8) := getO S.length S
theorem get_nil : getS [] = some [] := rfl
theorem get_cons (c : UInt8) (S : List UInt8) : getS (c :: S) = if ctl c = true ∨ c = 59 ∨ c = 44 then none else if c = 92 then
      (match S with
       | [] => none
       | d :: S' => match mnt d with
         | none => none
         | some m => (getS S').map (fun r => m :: r))
      else (getS S).map (fun r => c :: r) := by
  rw [getS, List.length_cons, getO_cons]
  split
  · rfl
  · split
    · match S with
      | [] => rfl
      | d :: S' =>
        simp only
        rw [getO_fuel _ _ S' (show S'.length ≤ (d :: S').length by simp) (Nat.le_refl _)]
        rfl
    · rfl
def getR (S : List UInt8) : List UInt8 × Int := match getS S with | some r => (r, 0) | none => ([], 3)
theorem ret_ub {a a' : Int} {b b' : Bool} (h : a = a') (k : b = b') : Ending.returned (.tuple #[.int .u8 a, .bool b]) = .returned (.tuple #[.int .u8 a', .bool b']) := by rw [h, k]
/-- The byte that is meant at a place. -/
def escV (o : Option UInt8) : UInt8 × Bool := match o with | none => (0, false) | some d => match mnt d with | none => (0, false) | some m => (m, true)
theorem escV_none : escV none = (0, false) := rfl
theorem escV_some (d : UInt8) : escV (some d) = match mnt d with | none => (0, false) | some m => (m, true) := rfl
end Esc
end Go.Proofs.Ytdehpljpionpfaa
