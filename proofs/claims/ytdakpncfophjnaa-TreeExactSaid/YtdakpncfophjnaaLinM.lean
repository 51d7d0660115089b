/-
  Package line, plain words: what is right, what a text says, a line's text.
-/
import Derived.Test.YtdakpncfophjnaaBdG
import Derived.Lib.IndexAny
import Derived.Test.YtdakpncfophjnaaBdH
namespace Go.Proofs.Ytdakpncfophjnaa
namespace Lin
/-- What stands ahead of the first of some signs, and the rest from it on. -/
def hdT (C S : List UInt8) : List UInt8 := S.takeWhile (fun b => !C.contains b)
def tlT (C S : List UInt8) : List UInt8 := S.dropWhile (fun b => !C.contains b)
theorem hd_tl (C S : List UInt8) : hdT C S ++ tlT C S = S := List.takeWhile_append_dropWhile
theorem take_hd (C S : List UInt8) : S.take (hdT C S).length = hdT C S := by
  have h := hd_tl C S
  calc S.take (hdT C S).length = (hdT C S ++ tlT C S).take (hdT C S).length := by rw [h]
    _ = hdT C S := List.take_left
theorem drop_hd (C S : List UInt8) : S.drop (hdT C S).length = tlT C S := by
  have h := hd_tl C S
  calc S.drop (hdT C S).length = (hdT C S ++ tlT C S).drop (hdT C S).length := by rw [h]
    _ = tlT C S := List.drop_left
theorem drop_hd1 (C S : List UInt8) : S.drop ((hdT C S).length + 1) = (tlT C S).tail := by
  rw [← List.drop_drop, drop_hd]; simp
theorem tl_len (C S : List UInt8) : (tlT C S).length ≤ S.length := by
  have := congrArg List.length (hd_tl C S)
  rw [List.length_append] at this
  omega
theorem hd_len (C S : List UInt8) : (hdT C S).length ≤ S.length := by
  have := congrArg List.length (hd_tl C S)
  rw [List.length_append] at this
  omega
theorem hd_lt {C S : List UInt8} (h : tlT C S ≠ []) : (hdT C S).length < S.length := by
  have := congrArg List.length (hd_tl C S)
  rw [List.length_append] at this
  have := List.length_pos_iff.2 h
  omega
theorem ia_eq (C : List UInt8) : ∀ S : List UInt8, Lib.indexAny S C = if tlT C S = [] then -1 else ((hdT C S).length : Int)
  | [] => rfl
  | b :: l => by
    have ih := ia_eq C l
    cases h : C.contains b with
    | true =>
      rw [Lib.indexAny, if_pos h]
      have e1 : tlT C (b :: l) = b :: l := by rw [tlT, List.dropWhile_cons, if_neg (by rw [h]; decide)]
      have e2 : hdT C (b :: l) = [] := by rw [hdT, List.takeWhile_cons, if_neg (by rw [h]; decide)]
      rw [e1, e2, if_neg (by simp)]
      rfl
    | false =>
      rw [Lib.indexAny, if_neg (by rw [h]; decide)]
      have e1 : tlT C (b :: l) = tlT C l := by rw [tlT, List.dropWhile_cons, if_pos (by rw [h]; decide)]; rfl
      have e2 : hdT C (b :: l) = b :: hdT C l := by rw [hdT, List.takeWhile_cons, if_pos (by rw [h]; decide)]; rfl
      rw [e1, e2, ih]
      by_cases x : tlT C l = []
      · rw [if_pos x, if_pos x]; rfl
      · rw [if_neg x, if_neg x]
        have : ((((hdT C l).length : Nat) : Int) == -1) = false := beq_eq_false_iff_ne.2 (by omega)
        rw [this, if_neg (by decide)]
        simp
theorem ib_eq (c : UInt8) : ∀ S : List UInt8, Lib.indexByte S c = if tlT [c] S = [] then -1 else ((hdT [c] S).length : Int)
  | [] => rfl
  | b :: l => by
    have ih := ib_eq c l
    by_cases h : b = c
    · subst h
      have e1 : tlT [b] (b :: l) = b :: l := by rw [tlT, List.dropWhile_cons, if_neg (by simp)]
      have e2 : hdT [b] (b :: l) = [] := by rw [hdT, List.takeWhile_cons, if_neg (by simp)]
      rw [e1, e2, if_neg (by simp), Lib.indexByte]
      simp
    · have e1 : tlT [c] (b :: l) = tlT [c] l := by rw [tlT, List.dropWhile_cons, if_pos (by simp [h])]; rfl
      have e2 : hdT [c] (b :: l) = b :: hdT [c] l := by rw [hdT, List.takeWhile_cons, if_pos (by simp [h])]; rfl
      rw [e1, e2]
      have hb : (b == c) = false := beq_eq_false_iff_ne.2 h
      rw [Lib.indexByte, hb, if_neg (by decide), ih]
      by_cases x : tlT [c] l = []
      · rw [if_pos x, if_pos x]; rfl
      · rw [if_neg x, if_neg x]
        have : ((((hdT [c] l).length : Nat) : Int) == -1) = false := beq_eq_false_iff_ne.2 (by omega)
        rw [this, if_neg (by decide)]
        simp
/-! ### What is right -/
def ctlB (c : UInt8) : Bool := (decide ((c.toNat : Int) < 32) && !decide (c = 9)) || decide (c = 127)
def plnB (S : List UInt8) : Bool := S.all (fun c => !ctlB c)
def nmB (S : List UInt8) : Bool := decide (1 ≤ S.length ∧ S.length ≤ 40) && Fm.onlyB S [45]
def valB (S : List UInt8) : Bool := plnB S && !S.contains 34
structure PV where
  nm : List UInt8
  vs : List (List UInt8)
deriving DecidableEq
structure LV where
  nm : List UInt8
  ps : List PV
  vl : List UInt8
deriving DecidableEq
def LV.zero : LV := ⟨[], [], []⟩
def parB (p : PV) : Bool := nmB p.nm && (decide (0 < p.vs.length) && p.vs.all valB)
def lnB (l : LV) : Bool := nmB l.nm && (plnB l.vl && l.ps.all parB)
/-! ### What a text says -/
def rvL : List UInt8 → Option (List UInt8 × List UInt8)
  | [] => none
  | c :: T => if c = 34 then (if tlT [34] T = [] then none else some (hdT [34] T, (tlT [34] T).tail)) else (if tlT [58, 59, 44] (c :: T) = [] then none else some (hdT [58, 59, 44] (c :: T), tlT [58, 59, 44] (c :: T)))
def rvG : Nat → List UInt8 → List (List UInt8) → Option (List (List UInt8) × List UInt8)
  | 0, _, _ => none
  | k + 1, S, acc => match rvL S with
    | none => none
    | some (_, []) => none
    | some (v, c :: T) => if c = 44 then rvG k T (acc ++ [v]) else some (acc ++ [v], c :: T)
def rpO (nm : List UInt8) : Option (List (List UInt8) × List UInt8) → Option (PV × List UInt8)
  | none => none
  | some (vs, R) => some (⟨nm, vs⟩, R)
def rpL (S : List UInt8) : Option (PV × List UInt8) := if tlT [61] S = [] then none else rpO (hdT [61] S) (rvG (S.length + 1) (tlT [61] S).tail [])
def pgL : Nat → List UInt8 → List PV → Option (List PV × List UInt8)
  | 0, _, _ => none
  | _ + 1, [], acc => some (acc, [])
  | k + 1, c :: T, acc => if c = 59 then (match rpL T with
    | none => none
    | some (p, R) => pgL k R (acc ++ [p])) else some (acc, c :: T)
def lnX (S : List UInt8) : Option LV := if tlT [58, 59] S = [] then none else match pgL (S.length + 1) (tlT [58, 59] S) [] with
  | none => none
  | some (_, []) => none
  | some (ps, c :: T) => if c = 58 ∧ lnB ⟨hdT [58, 59] S, ps, T⟩ = true then some ⟨hdT [58, 59] S, ps, T⟩ else none
def lnP (S : List UInt8) : Int × LV := match lnX S with
  | none => (18, LV.zero)
  | some l => (0, l)
/-! ### A line's text -/
def qtB (v : List UInt8) : Bool := v.any (fun c => ([58, 59, 44] : List UInt8).contains c)
def valT (v : List UInt8) : List UInt8 := if qtB v = true then 34 :: (v ++ [34]) else v
def vsT : UInt8 → List (List UInt8) → List UInt8
  | _, [] => []
  | m, v :: vs => m :: (valT v ++ vsT 44 vs)
def parT (p : PV) : List UInt8 := 59 :: (p.nm ++ vsT 61 p.vs)
def psT : List PV → List UInt8
  | [] => []
  | p :: ps => parT p ++ psT ps
def lineF (l : LV) : List UInt8 := l.nm ++ (psT l.ps ++ 58 :: l.vl)
def lnT (l : LV) : List UInt8 := if lnB l = true then lineF l else []
def lnE (l : LV) : Int := if lnB l = true then 0 else 18
example : lnP [82, 59, 84, 61, 34, 97, 58, 98, 34, 44, 99, 58, 120, 58, 121] = (0, ⟨[82], [⟨[84], [[97, 58, 98], [99]]⟩], [120, 58, 121]⟩) := by decide +kernel
end Lin
end Go.Proofs.Ytdakpncfophjnaa
