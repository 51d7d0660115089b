/-
  Package tree, plain words: what is right, a tree's text, what lines say, a component's own.
-/
import Derived.Test.YtdakpncfophjnaaLinU
import Derived.Test.YtdakpncfophjnaaBdAC
namespace Go.Proofs.Ytdakpncfophjnaa
namespace Tre
open Lin
structure CV where
  nm : List UInt8
  ls : List LV
  own : Int
deriving DecidableEq
/-- Those that are open: where they stand, where their own end; the last one first. -/
abbrev Stk := List (Int × Int)
def lvK (K : Stk) (i : Int) : Stk := K.dropWhile (fun x => decide (x.2 = i))
def bgL : List UInt8 := [66, 69, 71, 73, 78]
def enL : List UInt8 := [69, 78, 68]
def linB (l : LV) : Bool := !smN l.nm bgL && (!smN l.nm enL && lnB l)
def cmpB (c : CV) : Bool := nmB c.nm && c.ls.all linB
def topE : Stk → Int
  | [] => 0
  | x :: _ => x.2
def stpB (i : Int) (K : Stk) (c : CV) : Bool := decide (0 ≤ c.own) && ((decide (i = 0) || decide (c.own ≤ topE (lvK K i) - i - 1)) && (!decide ((lvK K i).length = 8) && cmpB c))
def chkG : Int → Stk → List CV → Bool
  | _, _, [] => true
  | i, K, c :: cs => stpB i K c && chkG (i + 1) ((i, i + 1 + c.own) :: lvK K i) cs
def chkB : List CV → Bool
  | [] => false
  | c :: cs => decide (c.own = cs.length) && chkG 0 [] (c :: cs)
def chkE (L : List CV) : Int := if chkB L = true then 0 else 20
/-! ### A component's own -/
def ownAt (L : List CV) (i : Int) : Int := (L[i.toNat]?.map CV.own).getD 0
def kdG (L : List CV) (bh : Int) : Nat → Int → List Int → List Int
  | 0, _, _ => []
  | f + 1, i, acc => if i < bh then (if ownAt L i < 0 ∨ bh - i - 1 < ownAt L i then [] else kdG L bh f (i + 1 + ownAt L i) (acc ++ [i])) else acc
def kdR (L : List CV) (at' : Int) : Bool := decide (0 ≤ at' ∧ at' < L.length ∧ 0 ≤ ownAt L at' ∧ ownAt L at' ≤ L.length - at' - 1)
def kids (L : List CV) (at' : Int) : List Int := if kdR L at' = true then kdG L (at' + 1 + ownAt L at') (L.length + 1) (at' + 1) [] else []
/-! ### A tree's text -/
abbrev WS := List UInt8 × Int
/-- What writing a line leaves. -/
def putW (s : WS) (l : LV) : WS :=
  if s.2 ≠ 0 then s else if lnB l = false then (s.1, 18) else if 60000 < (lineF l).length then (s.1, 2) else
  if 600000 < s.1.length + (Fld.foldL (lineF l)).length then (s.1, 2) else (s.1 ++ Fld.foldL (lineF l), 0)
def nmAt (L : List CV) (i : Int) : List UInt8 := (L[i.toNat]?.map CV.nm).getD []
def endW (L : List CV) (s : WS) (x : Int × Int) : WS := putW s ⟨enL, [], nmAt L x.1⟩
def cmpW (L : List CV) (i : Int) (K : Stk) (s : WS) (c : CV) : WS :=
  (((i, i + 1 + c.own) :: K).takeWhile (fun x => decide (x.2 = i + 1))).foldl (endW L) (c.ls.foldl putW (putW s ⟨bgL, [], c.nm⟩))
def txG (L : List CV) : Int → Stk → WS → List CV → WS
  | _, _, s, [] => s
  | i, K, s, c :: cs => if (cmpW L i K s c).2 ≠ 0 then ([], (cmpW L i K s c).2) else txG L (i + 1) (lvK ((i, i + 1 + c.own) :: K) (i + 1)) (cmpW L i K s c) cs
def txT (L : List CV) : WS := if chkB L = true then txG L 0 [] ([], 0) L else ([], 20)
/-! ### What lines say -/
def addL (x : LV) (c : CV) : CV := { c with ls := c.ls ++ [x] }
def setO (n : Int) (c : CV) : CV := { c with own := n }
def bdG : List LV → List CV → List Nat → Option (List CV)
  | [], C, K => if K = [] then some C else none
  | x :: xs, C, K =>
    if (smN x.nm bgL || smN x.nm enL) = true ∧ x.ps ≠ [] then none else
    if smN x.nm bgL = true then (if K = [] ∧ C ≠ [] then none else bdG xs (C ++ [⟨x.vl, [], 0⟩]) (C.length :: K)) else
    match K with
    | [] => none
    | k :: K' =>
      if smN x.nm enL = true then (if smN x.vl (nmAt C k) = true then bdG xs (C.modify k (setO ((C.length : Int) - 1 - k))) K' else none)
      else bdG xs (C.modify k (addL x)) K
def lnsG : List (List UInt8) → List LV → Option (List LV)
  | [], acc => some acc
  | t :: ts, acc => match lnX t with
    | none => none
    | some l => lnsG ts (acc ++ [l])
def bdR (xs : List LV) : List CV × Int := match bdG xs [] [] with
  | none => ([], 20)
  | some C => if chkB C = true then (C, 0) else ([], 20)
def pTr (S : List UInt8) : List CV × Int :=
  if Fld.okCR S = true then (match lnsG (Fld.unfS S) [] with | none => ([], 18) | some xs => bdR xs) else ([], 18)
example : txT [⟨[65], [⟨[88], [], [49]⟩], 1⟩, ⟨[66], [], 0⟩] = ([66, 69, 71, 73, 78, 58, 65, 13, 10, 88, 58, 49, 13, 10, 66, 69, 71, 73, 78, 58, 66, 13, 10, 69, 78, 68, 58, 66, 13, 10, 69, 78, 68, 58, 65, 13, 10], 0) := by decide +kernel
example : pTr [66, 69, 71, 73, 78, 58, 65, 13, 10, 88, 58, 49, 13, 10, 66, 69, 71, 73, 78, 58, 66, 13, 10, 69, 78, 68, 58, 98, 13, 10, 69, 78, 68, 58, 65, 13, 10] = ([⟨[65], [⟨[88], [], [49]⟩], 1⟩, ⟨[66], [], 0⟩], 0) := by decide +kernel
example : kids [⟨[65], [⟨[88], [], [49]⟩], 1⟩, ⟨[66], [], 0⟩] 0 = [1] := by decide +kernel
end Tre
end Go.Proofs.Ytdakpncfophjnaa
