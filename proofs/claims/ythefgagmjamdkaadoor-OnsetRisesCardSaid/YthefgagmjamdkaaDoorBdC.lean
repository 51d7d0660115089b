/-
  Several texts in one (Words3, Words4, Num2, Num3, Pow).
-/
import Derived.Test.YthefgagmjamdkaaDoorBdB
import Derived.Test.YthefgagmjamdkaaDoorShelf
import Derived.Test.YthefgagmjamdkaaDoorBdA
import Derived.Lib.AppendIntMem
import Derived.Lib.Repeat
import Derived.Outline
/-
  Package words: a lexicon's find.
-/
namespace Go.Proofs.YthefgagmjamdkaaDoor
open Go.RowKit
namespace Wrd
def fgo (f m : Int) (S : List UInt8) : List (List UInt8) → Int → Int → Int → Int × Int
  | [], _, fv, cv => if cv = 1 ∧ m ≤ (S.length : Int) then (fv, 0) else (0, 7)
  | x :: xs, i, fv, cv => if smL x = S then (f + i, 0) else if S.isPrefixOf (smL x) then fgo f m S xs (i + 1) (f + i) (cv + 1) else fgo f m S xs (i + 1) fv cv
theorem fgo_nil {f m : Int} {S : List UInt8} {i fv cv : Int} {R : Int × Int} (h : fgo f m S [] i fv cv = R) : R = if cv = 1 ∧ m ≤ (S.length : Int) then (fv, 0) else (0, 7) := h.symm
theorem fgo_eq {f m : Int} {S x : List UInt8} {xs : List (List UInt8)} {i fv cv : Int} {R : Int × Int} (h : fgo f m S (x :: xs) i fv cv = R) (e : smL x = S) : R = (f + i, 0) := by
  rw [← h, fgo, if_pos e]
theorem fgo_pre {f m : Int} {S x : List UInt8} {xs : List (List UInt8)} {i fv cv : Int} {R : Int × Int} (h : fgo f m S (x :: xs) i fv cv = R) (e : ¬ smL x = S) (p : S.isPrefixOf (smL x) = true) : fgo f m S xs (i + 1) (f + i) (cv + 1) = R := by
  rw [← h, fgo, if_neg e, if_pos p]
theorem fgo_no {f m : Int} {S x : List UInt8} {xs : List (List UInt8)} {i fv cv : Int} {R : Int × Int} (h : fgo f m S (x :: xs) i fv cv = R) (e : ¬ smL x = S) (p : S.isPrefixOf (smL x) = false) : fgo f m S xs (i + 1) fv cv = R := by
  rw [← h, fgo, if_neg e, if_neg (by simp [p])]
theorem WK.short {k : Int} {n : Nat} {L : List (List UInt8)} (h : WK k n L) : n ≤ 12 ∧ ∀ x ∈ L, x.length ≤ 9 := by
  rcases h with ⟨_, rfl, rfl⟩ | ⟨_, rfl, rfl⟩ | ⟨_, rfl, rfl⟩ | ⟨_, rfl, rfl⟩ | ⟨_, _, _, _, rfl, rfl⟩ <;> exact ⟨by decide, by decide⟩
/-- list of a fresh lexicon that has words. -/
def LisG (b n : Nat) (k : Int) (L : List (List UInt8)) (w : World) (e : Ending) (w' : World) : Prop := ∃ g, e = .returned (.slice (some ⟨g, 0, none⟩) n n) ∧ Laid b k (some ⟨g, 0, none⟩) n L w' ∧ Below b w w' ∧ w.heap.size < w'.heap.size
theorem ret_ii {a a' c c' : Int} (h : a = a') (h' : c = c') : Ending.returned (.tuple #[.int .i64 a, .int .i64 c]) = .returned (.tuple #[.int .i64 a', .int .i64 c']) := by rw [h, h']
theorem fstV_bd (k : Int) : 0 ≤ fstV k ∧ fstV k ≤ 1 := by unfold fstV; split <;> omega
end Wrd
end Go.Proofs.YthefgagmjamdkaaDoor
/-
  Package words: find, Line, Month, Weekday, Year, Name; ascii.Same; strings.Cut below a world that holds bytealg's bound.
-/
namespace Go.Proofs.YthefgagmjamdkaaDoor
open Go.RowKit
namespace Wrd
/-- Which word of a kind a text is, and why none. -/
def wdP (k : Int) (S : List UInt8) : Int × Int := fgo (fstV k) (lstV k) (smL S) (wds k) 0 0 0
theorem WK_of {k : Int} (h : 1 ≤ k ∧ k ≤ 4) : WK k (wds k).length (wds k) ∧ 0 < (wds k).length := by
  have h4 : k = 1 ∨ k = 2 ∨ k = 3 ∨ k = 4 := by omega
  rcases h4 with rfl | rfl | rfl | rfl
  · exact ⟨Or.inl ⟨rfl, rfl, rfl⟩, by decide⟩
  · exact ⟨Or.inr (Or.inl ⟨rfl, rfl, rfl⟩), by decide⟩
  · exact ⟨Or.inr (Or.inr (Or.inl ⟨rfl, rfl, rfl⟩)), by decide⟩
  · exact ⟨Or.inr (Or.inr (Or.inr (Or.inl ⟨rfl, rfl, rfl⟩))), by decide⟩
theorem WK_any (k : Int) : WK k (wds k).length (wds k) := by
  by_cases h : 1 ≤ k ∧ k ≤ 4
  · exact (WK_of h).1
  · have e1 : k ≠ 1 := by omega
    have e2 : k ≠ 2 := by omega
    have e3 : k ≠ 3 := by omega
    have e4 : k ≠ 4 := by omega
    have e : wds k = [] := by rw [wds, if_neg e1, if_neg e2, if_neg e3, if_neg e4]
    rw [e]
    exact Or.inr (Or.inr (Or.inr (Or.inr ⟨beq_eq_false_iff_ne.2 e1, beq_eq_false_iff_ne.2 e2, beq_eq_false_iff_ne.2 e3, beq_eq_false_iff_ne.2 e4, rfl, rfl⟩)))
theorem fresh_new (k : Int) (w : World) (t : TypeId) : Fresh w.heap.size k (w.alloc (Obj.cells #[.int .i64 k, .int .u32 0, .int .i32 0, .int .u32 0, .slice none 0 0] t)) := by
  refine ⟨by simp, ?_, ?_, ?_, ?_, ?_, ?_, ?_⟩ <;> go_simp
/-- A kind's i-th word, and why none. -/
def nmT (k i : Int) : List UInt8 := if fstV k ≤ i ∧ i - fstV k < ((wds k).length : Int) then ((wds k)[(i - fstV k).toNat]?).getD [] else []
def nmE (k i : Int) : Int := if fstV k ≤ i ∧ i - fstV k < ((wds k).length : Int) then 0 else 1
theorem ret_si' {s s' : ByteArray} {a a' : Int} (k : s = s') (h : a = a') : Ending.returned (.tuple #[.string s, .int .i64 a]) = .returned (.tuple #[.string s', .int .i64 a']) := by rw [h, k]
/-- The library's own bound holds some number. -/
def MaxL (w : World) : Prop := ∃ m, 1 < w.heap.size ∧ w.cell? ⟨1, 0, none⟩ = some (.int .i64 m)
theorem MaxL.stays {w w' : World} (h : MaxL w) (hb : Below w.heap.size w w') : MaxL w' := by
  obtain ⟨m, h1, h2⟩ := h
  exact ⟨m, Nat.lt_of_lt_of_le h1 hb.size, (hb.cell (p := ⟨1, 0, none⟩) h1).trans h2⟩
end Wrd
end Go.Proofs.YthefgagmjamdkaaDoor
/-
  Contracts of package num, its second part: Parse, for every text.
-/
namespace Go.Proofs.YthefgagmjamdkaaDoor
open Go.RowKit

end Go.Proofs.YthefgagmjamdkaaDoor
/-
  Contracts of package num, its third part: Text, for every two integers; the law's own waking call.
-/
namespace Go.Proofs.YthefgagmjamdkaaDoor
open Go.RowKit

theorem repeat48 (k : Nat) : Lib.repeatL [48] k = List.replicate k 48 := by
  induction k with
  | zero => rfl
  | succ k ih => rw [Lib.repeatL, ih]; rfl
theorem itoa_nn {n : Int} (h : 0 ≤ n) : Lib.itoa n = Lib.decDigits n.toNat := by rw [Lib.itoa, if_neg (by omega)]
theorem textL_neg {n d : Int} (h : n < 0) : Sol.textL n d = [] := by rw [Sol.textL, if_pos h]
theorem textL_in {n d : Int} (h : 0 ≤ n) (h1 : 0 ≤ d) (h2 : d ≤ 20) : Sol.textL n d = Sol.padL d.toNat (Lib.decDigits n.toNat) := by
  rw [Sol.textL, if_neg (by omega), if_pos ⟨h1, h2⟩]
theorem textL_out {n d : Int} (h : 0 ≤ n) (h1 : ¬ (0 ≤ d ∧ d ≤ 20)) : Sol.textL n d = Lib.decDigits n.toNat := by
  rw [Sol.textL, if_neg (by omega), if_neg h1, Sol.padL]; simp
theorem padL_short {d : Nat} {l : List UInt8} (h : d ≤ l.length) : Sol.padL d l = l := by
  rw [Sol.padL, show d - l.length = 0 by omega]; rfl
theorem ret_s {s t : ByteArray} (h : s = t) : Ending.returned (.string s) = .returned (.string t) := by rw [h]

theorem pad_str {d : Nat} {l r : List UInt8} (hr : r = List.replicate (d - l.length) 48) : (⟨r.toArray⟩ : ByteArray) ++ ⟨l.toArray⟩ = ⟨(Sol.padL d l).toArray⟩ := by
  rw [Sol.padL, ← hr]
  apply ByteArray.ext
  simp

end Go.Proofs.YthefgagmjamdkaaDoor
/-
  Package num: the table of powers of ten.
-/
namespace Go.Proofs.YthefgagmjamdkaaDoor
open Go.RowKit

/-- The table of powers of ten lies in the world, and whatever is made later leaves it. -/
def Pow (w : World) : Prop := Lib.TabBelow Tryd.prog w.heap.size w "internal/strconv.uint64pow10" .u64 Lib.pow10Tab
theorem Pow.here {w : World} (h : Pow w) : Lib.TabIs Tryd.prog w "internal/strconv.uint64pow10" .u64 Lib.pow10Tab := Lib.TabBelow.here h
theorem Pow.stays {w w' : World} (h : Pow w) (hb : Below w.heap.size w w') : Pow w' := fun w'' hb2 => h w'' (hb.trans (hb2.mono hb.size))
theorem Pow.drewN {w : World} (h : Pow w) (n : Nat) : Pow (w.drewN n) := h.stays (below_drewN (Below.refl _ _) n)

end Go.Proofs.YthefgagmjamdkaaDoor
