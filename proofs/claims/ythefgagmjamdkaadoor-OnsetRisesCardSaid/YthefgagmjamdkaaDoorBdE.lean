/-
  Several texts in one (Onf, Onf2, OnBad, OnBack).
-/
import Derived.Lib.IndexMore
import Derived.Test.YthefgagmjamdkaaDoorBdC
import Derived.Test.YthefgagmjamdkaaDoorBdD
import Derived.Deep.DeepCutAuto
/-
  Contracts of package onform: dayOf, lastOf, beside, Parse, Text.
-/
namespace Go.Proofs.YthefgagmjamdkaaDoor
open Go.RowKit
namespace Onf
open Sol Wrd
theorem bytes_eq {s t : ByteArray} (h : s.data.toList = t.data.toList) : s = t := ByteArray.ext (Array.toList_inj.1 h)
/-- A day of a month. -/
def dayB (S : List UInt8) : Bool := parseB S && decide (S.length ≤ 2 ∧ 1 ≤ parseV S ∧ parseV S ≤ 31)
theorem day_cases {S : List UInt8} {v : Int} {b : Bool} (hv : parseV S = v) (h : dayB S = b) : (parseB S = false ∧ b = false) ∨ (parseB S = true ∧ ¬ S.length ≤ 2 ∧ b = false) ∨ (parseB S = true ∧ S.length ≤ 2 ∧ v < 1 ∧ b = false) ∨ (parseB S = true ∧ S.length ≤ 2 ∧ 1 ≤ v ∧ 31 < v ∧ b = false) ∨ (parseB S = true ∧ S.length ≤ 2 ∧ 1 ≤ v ∧ v ≤ 31 ∧ b = true) := by
  subst hv
  cases hp : parseB S with
  | false => exact Or.inl ⟨rfl, by rw [← h, dayB, hp]; rfl⟩
  | true =>
    by_cases h1 : S.length ≤ 2
    · by_cases h2 : 1 ≤ parseV S
      · by_cases h3 : parseV S ≤ 31
        · exact Or.inr (Or.inr (Or.inr (Or.inr ⟨rfl, h1, h2, h3, by rw [← h, dayB, hp, decide_eq_true ⟨h1, h2, h3⟩]; rfl⟩)))
        · exact Or.inr (Or.inr (Or.inr (Or.inl ⟨rfl, h1, h2, by omega, by rw [← h, dayB, hp, decide_eq_false (fun x => h3 x.2.2)]; rfl⟩)))
      · exact Or.inr (Or.inr (Or.inl ⟨rfl, h1, by omega, by rw [← h, dayB, hp, decide_eq_false (fun x => h2 x.2.1)]; rfl⟩))
    · exact Or.inr (Or.inl ⟨rfl, h1, by rw [← h, dayB, hp, decide_eq_false (fun x => h1 x.1)]; rfl⟩)
theorem ret_a3 {a a' b b' c c' d d' : Int} (h1 : a = a') (h2 : b = b') (h3 : c = c') (h4 : d = d') : Ending.returned (.tuple #[.agg #[.int .i64 a, .int .i64 b, .int .i64 c], .int .i64 d]) = .returned (.tuple #[.agg #[.int .i64 a', .int .i64 b', .int .i64 c'], .int .i64 d']) := by rw [h1, h2, h3, h4]
/-- The form of the last weekday of a name. -/
def lastP (N : List UInt8) : Int × Int × Int × Int := if (wdP 3 N).2 = 0 then (2, (wdP 3 N).1, 0, 0) else (0, 0, 0, 8)
/-- The form of a weekday beside a day. -/
def besP (k : Int) (N D : List UInt8) : Int × Int × Int × Int := if (wdP 3 N).2 = 0 ∧ dayB D = true then (k, (wdP 3 N).1, parseV D, 0) else (0, 0, 0, 8)
theorem fgo_err (f m : Int) (S : List UInt8) (L : List (List UInt8)) (i fv cv : Int) : (fgo f m S L i fv cv).2 = 0 ∨ fgo f m S L i fv cv = (0, 7) := by
  induction L generalizing i fv cv with
  | nil => unfold fgo; split <;> simp
  | cons x xs ih =>
    unfold fgo
    split
    · exact Or.inl rfl
    · split
      · exact ih _ _ _
      · exact ih _ _ _
theorem wd_err (k : Int) (S : List UInt8) : (wdP k S).2 = 0 ∨ wdP k S = (0, 7) := fgo_err _ _ _ _ _ _ _
end Onf
end Go.Proofs.YthefgagmjamdkaaDoor
/-
  Contracts of package onform, second part: Parse, Text.
-/
namespace Go.Proofs.YthefgagmjamdkaaDoor
open Go.RowKit
namespace Onf
open Sol Wrd
def onP (S : List UInt8) : Int × Int × Int × Int :=
  if dayB S = true then (1, 0, parseV S, 0)
  else if 4 < S.length ∧ smL (S.take 4) = [108, 97, 115, 116] then lastP (S.drop 4)
  else if (Lib.cut S [62, 61]).2.2 = true then besP 3 (Lib.cut S [62, 61]).1 (Lib.cut S [62, 61]).2.1
  else if (Lib.cut S [60, 61]).2.2 = true then besP 4 (Lib.cut S [60, 61]).1 (Lib.cut S [60, 61]).2.1
  else (0, 0, 0, 8)
/-- The result's cell of a call that has made it at g: noughts still. -/
def Noughts (g : Nat) (w : World) : Prop := g < w.heap.size ∧ w.cell? ⟨g, 0, none⟩ = some (.int .i64 0) ∧ w.cell? ⟨g, 1, none⟩ = some (.int .i64 0) ∧ w.cell? ⟨g, 2, none⟩ = some (.int .i64 0) ∧ w.frozen? ⟨g, 0, none⟩ = false ∧ w.frozen? ⟨g, 1, none⟩ = false ∧ w.frozen? ⟨g, 2, none⟩ = false
theorem Noughts.new (w : World) (t : TypeId) : Noughts w.heap.size (w.alloc (Obj.cells #[.int .i64 0, .int .i64 0, .int .i64 0] t)) := by
  refine ⟨by simp, ?_, ?_, ?_, ?_, ?_, ?_⟩ <;> go_simp
theorem Noughts.below {g : Nat} {w w' : World} (h : Noughts g w) (hb : Below w.heap.size w w') : Noughts g w' := by
  obtain ⟨a0, a1, a2, a3, a4, a5, a6⟩ := h
  have c := fun i => hb.cell (p := ⟨g, i, none⟩) a0
  have f := fun i => hb.frozen (p := ⟨g, i, none⟩) a0
  exact ⟨Nat.lt_of_lt_of_le a0 hb.size, (c 0).trans a1, (c 1).trans a2, (c 2).trans a3, (f 0).trans a4, (f 1).trans a5, (f 2).trans a6⟩
theorem cut_len (S P : List UInt8) : (Lib.cut S P).1.length ≤ S.length ∧ (Lib.cut S P).2.1.length ≤ S.length := by
  unfold Lib.cut
  split
  · exact ⟨by simp; omega, by simp⟩
  · exact ⟨Nat.le_refl _, by simp⟩
theorem sm_last : smL [108, 97, 115, 116] = [108, 97, 115, 116] := by decide
/-- A form's text, and why none. -/
def onT (k v d : Int) : List UInt8 := if Wk.onOk k v d = true then (if k = 2 then [108, 97, 115, 116] ++ (nmT 3 v).take 3 else if k = 3 then (nmT 3 v).take 3 ++ [62, 61] ++ textL d 0 else if k = 4 then (nmT 3 v).take 3 ++ [60, 61] ++ textL d 0 else textL d 0) else []
theorem nm_len : ∀ v : Nat, v < 7 → 3 ≤ (nmT 3 (v : Int)).length ∧ (nmT 3 (v : Int)).length ≤ 9 ∧ nmE 3 (v : Int) = 0 := by decide +kernel
theorem nm_len' {v : Int} (h : 0 ≤ v ∧ v ≤ 6) : 3 ≤ (nmT 3 v).length ∧ (nmT 3 v).length ≤ 9 ∧ nmE 3 v = 0 := by
  have := nm_len v.toNat (by omega)
  rwa [Int.toNat_of_nonneg h.1] at this
end Onf
end Go.Proofs.YthefgagmjamdkaaDoor
/-
  Package onform: the waking call of its laws; OnBad: the law answers true at every number, in whatever world that holds the tables.
-/
namespace Go.Proofs.YthefgagmjamdkaaDoor
open Go.RowKit
namespace Onf
open Sol Wrd
theorem wk7_1 : onP [108, 97, 115, 116, 115, 117, 110, 100, 97, 121] = (2, 0, 0, 0) := by decide +kernel
theorem wk7_3 : onP [83, 117, 110, 61, 62, 56] = (0, 0, 0, 8) := by decide +kernel
theorem wk7_2 : onT 3 6 8 = [83, 97, 116, 62, 61, 56] ∧ Wk.chE 3 6 8 = 0 := by
  refine ⟨?_, by decide +kernel⟩
  have k1 : textL 8 0 = [56] := by rw [textL, if_neg (by decide), if_pos (by decide), show (8 : Int).toNat = 8 from rfl, Lib.decDigits, dif_pos (by decide)]; rfl
  rw [onT, if_pos (by decide +kernel), if_neg (by decide), if_pos rfl, k1]
  decide +kernel
/-- A form that a call has laid at g. -/
def On3 (g : Nat) (a b c : Int) (w : World) : Prop := g < w.heap.size ∧ w.cell? ⟨g, 0, none⟩ = some (.int .i64 a) ∧ w.cell? ⟨g, 1, none⟩ = some (.int .i64 b) ∧ w.cell? ⟨g, 2, none⟩ = some (.int .i64 c)
theorem On3.new (w : World) (t : TypeId) (a b c : Int) : On3 w.heap.size a b c (w.alloc (Obj.cells #[.int .i64 a, .int .i64 b, .int .i64 c] t)) := by
  refine ⟨by simp, ?_, ?_, ?_⟩ <;> go_simp
theorem On3.below {g : Nat} {a b c : Int} {w w' : World} (h : On3 g a b c w) (hb : Below w.heap.size w w') : On3 g a b c w' := by
  obtain ⟨a0, a1, a2, a3⟩ := h
  have c := fun i => hb.cell (p := ⟨g, i, none⟩) a0
  exact ⟨Nat.lt_of_lt_of_le a0 hb.size, (c 0).trans a1, (c 1).trans a2, (c 2).trans a3⟩
def badT : Nat → List UInt8 := fun k => ([[], [48], [51, 50], [83, 117, 62, 61, 56], [108, 97, 115, 116, 83, 117], [108, 97, 115, 116], [83, 117, 110, 62, 61], [83, 117, 110, 62, 61, 48], [83, 117, 110, 62, 61, 51, 50], [83, 117, 110, 62, 56], [83, 117, 110, 60, 61, 48, 48, 56], [49, 50, 51], [45, 49], [83, 117, 110, 62, 61, 32, 56], [62, 61, 56], [108, 97, 115, 116, 83, 117, 110, 62, 61, 56], [56, 83, 117, 110]] : List (List UInt8)).getD k []
theorem bad_all : ∀ k < 17, onP (badT k) = (0, 0, 0, 8) ∧ (badT k).length ≤ 20 := by decide +kernel
theorem bad_good : onP [115, 85, 78, 100, 97, 121, 60, 61, 48, 55] = (4, 0, 7, 0) := by decide +kernel
theorem u17 (x : Int) : ∃ k : Nat, (IntKind.u64.wrap x).tmod 17 = (k : Int) ∧ k < 17 := by
  have h1 := Int.tmod_nonneg 17 (show 0 ≤ IntKind.u64.wrap x by rw [IntKind.wrap_u64]; omega)
  have h2 := Int.tmod_lt_of_pos (IntKind.u64.wrap x) (show (0 : Int) < 17 by omega)
  exact ⟨((IntKind.u64.wrap x).tmod 17).toNat, by omega, by omega⟩
end Onf
end Go.Proofs.YthefgagmjamdkaaDoor
/-
  OnBack: the law answers true at every six numbers, in whatever world that holds the tables.
-/
namespace Go.Proofs.YthefgagmjamdkaaDoor
open Go.RowKit
namespace Onf
open Sol Wrd
/-- The law's own Some: a right form of any numbers. -/
def smK (k : Int) : Int := 1 + (IntKind.u64.wrap k).tmod 4
def smW (k v : Int) : Int := if smK k = 1 then 0 else (IntKind.u64.wrap v).tmod 7
def smD (k d : Int) : Int := if smK k = 2 then 0 else 1 + (IntKind.u64.wrap d).tmod 31
theorem um_bd (x : Int) (m : Int) (hm : 0 < m) : 0 ≤ (IntKind.u64.wrap x).tmod m ∧ (IntKind.u64.wrap x).tmod m < m :=
  ⟨Int.tmod_nonneg m (by rw [IntKind.wrap_u64]; omega), Int.tmod_lt_of_pos _ hm⟩
theorem sm_ok (k v d : Int) : Wk.onOk (smK k) (smW k v) (smD k d) = true := by
  have h1 := um_bd k 4 (by omega)
  have h2 := um_bd v 7 (by omega)
  have h3 := um_bd d 31 (by omega)
  refine decide_eq_true ?_
  unfold smW smD smK
  split <;> split <;> omega
/-- A day's text, small. -/
def t31 (d : Nat) : List UInt8 := if d < 10 then [UInt8.ofNat (48 + d)] else [UInt8.ofNat (48 + d / 10), UInt8.ofNat (48 + d % 10)]
theorem textL_31 (d : Nat) (h : d < 100) : textL (d : Int) 0 = t31 d := by
  rw [textL, if_neg (by omega), if_pos (by decide), show (0 : Int).toNat = 0 from rfl, Int.toNat_natCast, padL, Nat.zero_sub, List.replicate_zero, List.nil_append, t31]
  by_cases h1 : d < 10
  · rw [if_pos h1, Lib.decDigits_one h1]
  · rw [if_neg h1, Lib.decDigits_two h1 h]
def onT2 (k v d : Nat) : List UInt8 := if k = 2 then [108, 97, 115, 116] ++ (nmT 3 v).take 3 else if k = 3 then (nmT 3 v).take 3 ++ [62, 61] ++ t31 d else if k = 4 then (nmT 3 v).take 3 ++ [60, 61] ++ t31 d else t31 d
theorem back_tab : ((List.range 5).all fun k => (List.range 7).all fun v => (List.range 32).all fun d => !(Wk.onOk (k : Int) (v : Int) (d : Int)) || decide (onP (onT2 k v d) = ((k : Int), (v : Int), (d : Int), (0 : Int)) ∧ (onT2 k v d).length ≤ 20)) = true := by decide +kernel
theorem back_all (k v d : Nat) (hk : k < 5) (hv : v < 7) (hd : d < 32) (h : Wk.onOk (k : Int) (v : Int) (d : Int) = true) : onP (onT2 k v d) = ((k : Int), (v : Int), (d : Int), (0 : Int)) ∧ (onT2 k v d).length ≤ 20 := by
  have a := List.all_eq_true.1 back_tab k (List.mem_range.2 hk)
  have b := List.all_eq_true.1 a v (List.mem_range.2 hv)
  have c := List.all_eq_true.1 b d (List.mem_range.2 hd)
  rw [h] at c
  exact of_decide_eq_true c
theorem on_back {k v d : Int} (h : Wk.onOk k v d = true) : onP (onT k v d) = (k, v, d, 0) ∧ (onT k v d).length ≤ 20 := by
  obtain ⟨h1, h2, h3⟩ := Wk.onOk_v h
  obtain ⟨k, rfl⟩ : ∃ n : Nat, k = n := ⟨k.toNat, by omega⟩
  obtain ⟨v, rfl⟩ : ∃ n : Nat, v = n := ⟨v.toNat, by omega⟩
  obtain ⟨d, rfl⟩ : ∃ n : Nat, d = n := ⟨d.toNat, by omega⟩
  have e : onT k v d = onT2 k v d := by
    rw [onT, if_pos h, textL_31 d (by omega), onT2]
    have e2 : ((k : Int) = 2) = (k = 2) := propext ⟨fun h => by omega, fun h => by omega⟩
    have e3 : ((k : Int) = 3) = (k = 3) := propext ⟨fun h => by omega, fun h => by omega⟩
    have e4 : ((k : Int) = 4) = (k = 4) := propext ⟨fun h => by omega, fun h => by omega⟩
    simp only [e2, e3, e4]
  rw [e]
  exact back_all k v d (by omega) (by omega) (by omega) h
theorem on_inj {k v d k2 v2 d2 : Int} (h : Wk.onOk k v d = true) (h2 : Wk.onOk k2 v2 d2 = true) (e : onT k v d = onT k2 v2 d2) : k = k2 ∧ v = v2 ∧ d = d2 := by
  have a := (on_back h).1
  rw [e, (on_back h2).1] at a
  simp at a
  omega
end Onf
end Go.Proofs.YthefgagmjamdkaaDoor
