/-
  Several texts in one (EscA, Any, FdM).
-/
import Derived.Test.YthefgagmjamdkaaGreatDoorBdA
import Derived.Laws.IdiomStrings
import Derived.Laws.OwnMore
import Derived.Deep.AppendLies
import Derived.OwnWalk
import Derived.Below
import Derived.Test.YthefgagmjamdkaaGreatDoorShelf
import Derived.WalkKit
import Derived.Lib.Hide
import Derived.Lib.IndexAny
import Derived.Lib.OthersKept
import Derived.Laws.Runes
import Derived.Laws.RangeAny
import Derived.LoopN
import Derived.IntWalk
import Derived.WalkMore
import Derived.Outline
import Derived.BigQuiet
import Derived.Deep.QuietTactic
/-
  Contracts of package escape: isControl, Put. (Written by gen/gen_esca.py.)
-/
namespace Go.Proofs.YthefgagmjamdkaaGreatDoor
open Go.RowKit
namespace Esc
def ctl (c : UInt8) : Bool := decide (((c.toNat : Int) < 32 ∧ c ≠ 9) ∨ c = 127)
def putC (c : UInt8) : List UInt8 := if c = 10 then [92, 110] else if c = 92 ∨ c = 59 ∨ c = 44 then [92, c] else [c]
def okP (c : UInt8) : Bool := decide (c = 10) || !ctl c
def putB (S : List UInt8) : Bool := S.all okP
def putL (S : List UInt8) : List UInt8 := S.flatMap putC
def putR (S : List UInt8) : List UInt8 × Int := if putB S = true then (putL S, 0) else ([], 3)
def bv (c : UInt8) : Value := .int .u8 (c.toNat : Int)
theorem putC_len (c : UInt8) : (putC c).length ≤ 2 := by unfold putC; split <;> (try split) <;> simp
theorem putL_len : ∀ S : List UInt8, (putL S).length ≤ 2 * S.length
  | [] => by simp [putL]
  | c :: S => by
    have := putL_len S
    have h := putC_len c
    unfold putL at this ⊢
    rw [List.flatMap_cons, List.length_append, List.length_cons]
    omega
theorem put_no {S : List UInt8} {k : Nat} (hk : k < S.length) (h : okP S[k] = false) : putB S = false := by
  cases e : putB S with
  | false => rfl
  | true =>
    have := List.all_eq_true.1 e S[k] (List.getElem_mem hk)
    rw [h] at this; cases this
theorem u8_ne {c : UInt8} {n : Nat} (hn : n < 256) (h : c ≠ UInt8.ofNat n) : ((c.toNat : Int) == (n : Int)) = false :=
  beq_eq_false_iff_ne.2 (fun e => h (UInt8.toNat_inj.1 (by
    have : c.toNat = n := by omega
    rw [this, UInt8.toNat_ofNat_of_lt' hn])))
theorem ret_si {s s' : ByteArray} {a a' : Int} (k : s = s') (h : a = a') : Ending.returned (.tuple #[.string s, .int .i64 a]) = .returned (.tuple #[.string s', .int .i64 a']) := by rw [h, k]
theorem iu : (Tryz.prog.info? 5).map (fun i => (i.zero, i.size, i.bytes)) = some (some (.int .u8 0), 1, 1) := by kernel_rfl
theorem own_cells {w : World} {B g n cap : Nat} {L : List UInt8} (h : w.ownsRow B 5 1 (.slice (some ⟨g, 0, none⟩) n cap) n (L.map bv)) (hn : n = L.length) : ∀ j (hj : j < L.length), w.cell? ((⟨g, 0, none⟩ : Addr).add j) = some (.int .u8 (L[j].toNat : Int)) := fun j hj => by
  have := h.cellAt j (by omega)
  rw [show (⟨g, 0, none⟩ : Addr).add j = ⟨g, j, none⟩ from by simp [Addr.add]; exact fun h => h.symm, this]
  simp [bv, hj]
end Esc
end Go.Proofs.YthefgagmjamdkaaGreatDoor
/-
  strings.IndexAny, ContainsAny of whatever text, held against a few ASCII signs. (Written by gen/gen_any.py.)
-/
namespace Go.Proofs.YthefgagmjamdkaaGreatDoor
open Go.RowKit
namespace SAny
theorem decode_wide (s : ByteArray) (i : Nat) (h : i < s.size) (ha : 128 ≤ (s[i]'h).toNat) : ∀ j, j < (Utf8.decode s i).2 → ∃ hj : i + j < s.size, 128 ≤ (s[i + j]'hj).toNat := by
  have hn : ¬ (s[i]'h).toNat < 128 := by omega
  have key : ∀ k, (decide (i + k < s.size) && (s.get! (i + k)).toNat / 64 == 2) = true → ∃ hj : i + k < s.size, 128 ≤ (s[i + k]'hj).toNat := fun k hk => by
    rw [Bool.and_eq_true] at hk
    have h1 := of_decide_eq_true hk.1
    refine ⟨h1, ?_⟩
    have h2 := beq_iff_eq.1 hk.2
    have e := get_at s (i + k) h1
    rw [Nat.add_zero] at e
    rw [← e]
    omega
  have k0 : ∃ hj : i + 0 < s.size, 128 ≤ (s[i + 0]'hj).toNat := ⟨h, ha⟩
  intro j hj
  simp only [Utf8.decode, get_at s i h, hn, if_false] at hj
  split at hj
  · rename_i c1
    rw [Bool.and_eq_true] at c1
    have k1 := key 1 (by simpa using c1.2)
    split at hj
    · match j, hj with
      | 0, _ => exact k0
      | 1, _ => exact k1
      | n + 2, hj => simp at hj; omega
    · match j, hj with
      | 0, _ => exact k0
      | n + 1, hj => simp at hj
  · split at hj
    · rename_i c1
      rw [Bool.and_eq_true, Bool.and_eq_true] at c1
      have k1 := key 1 (by simpa using c1.1.2)
      have k2 := key 2 (by simpa using c1.2)
      split at hj
      · match j, hj with
        | 0, _ => exact k0
        | 1, _ => exact k1
        | 2, _ => exact k2
        | n + 3, hj => simp at hj; omega
      · match j, hj with
        | 0, _ => exact k0
        | n + 1, hj => simp at hj
    · split at hj
      · rename_i c1
        rw [Bool.and_eq_true, Bool.and_eq_true, Bool.and_eq_true] at c1
        have k1 := key 1 (by simpa using c1.1.1.2)
        have k2 := key 2 (by simpa using c1.1.2)
        have k3 := key 3 (by simpa using c1.2)
        split at hj
        · match j, hj with
          | 0, _ => exact k0
          | 1, _ => exact k1
          | 2, _ => exact k2
          | 3, _ => exact k3
          | n + 4, hj => simp at hj; omega
        · match j, hj with
          | 0, _ => exact k0
          | n + 1, hj => simp at hj
      · match j, hj with
        | 0, _ => exact k0
        | n + 1, hj => simp at hj
/-- The signs: two at least, eight at most, all ASCII. -/
structure Sgn (cs : ByteArray) (C : List UInt8) : Prop where
  eq : cs.data.toList = C
  lo : 2 ≤ cs.size
  hi : cs.size ≤ 8
  asc : ∀ (k : Nat) (h : k < cs.size), (cs[k]'h).toNat < 128
theorem Sgn.len {cs : ByteArray} {C : List UInt8} (h : Sgn cs C) : C.length = cs.size := by rw [← h.eq]; simp
theorem get_list {s : ByteArray} {S : List UInt8} (hS : s.data.toList = S) (k : Nat) (h : k < s.size) : ∃ h2 : k < S.length, s[k] = S[k] := by
  have hl : S.length = s.size := by rw [← hS]; simp
  have : s[k] = s.data.toList[k]'(by simpa using h) := by simp [ByteArray.getElem_eq_getElem_data]
  refine ⟨by omega, ?_⟩
  rw [this]
  exact List.getElem_of_eq hS _
theorem Sgn.asc' {cs : ByteArray} {C : List UInt8} (h : Sgn cs C) : ∀ (j : Nat) b, cs.data.toList[j]? = some b → b.toNat < 128 := fun j b hj => by
  have hl := h.len
  rw [h.eq] at hj
  have hj2 : j < cs.size := by
    have := (List.getElem?_eq_some_iff.1 hj).1
    omega
  obtain ⟨h2, e⟩ := get_list h.eq j hj2
  rw [List.getElem?_eq_getElem h2, ← e] at hj
  injection hj with hj
  rw [← hj]
  exact h.asc j hj2
theorem indexByte_none : ∀ (l : List UInt8) (c : UInt8), (∀ b ∈ l, b ≠ c) → Lib.indexByte l c = -1
  | [], _, _ => rfl
  | b :: l, c, h => by
    have e : (b == c) = false := beq_eq_false_iff_ne.2 (h b List.mem_cons_self)
    rw [Lib.indexByte, e, indexByte_none l c (fun x hx => h x (List.mem_cons_of_mem _ hx))]
    rfl
theorem iby_none (cs : ByteArray) (C : List UInt8) (hc : Sgn cs C) (a e : Nat) (q : UInt8) (hq : 128 ≤ q.toNat) (w : World) : Calls Tryz.prog 65 #[.string (cs.extract a e), .int .u8 (q.toNat : Int)] w fun e w' => e = .returned (.int .i64 (-1)) ∧ w' = w := by
  have h := Tryz.strings_IndexByte (cs.extract a e) (q.toNat : Int) w
  have e1 : ((q.toNat : Int)).toNat.toUInt8 = q := by simp
  rw [e1, indexByte_none _ q (fun b hb hbq => by
    have hm := mem_extract hb
    obtain ⟨j, hj, hjb⟩ := List.getElem_of_mem hm
    have := hc.asc' j b (by rw [List.getElem?_eq_getElem hj, hjb])
    rw [hbq] at this
    omega)] at h
  exact h
/-- Does one of the signs stand in the text? -/
def hitA (S C : List UInt8) : Bool := S.any (fun c => C.contains c)
theorem indexAny_hit' (S C : List UInt8) : decide (0 ≤ Lib.indexAny S C) = hitA S C := by
  induction S with
  | nil => rfl
  | cons c S ih =>
    unfold hitA at ih ⊢
    rw [Lib.indexAny, List.any_cons, ← ih]
    have hg := Lib.indexAny_ge C S
    cases h : C.contains c with
    | true => simp
    | false =>
      by_cases h1 : Lib.indexAny S C = -1
      · rw [h1]; simp
      · have h2 : (Lib.indexAny S C == -1) = false := beq_eq_false_iff_ne.2 h1
        rw [h2]
        simp
        omega
end SAny
end Go.Proofs.YthefgagmjamdkaaGreatDoor
/-
  Package fields, plain words: what the fields of a line are; what is joined is split.
-/
namespace Go.Proofs.YthefgagmjamdkaaGreatDoor
open Go.RowKit
namespace Fds
def isBl (c : UInt8) : Bool := c == 32 || c == 9 || c == 13
/-- The fields of what follows. 0: between fields; 1: within one; 2: between its quotes. -/
def spG : Nat → List UInt8 → List UInt8 → Option (List (List UInt8))
  | 0, _, [] => some []
  | 1, a, [] => some [a]
  | _, _, [] => none
  | 0, _, c :: T => if c = 35 then some [] else if isBl c = true then spG 0 [] T else if c = 34 then spG 2 [] T else spG 1 [c] T
  | 1, a, c :: T => if c = 35 then some [a] else if isBl c = true then (spG 0 [] T).map (fun r => a :: r) else if c = 34 then spG 2 a T else spG 1 (a ++ [c]) T
  | _, a, c :: T => if c = 34 then spG 1 a T else spG 2 (a ++ [c]) T
theorem sp0_nil : spG 0 [] [] = some [] := by rw [spG]
theorem sp1_nil (a : List UInt8) : spG 1 a [] = some [a] := by rw [spG]
theorem sp2_nil (a : List UInt8) : spG 2 a [] = none := by rw [spG] <;> simp
theorem sp0_cons (c : UInt8) (T : List UInt8) : spG 0 [] (c :: T) = if c = 35 then some [] else if isBl c = true then spG 0 [] T else if c = 34 then spG 2 [] T else spG 1 [c] T := by rw [spG]
theorem sp1_cons (a : List UInt8) (c : UInt8) (T : List UInt8) : spG 1 a (c :: T) = if c = 35 then some [a] else if isBl c = true then (spG 0 [] T).map (fun r => a :: r) else if c = 34 then spG 2 a T else spG 1 (a ++ [c]) T := by rw [spG]
theorem sp2_cons (a : List UInt8) (c : UInt8) (T : List UInt8) : spG 2 a (c :: T) = if c = 34 then spG 1 a T else spG 2 (a ++ [c]) T := by rw [spG] <;> simp
theorem sp_hash (T : List UInt8) : spG 0 [] (35 :: T) = some [] := by rw [sp0_cons, if_pos rfl]
theorem sp_blank {c : UInt8} (T : List UInt8) (h : isBl c = true) : spG 0 [] (c :: T) = spG 0 [] T := by
  have : c ≠ 35 := fun e => by rw [e] at h; exact absurd h (by decide)
  rw [sp0_cons, if_neg this, if_pos h]
/-- A field begins. -/
theorem sp_begin {c : UInt8} (T : List UInt8) (h1 : c ≠ 35) (h2 : isBl c = false) : spG 0 [] (c :: T) = spG 1 [] (c :: T) := by
  have hb : ¬ isBl c = true := by rw [h2]; decide
  rw [sp0_cons, sp1_cons, if_neg h1, if_neg h1, if_neg hb, if_neg hb]
  rfl
/-- A field ends. -/
theorem sp_ends (a : List UInt8) {c : UInt8} (T : List UInt8) (h : c = 35 ∨ isBl c = true) : spG 1 a (c :: T) = (spG 0 [] (c :: T)).map (fun r => a :: r) := by
  by_cases h1 : c = 35
  · subst h1; rw [sp1_cons, sp0_cons, if_pos rfl, if_pos rfl]; rfl
  · have h2 : isBl c = true := h.elim (fun e => absurd e h1) id
    rw [sp1_cons, if_neg h1, if_pos h2, sp_blank T h2]
theorem sp_end (a : List UInt8) : spG 1 a [] = (spG 0 [] []).map (fun r => a :: r) := by rw [sp1_nil, sp0_nil]; rfl
theorem sp_more (a : List UInt8) {c : UInt8} (T : List UInt8) (h1 : c ≠ 35) (h2 : isBl c = false) (h3 : c ≠ 34) : spG 1 a (c :: T) = spG 1 (a ++ [c]) T := by
  rw [sp1_cons, if_neg h1, if_neg (by rw [h2]; decide), if_neg h3]
theorem sp_quote (a T : List UInt8) : spG 1 a (34 :: T) = spG 2 a T := by
  rw [sp1_cons, if_neg (by decide), if_neg (by decide), if_pos rfl]
theorem sp_qnone : ∀ (T a : List UInt8), Lib.indexByte T 34 < 0 → spG 2 a T = none
  | [], a, _ => sp2_nil a
  | c :: T, a, h => by
    rw [Lib.indexByte] at h
    by_cases hc : c = 34
    · subst hc; simp at h
    · have e : (c == 34) = false := beq_eq_false_iff_ne.2 hc
      rw [e] at h
      rw [sp2_cons, if_neg hc]
      refine sp_qnone T _ ?_
      by_cases h1 : Lib.indexByte T 34 = -1
      · omega
      · have e1 : (Lib.indexByte T 34 == -1) = false := beq_eq_false_iff_ne.2 h1
        rw [e1] at h
        simp at h
        omega
theorem sp_qsome : ∀ (T a : List UInt8) (m : Nat), Lib.indexByte T 34 = m → m < T.length ∧ spG 2 a T = spG 1 (a ++ T.take m) (T.drop (m + 1))
  | [], a, m, h => by rw [Lib.indexByte] at h; omega
  | c :: T, a, m, h => by
    rw [Lib.indexByte] at h
    by_cases hc : c = 34
    · subst hc
      simp at h
      have : m = 0 := by omega
      subst this
      exact ⟨by simp, by rw [sp2_cons, if_pos rfl]; simp⟩
    · have e : (c == 34) = false := beq_eq_false_iff_ne.2 hc
      rw [e] at h
      by_cases h1 : Lib.indexByte T 34 = -1
      · have e1 : (Lib.indexByte T 34 == -1) = true := beq_iff_eq.2 h1
        rw [e1] at h
        simp at h
      · have e1 : (Lib.indexByte T 34 == -1) = false := beq_eq_false_iff_ne.2 h1
        rw [e1] at h
        simp at h
        match m, h with
        | 0, h => exact absurd (show Lib.indexByte T 34 = -1 by omega) h1
        | m + 1, h =>
          obtain ⟨g1, g2⟩ := sp_qsome T (a ++ [c]) m (by omega)
          refine ⟨by simp; omega, ?_⟩
          rw [sp2_cons, if_neg hc, g2]
          simp
/-- Signs that may be in no line. -/
def bad0 (S : List UInt8) : Bool := S.contains 0 || S.contains 10
def splitR (S : List UInt8) : List (List UInt8) × Int := if 600 < S.length then ([], 2) else if bad0 S = true then ([], 6) else match spG 0 [] S with | none => ([], 6) | some L => (L, 0)
/-- A field as it is written. -/
def quoted (f : List UInt8) : Bool := f.length == 0 || SAny.hitA f [32, 9, 13, 35]
def qf (f : List UInt8) : List UInt8 := if quoted f = true then [34] ++ f ++ [34] else f
def bad3 (f : List UInt8) : Bool := SAny.hitA f [0, 10, 34]
/-- Fields with a space ahead of each but the first. -/
def joinG : Bool → List (List UInt8) → List UInt8
  | _, [] => []
  | first, f :: L => (if first = true then [] else [32]) ++ qf f ++ joinG false L
def joinF (L : List (List UInt8)) : List UInt8 := joinG true L
theorem join_snoc : ∀ (L : List (List UInt8)) (b : Bool) (f : List UInt8), joinG b (L ++ [f]) = joinG b L ++ (if (b && L.length == 0) = true then [] else [32]) ++ qf f
  | [], b, f => by cases b <;> simp [joinG]
  | g :: L, b, f => by
    rw [List.cons_append, joinG, joinG, join_snoc L false f]
    simp
theorem no34 {f : List UInt8} (h : bad3 f = false) : ∀ c ∈ f, c ≠ 34 := fun c hc e => by
  subst e
  have := List.any_eq_false.1 h 34 hc
  exact this (by decide)
/-- Between quotes everything is taken as it is. -/
theorem sp_within : ∀ (f a R : List UInt8), (∀ c ∈ f, c ≠ 34) → spG 2 a (f ++ 34 :: R) = spG 1 (a ++ f) R
  | [], a, R, _ => by rw [List.nil_append, sp2_cons, if_pos rfl, List.append_nil]
  | c :: f, a, R, h => by
    rw [List.cons_append, sp2_cons, if_neg (h c List.mem_cons_self), sp_within f _ R (fun x hx => h x (List.mem_cons_of_mem _ hx))]
    simp
theorem sp_plain : ∀ (f a R : List UInt8), (∀ c ∈ f, c ≠ 34 ∧ c ≠ 35 ∧ isBl c = false) → spG 1 a (f ++ R) = spG 1 (a ++ f) R
  | [], a, R, _ => by simp
  | c :: f, a, R, h => by
    obtain ⟨h1, h2, h3⟩ := h c List.mem_cons_self
    rw [List.cons_append, sp_more a _ h2 h3 h1, sp_plain f _ R (fun x hx => h x (List.mem_cons_of_mem _ hx))]
    simp
/-- A field that is written is read. -/
theorem sp_field {f : List UInt8} (R : List UInt8) (h : bad3 f = false) : spG 0 [] (qf f ++ R) = spG 1 f R := by
  unfold qf
  by_cases hq : quoted f = true
  · rw [if_pos hq, List.append_assoc, List.append_assoc]
    show spG 0 [] (34 :: (f ++ 34 :: R)) = _
    rw [sp0_cons, if_neg (by decide), if_neg (by decide), if_pos rfl, sp_within f [] R (no34 h), List.nil_append]
  · rw [if_neg hq]
    have hq2 : quoted f = false := by simpa using hq
    unfold quoted at hq2
    rw [Bool.or_eq_false_iff] at hq2
    have hall : ∀ c ∈ f, c ≠ 34 ∧ c ≠ 35 ∧ isBl c = false := fun c hc => by
      refine ⟨no34 h c hc, fun e => ?_, ?_⟩
      · subst e; exact List.any_eq_false.1 hq2.2 35 hc (by decide)
      · have := List.any_eq_false.1 hq2.2 c hc
        unfold isBl
        cases hb : (c == 32 || c == 9 || c == 13) with
        | false => rfl
        | true =>
          refine absurd ?_ this
          rw [Bool.or_eq_true, Bool.or_eq_true, beq_iff_eq, beq_iff_eq, beq_iff_eq] at hb
          rcases hb with (rfl | rfl) | rfl <;> decide
    match f, hall, hq2 with
    | [], _, hq2 => exact absurd hq2.1 (by decide)
    | c :: f, hall, _ =>
      obtain ⟨h1, h2, h3⟩ := hall c List.mem_cons_self
      rw [List.cons_append, sp_begin _ h2 h3, ← List.cons_append, sp_plain (c :: f) [] R hall, List.nil_append]
theorem sp_join : ∀ (L : List (List UInt8)) (b : Bool), (∀ f ∈ L, bad3 f = false) → spG 0 [] (joinG b L) = some L
  | [], _, _ => by rw [joinG]; exact sp0_nil
  | f :: L, b, h => by
    have ih := sp_join L false (fun g hg => h g (List.mem_cons_of_mem _ hg))
    have key : spG 0 [] (qf f ++ joinG false L) = some (f :: L) := by
      rw [sp_field _ (h f List.mem_cons_self)]
      cases L with
      | nil => rw [joinG, sp1_nil]
      | cons g L =>
        rw [joinG] at ih ⊢
        simp only [Bool.false_eq_true, if_false, List.cons_append] at ih ⊢
        rw [sp_ends _ _ (Or.inr (by decide)), ih]
        rfl
    rw [joinG]
    cases b with
    | true => simpa using key
    | false =>
      simp only [Bool.false_eq_true, if_false, List.cons_append]
      rw [sp_blank _ (by decide)]
      exact key
theorem bad0_app (A B : List UInt8) : bad0 (A ++ B) = (bad0 A || bad0 B) := by
  unfold bad0
  rw [Bool.eq_iff_iff]
  simp
  constructor
  · rintro ((h | h) | (h | h)) <;> simp [h]
  · rintro ((h | h) | (h | h)) <;> simp [h]
theorem bad0_field {f : List UInt8} (h : bad3 f = false) : bad0 (qf f) = false := by
  have h0 : bad0 f = false := by
    unfold bad0
    rw [Bool.or_eq_false_iff]
    constructor
    · cases hc : f.contains 0 with
      | false => rfl
      | true => exact absurd (by decide) (List.any_eq_false.1 h 0 (List.contains_iff_mem.1 hc))
    · cases hc : f.contains 10 with
      | false => rfl
      | true => exact absurd (by decide) (List.any_eq_false.1 h 10 (List.contains_iff_mem.1 hc))
  unfold qf
  by_cases hq : quoted f = true
  · rw [if_pos hq, bad0_app, bad0_app, h0]; rfl
  · rw [if_neg hq, h0]
theorem bad0_join : ∀ (L : List (List UInt8)) (b : Bool), (∀ f ∈ L, bad3 f = false) → bad0 (joinG b L) = false
  | [], _, _ => rfl
  | f :: L, b, h => by
    rw [joinG, bad0_app, bad0_app, bad0_join L false (fun g hg => h g (List.mem_cons_of_mem _ hg)), bad0_field (h f List.mem_cons_self)]
    cases b <;> rfl
theorem split_join {L : List (List UInt8)} (h : ∀ f ∈ L, bad3 f = false) (hl : (joinF L).length ≤ 600) : splitR (joinF L) = (L, 0) := by
  unfold splitR
  rw [if_neg (by omega), if_neg (by rw [joinF, bad0_join L true h]; decide), joinF, sp_join L true h]
end Fds
end Go.Proofs.YthefgagmjamdkaaGreatDoor
