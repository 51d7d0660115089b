/-
  strings.IndexAny, ContainsAny of whatever text, held against a few ASCII signs. (Written by gen/gen_any.py.)
-/
import Derived.Test.YtpcnpacllkiieaaGreatDoorEscA
import Derived.Test.YtpcnpacllkiieaaGreatDoorShelf
import Derived.WalkKit
import Derived.Below
import Derived.Lib.Hide
import Derived.Lib.IndexAny
import Derived.Lib.OthersKept
import Derived.Laws.Runes
import Derived.Laws.RangeAny
import Derived.LoopN
import Derived.IntWalk
import Derived.WalkMore
import Derived.Outline
import Derived.BigQuiet
import Derived.Deep.QuietTactic
namespace Go.Proofs.YtpcnpacllkiieaaGreatDoor
open Go.RowKit
namespace SAny
theorem decode_wide (s : ByteArray) (i : Nat) (h : i < s.size) (ha : 128 ≤ (s[i]'h).toNat) : ∀ j, j < (Utf8.decode s i).2 → ∃ hj : i + j < s.size, 128 ≤ (s[i + j]'hj).toNat := by
  have hn : ¬ (s[i]'h).toNat < 128 := by omega
  have key : ∀ k, (decide (i + k < s.size) && (s.get! (i + k)).toNat / 64 == 2) = true → ∃ hj : i + k < s.size, 128 ≤ (s[i + k]'hj).toNat := fun k hk => by
    rw [Bool.and_eq_true] at hk
    have h1 := of_decide_eq_true hk.1
    refine ⟨h1, ?_⟩
    have h2 := beq_iff_eq.1 hk.2
    have e := get_at s (i + k) h1
    rw [Nat.add_zero] at e
    rw [← e]
    omega
  have k0 : ∃ hj : i + 0 < s.size, 128 ≤ (s[i + 0]'hj).toNat := ⟨h, ha⟩
  intro j hj
  simp only [Utf8.decode, get_at s i h, hn, if_false] at hj
  split at hj
  · rename_i c1
    rw [Bool.and_eq_true] at c1
    have k1 := key 1 (by simpa using c1.2)
    split at hj
    · match j, hj with
      | 0, _ => exact k0
      | 1, _ => exact k1
      | n + 2, hj => simp at hj; omega
    · match j, hj with
      | 0, _ => exact k0
      | n + 1, hj => simp at hj
  · split at hj
    · rename_i c1
      rw [Bool.and_eq_true, Bool.and_eq_true] at c1
      have k1 := key 1 (by simpa using c1.1.2)
      have k2 := key 2 (by simpa using c1.2)
      split at hj
      · match j, hj with
        | 0, _ => exact k0
        | 1, _ => exact k1
        | 2, _ => exact k2
        | n + 3, hj => simp at hj; omega
      · match j, hj with
        | 0, _ => exact k0
        | n + 1, hj => simp at hj
    · split at hj
      · rename_i c1
        rw [Bool.and_eq_true, Bool.and_eq_true, Bool.and_eq_true] at c1
        have k1 := key 1 (by simpa using c1.1.1.2)
        have k2 := key 2 (by simpa using c1.1.2)
        have k3 := key 3 (by simpa using c1.2)
        split at hj
        · match j, hj with
          | 0, _ => exact k0
          | 1, _ => exact k1
          | 2, _ => exact k2
          | 3, _ => exact k3
          | n + 4, hj => simp at hj; omega
        · match j, hj with
          | 0, _ => exact k0
          | n + 1, hj => simp at hj
      · match j, hj with
        | 0, _ => exact k0
        | n + 1, hj => simp at hj
/-- The signs: two at least, eight at most, all ASCII. -/
structure Sgn (cs : ByteArray) (C : List UInt8) : Prop where
  eq : cs.data.toList = C
  lo : 2 ≤ cs.size
  hi : cs.size ≤ 8
  asc : ∀ (k : Nat) (h : k < cs.size), (cs[k]'h).toNat < 128
theorem Sgn.len {cs : ByteArray} {C : List UInt8} (h : Sgn cs C) : C.length = cs.size := by rw [← h.eq]; simp
theorem get_list {s : ByteArray} {S : List UInt8} (hS : s.data.toList = S) (k : Nat) (h : k < s.size) : ∃ h2 : k < S.length, s[k] = S[k] := by
  have hl : S.length = s.size := by rw [← hS]; simp
  have : s[k] = s.data.toList[k]'(by simpa using h) := by simp [ByteArray.getElem_eq_getElem_data]
  refine ⟨by omega, ?_⟩
  rw [this]
  exact List.getElem_of_eq hS _
theorem Sgn.asc' {cs : ByteArray} {C : List UInt8} (h : Sgn cs C) : ∀ (j : Nat) b, cs.data.toList[j]? = some b → b.toNat < 128 := fun j b hj => by
  have hl := h.len
  rw [h.eq] at hj
  have hj2 : j < cs.size := by
    have := (List.getElem?_eq_some_iff.1 hj).1
    omega
  obtain ⟨h2, e⟩ := get_list h.eq j hj2
  rw [List.getElem?_eq_getElem h2, ← e] at hj
  injection hj with hj
  rw [← hj]
  exact h.asc j hj2
theorem indexByte_none : ∀ (l : List UInt8) (c : UInt8), (∀ b ∈ l, b ≠ c) → Lib.indexByte l c = -1
  | [], _, _ => rfl
  | b :: l, c, h => by
    have e : (b == c) = false := beq_eq_false_iff_ne.2 (h b List.mem_cons_self)
    rw [Lib.indexByte, e, indexByte_none l c (fun x hx => h x (List.mem_cons_of_mem _ hx))]
    rfl
theorem iby_none (cs : ByteArray) (C : List UInt8) (hc : Sgn cs C) (a e : Nat) (q : UInt8) (hq : 128 ≤ q.toNat) (w : World) : Calls Tryz.prog 72 #[.string (cs.extract a e), .int .u8 (q.toNat : Int)] w fun e w' => e = .returned (.int .i64 (-1)) ∧ w' = w := by
  have h := Tryz.strings_IndexByte (cs.extract a e) (q.toNat : Int) w
  have e1 : ((q.toNat : Int)).toNat.toUInt8 = q := by simp
  rw [e1, indexByte_none _ q (fun b hb hbq => by
    have hm := mem_extract hb
    obtain ⟨j, hj, hjb⟩ := List.getElem_of_mem hm
    have := hc.asc' j b (by rw [List.getElem?_eq_getElem hj, hjb])
    rw [hbq] at this
    omega)] at h
  exact h
/-- Does one of the signs stand in the text? -/
def hitA (S C : List UInt8) : Bool := S.any (fun c => C.contains c)
theorem indexAny_hit' (S C : List UInt8) : decide (0 ≤ Lib.indexAny S C) = hitA S C := by
  induction S with
  | nil => rfl
  | cons c S ih =>
    unfold hitA at ih ⊢
    rw [Lib.indexAny, List.any_cons, ← ih]
    have hg := Lib.indexAny_ge C S
    cases h : C.contains c with
    | true => simp
    | false =>
      by_cases h1 : Lib.indexAny S C = -1
      · rw [h1]; simp
      · have h2 : (Lib.indexAny S C == -1) = false := beq_eq_false_iff_ne.2 h1
        rw [h2]
        simp
        omega
end SAny
end Go.Proofs.YtpcnpacllkiieaaGreatDoor
