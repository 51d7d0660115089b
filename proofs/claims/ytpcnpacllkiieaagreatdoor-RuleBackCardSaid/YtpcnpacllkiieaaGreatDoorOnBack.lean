/-
  OnBack: the law answers true at every six numbers, in whatever world that holds the tables.
-/
import Derived.Test.YtpcnpacllkiieaaGreatDoorOnBad
namespace Go.Proofs.YtpcnpacllkiieaaGreatDoor
open Go.RowKit
namespace Onf
open Sol Wrd
/-- The law's own Some: a right form of any numbers. -/
def smK (k : Int) : Int := 1 + (IntKind.u64.wrap k).tmod 4
def smW (k v : Int) : Int := if smK k = 1 then 0 else (IntKind.u64.wrap v).tmod 7
def smD (k d : Int) : Int := if smK k = 2 then 0 else 1 + (IntKind.u64.wrap d).tmod 31
theorem um_bd (x : Int) (m : Int) (hm : 0 < m) : 0 ≤ (IntKind.u64.wrap x).tmod m ∧ (IntKind.u64.wrap x).tmod m < m :=
  ⟨Int.tmod_nonneg m (by rw [IntKind.wrap_u64]; omega), Int.tmod_lt_of_pos _ hm⟩
theorem sm_ok (k v d : Int) : Wk.onOk (smK k) (smW k v) (smD k d) = true := by
  have h1 := um_bd k 4 (by omega)
  have h2 := um_bd v 7 (by omega)
  have h3 := um_bd d 31 (by omega)
  refine decide_eq_true ?_
  unfold smW smD smK
  split <;> split <;> omega
/-- A day's text, small. -/
def t31 (d : Nat) : List UInt8 := if d < 10 then [UInt8.ofNat (48 + d)] else [UInt8.ofNat (48 + d / 10), UInt8.ofNat (48 + d % 10)]
theorem textL_31 (d : Nat) (h : d < 100) : textL (d : Int) 0 = t31 d := by
  rw [textL, if_neg (by omega), if_pos (by decide), show (0 : Int).toNat = 0 from rfl, Int.toNat_natCast, padL, Nat.zero_sub, List.replicate_zero, List.nil_append, t31]
  by_cases h1 : d < 10
  · rw [if_pos h1, Lib.decDigits_one h1]
  · rw [if_neg h1, Lib.decDigits_two h1 h]
def onT2 (k v d : Nat) : List UInt8 := if k = 2 then [108, 97, 115, 116] ++ (nmT 3 v).take 3 else if k = 3 then (nmT 3 v).take 3 ++ [62, 61] ++ t31 d else if k = 4 then (nmT 3 v).take 3 ++ [60, 61] ++ t31 d else t31 d
theorem back_tab : ((List.range 5).all fun k => (List.range 7).all fun v => (List.range 32).all fun d => !(Wk.onOk (k : Int) (v : Int) (d : Int)) || decide (onP (onT2 k v d) = ((k : Int), (v : Int), (d : Int), (0 : Int)) ∧ (onT2 k v d).length ≤ 20)) = true := by decide +kernel
theorem back_all (k v d : Nat) (hk : k < 5) (hv : v < 7) (hd : d < 32) (h : Wk.onOk (k : Int) (v : Int) (d : Int) = true) : onP (onT2 k v d) = ((k : Int), (v : Int), (d : Int), (0 : Int)) ∧ (onT2 k v d).length ≤ 20 := by
  have a := List.all_eq_true.1 back_tab k (List.mem_range.2 hk)
  have b := List.all_eq_true.1 a v (List.mem_range.2 hv)
  have c := List.all_eq_true.1 b d (List.mem_range.2 hd)
  rw [h] at c
  exact of_decide_eq_true c
theorem on_back {k v d : Int} (h : Wk.onOk k v d = true) : onP (onT k v d) = (k, v, d, 0) ∧ (onT k v d).length ≤ 20 := by
  obtain ⟨h1, h2, h3⟩ := Wk.onOk_v h
  obtain ⟨k, rfl⟩ : ∃ n : Nat, k = n := ⟨k.toNat, by omega⟩
  obtain ⟨v, rfl⟩ : ∃ n : Nat, v = n := ⟨v.toNat, by omega⟩
  obtain ⟨d, rfl⟩ : ∃ n : Nat, d = n := ⟨d.toNat, by omega⟩
  have e : onT k v d = onT2 k v d := by
    rw [onT, if_pos h, textL_31 d (by omega), onT2]
    have e2 : ((k : Int) = 2) = (k = 2) := propext ⟨fun h => by omega, fun h => by omega⟩
    have e3 : ((k : Int) = 3) = (k = 3) := propext ⟨fun h => by omega, fun h => by omega⟩
    have e4 : ((k : Int) = 4) = (k = 4) := propext ⟨fun h => by omega, fun h => by omega⟩
    simp only [e2, e3, e4]
  rw [e]
  exact back_all k v d (by omega) (by omega) (by omega) h
theorem on_inj {k v d k2 v2 d2 : Int} (h : Wk.onOk k v d = true) (h2 : Wk.onOk k2 v2 d2 = true) (e : onT k v d = onT k2 v2 d2) : k = k2 ∧ v = v2 ∧ d = d2 := by
  have a := (on_back h).1
  rw [e, (on_back h2).1] at a
  simp at a
  omega
end Onf
end Go.Proofs.YtpcnpacllkiieaaGreatDoor
