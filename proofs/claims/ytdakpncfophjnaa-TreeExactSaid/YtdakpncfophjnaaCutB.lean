/-
  strings.Cut at one sign.
-/
import Derived.Test.YtdakpncfophjnaaMrgF
import Derived.Test.YtdakpncfophjnaaBdH
import Derived.IntWalk
import Derived.BigQuiet
import Derived.Deep.QuietTactic
namespace Go.Proofs.Ytdakpncfophjnaa
open Go.RowKit
namespace CutB
open Opn (sv TxtV Strs lst)
open Rws (RowB RowS)
theorem dtE (s : ByteArray) (a : Nat) : (s.extract a s.size).data.toList = s.data.toList.drop a := by
  rw [Lib.extract_data, List.take_of_length_le]
  rw [List.length_drop]
  simp
theorem iby_ge (l : List UInt8) (c : UInt8) : -1 ≤ Lib.indexByte l c := by
  induction l with
  | nil => exact Int.le_refl _
  | cons a l ih =>
    rw [Lib.indexByte]
    repeat' split
    all_goals omega
theorem iby_lt : ∀ (l : List UInt8) (c : UInt8) (m : Nat), Lib.indexByte l c = m → m < l.length
  | [], _, m, h => by rw [Lib.indexByte] at h; omega
  | b :: l, c, m, h => by
    rw [Lib.indexByte] at h
    by_cases e : (b == c) = true
    · rw [e] at h; simp at h; simp; omega
    · rw [if_neg e] at h
      by_cases e1 : (Lib.indexByte l c == -1) = true
      · rw [if_pos e1] at h; omega
      · rw [if_neg e1] at h
        have := iby_ge l c
        have e2 : Lib.indexByte l c ≠ -1 := fun x => e1 (beq_iff_eq.2 x)
        have := iby_lt l c (m - 1) (by omega)
        simp; omega
theorem dt0 (s : ByteArray) (b : Nat) : (s.extract 0 b).data.toList = s.data.toList.take b := by rw [Lib.extract_data]; simp
set_option maxHeartbeats 1600000 in
set_option maxRecDepth 100000 in
theorem lcut_some (s : ByteArray) (S : List UInt8) (c : UInt8) (m : Nat) (w : World) (hs : s.size ≤ 1000000) (hS : Hid (s.data.toList = S)) (h : Hid (Lib.indexByte S c = m)) :
    Calls Try.prog 81 #[.string s, .string ⟨#[c]⟩] w fun e w' => ∃ a b : ByteArray, e = .returned (.tuple #[.string a, .string b, .bool true]) ∧ Hid (a.data.toList = S.take m ∧ b.data.toList = S.drop (m + 1)) ∧ Below w.heap.size w w' := by
  have hl : S.length = s.size := by rw [← hS.out]; simp
  have hm := iby_lt S c m h.out
  have hi := fun W => (Try.stringslite_Index_one s c W)
  rw [hS.out, h.out] at hi
  have HI := Lib.hid hi
  have HA : Hid ((s.extract 0 m).data.toList = S.take m ∧ (s.extract (m + 1) s.size).data.toList = S.drop (m + 1)) := Lib.hid ⟨by rw [dt0, hS.out], by rw [dtE, hS.out]⟩
  have hms : m + 1 ≤ s.size := by omega
  clear hi hl hm
  go_enter Try.func81, Try.ntmps81
  go_wp2_with fail
  refine (HI.out _).mono ?_
  rintro e w1 ⟨rfl, hw⟩
  subst hw
  go_wp2_with fail
  have h1 : IntKind.i64.wrap ((m : Int) + 1) = (m : Int) + 1 := IntWalk.i64_in _ (by omega)
  have h2 : (0 : Int) ≤ (m : Int) + 1 := by omega
  have h3 : ((m : Int) + 1).toNat = m + 1 := by omega
  have h4 : (m : Int) + 1 ≤ (s.size : Int) := by omega
  have h5 : (m : Int) ≤ (s.size : Int) := by omega
  have h6 : (⟨#[c]⟩ : ByteArray).size = 1 := rfl
  go_quiet (fail)
  clear h1 h2 h3 h4 h5
  go_wp2
  refine bodyPost_ret (v := .tuple #[.string (s.extract 0 m), .string (s.extract (m + 1) s.size), .bool true]) (by simp [results, Try.results81, go_sem]) rfl ⟨_, _, rfl, HA, below_drewN (Below.refl _ _) _⟩
set_option maxHeartbeats 1600000 in
set_option maxRecDepth 100000 in
theorem lcut_none (s : ByteArray) (S : List UInt8) (c : UInt8) (w : World) (hS : Hid (s.data.toList = S)) (h : Hid (Lib.indexByte S c = -1)) :
    Calls Try.prog 81 #[.string s, .string ⟨#[c]⟩] w fun e w' => e = .returned (.tuple #[.string s, .string ⟨#[]⟩, .bool false]) ∧ w = w' := by
  have hi := fun W => (Try.stringslite_Index_one s c W)
  rw [hS.out, h.out] at hi
  have HI := Lib.hid hi
  clear hi
  go_enter Try.func81, Try.ntmps81
  go_wp2_with fail
  refine (HI.out _).mono ?_
  rintro e w1 ⟨rfl, hw⟩
  subst hw
  go_wp2
  refine bodyPost_ret (v := .tuple #[.string s, .string ⟨#[]⟩, .bool false]) (by simp [results, Try.results81, go_sem]) rfl ⟨rfl, rfl⟩
set_option maxHeartbeats 1600000 in
set_option maxRecDepth 100000 in
theorem cut_some (s : ByteArray) (S : List UInt8) (c : UInt8) (m : Nat) (w : World) (hs : s.size ≤ 1000000) (hS : Hid (s.data.toList = S)) (h : Hid (Lib.indexByte S c = m)) :
    Calls Try.prog 66 #[.string s, .string ⟨#[c]⟩] w fun e w' => ∃ a b : ByteArray, e = .returned (.tuple #[.string a, .string b, .bool true]) ∧ Hid (a.data.toList = S.take m ∧ b.data.toList = S.drop (m + 1)) ∧ Below w.heap.size w w' := by
  go_enter Try.func66, Try.ntmps66
  go_wp2_with fail
  refine (lcut_some s S c m _ hs hS h).mono ?_
  rintro e w1 ⟨a, b, rfl, hab, hb⟩
  go_wp2
  refine bodyPost_ret (v := .tuple #[.string a, .string b, .bool true]) (by simp [results, Try.results66, go_sem]) rfl ⟨_, _, rfl, hab, hb⟩
set_option maxHeartbeats 1600000 in
set_option maxRecDepth 100000 in
theorem cut_none (s : ByteArray) (S : List UInt8) (c : UInt8) (w : World) (hS : Hid (s.data.toList = S)) (h : Hid (Lib.indexByte S c = -1)) :
    Calls Try.prog 66 #[.string s, .string ⟨#[c]⟩] w fun e w' => e = .returned (.tuple #[.string s, .string ⟨#[]⟩, .bool false]) ∧ w = w' := by
  go_enter Try.func66, Try.ntmps66
  go_wp2_with fail
  refine (lcut_none s S c _ hS h).mono ?_
  rintro e w1 ⟨rfl, hw⟩
  subst hw
  go_wp2
  refine bodyPost_ret (v := .tuple #[.string s, .string ⟨#[]⟩, .bool false]) (by simp [results, Try.results66, go_sem]) rfl ⟨rfl, rfl⟩
end CutB
end Go.Proofs.Ytdakpncfophjnaa
