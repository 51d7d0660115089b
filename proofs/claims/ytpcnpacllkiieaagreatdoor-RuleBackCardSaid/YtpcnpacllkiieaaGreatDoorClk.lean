/-
  Contracts of package clock: sixtieths, read, Parse.
-/
import Derived.Test.YtpcnpacllkiieaaGreatDoorClkMath
import Derived.Test.YtpcnpacllkiieaaGreatDoorPow
import Derived.Lib.IndexBytes
namespace Go.Proofs.YtpcnpacllkiieaaGreatDoor
open Go.RowKit
namespace Clk
open Sol
theorem ret_isb {a a' : Int} {s s' : ByteArray} {b b' : Bool} (h : a = a') (k : s = s') (j : b = b') : Ending.returned (.tuple #[.int .i64 a, .string s, .bool b]) = .returned (.tuple #[.int .i64 a', .string s', .bool b']) := by rw [h, k, j]
def SixNo (w : World) (e : Ending) (w' : World) : Prop := ∃ (v : Int) (r : ByteArray) (n : Nat), e = .returned (.tuple #[.int .i64 v, .string r, .bool false]) ∧ w' = w.drewN n
theorem drop_str (s : ByteArray) (k : Nat) : s.extract k s.size = ⟨(s.data.toList.drop k).toArray⟩ := by
  rw [← Lib.extract_to_end, Lib.mk_data]
theorem sixS_str (s : ByteArray) : (s.extract 1 3).data.toList = sixS s.data.toList := by rw [Lib.extract_data]; rfl
theorem head_str (s : ByteArray) (h : 0 < s.size) : s.data.toList.head? = some s[0] := by
  obtain ⟨⟨l⟩⟩ := s
  cases l with
  | nil => exact absurd h (by decide)
  | cons a r => rfl
theorem sixB_mk {l : List UInt8} {c : UInt8} (h1 : 3 ≤ l.length) (h2 : l.head? = some c) (h3 : c = 58) : sixB l = (parseB (sixS l) && decide (parseV (sixS l) < 60)) := by
  have e : l.isEmpty = false := by cases l with | nil => simp at h1 | cons a r => rfl
  rw [sixB, e, h2, h3]; simp [h1]

theorem sixB_inv {l : List UInt8} (h : sixB l = true) : l = [] ∨ (3 ≤ l.length ∧ l.head? = some 58 ∧ parseB (sixS l) = true ∧ parseV (sixS l) < 60) := by
  unfold sixB at h
  simp at h
  rcases h with h | ⟨⟨⟨h1, h2⟩, h3⟩, h4⟩
  · exact Or.inl h
  · exact Or.inr ⟨h1, h2, h3, h4⟩
theorem parseV_nn (l : List UInt8) : 0 ≤ parseV l ∧ parseV l ≤ 1000000000000000000 := by
  unfold parseV
  split
  · rename_i h
    simp [parseB] at h
    have := digVal_le l (by simpa using h.2) h.1.2
    omega
  · omega
theorem emp_yes {s : ByteArray} (h : s.size = 0) : s.toList.isEmpty = true := by
  rw [Lib.toList_data, List.isEmpty_iff, ← List.length_eq_zero_iff, ← Lib.size_eq]; exact h
theorem emp_no {s : ByteArray} (h : ¬ s.size = 0) : s.toList.isEmpty = false := by
  rw [Lib.toList_data, Bool.eq_false_iff]
  intro e
  rw [List.isEmpty_iff, ← List.length_eq_zero_iff, ← Lib.size_eq] at e
  exact h e
theorem nil_of {s : ByteArray} (h : s.size = 0) : s.data.toList = [] := by rw [← List.length_eq_zero_iff, ← Lib.size_eq]; exact h

set_option maxHeartbeats 800000 in
theorem six_yes (s : ByteArray) (w : World) (hs : s.size ≤ maxLen) (h : sixB s.data.toList = true) :
    Calls Tryz.prog 159 #[.string s] w fun e w' => e = .returned (.tuple #[.int .i64 (sixV s.data.toList), .string ⟨(sixR s.data.toList).toArray⟩, .bool true]) ∧ ∃ n, w' = w.drewN n := by
  unfold maxLen at hs
  by_cases h0 : s.size = 0
  · have he := emp_yes h0
    have H := Lib.hid (nil_of h0)
    clear h h0
    go_enter Tryz.func159, Tryz.ntmps159
    go_wp2
    go_ret3
    exact ⟨ret_isb (by rw [H.out]; exact six_nil.2.1.symm) (by rw [H.out]; rfl) rfl, 0, rfl⟩
  · have he := emp_no h0
    have hl := Lib.size_eq s
    rcases sixB_inv h with hn | ⟨h3, h4, h5, h6⟩
    · rw [hn] at hl; exact absurd hl h0
    · have k3 : 3 ≤ s.size := by omega
      have hz : 0 < s.size := by omega
      have hc : s[0] = 58 := by
        have := head_str s hz
        rw [h4] at this
        exact (Option.some.inj this).symm
      have hp := parse_any (s.extract 1 3) w (by unfold maxLen; simp; omega)
      rw [sixS_str, h5] at hp
      have HP := Lib.hid hp
      have pn := parseV_nn (sixS s.data.toList)
      have HV := Lib.hid (show sixV s.data.toList = parseV (sixS s.data.toList) from rfl)
      clear h hl h0 hp h3 h4 h5
      generalize parseV (sixS s.data.toList) = v at *
      go_enter Tryz.func159, Tryz.ntmps159
      go_wp2_with fail
      refine HP.out.mono ?_
      rintro e w' ⟨rfl, rfl⟩
      go_wp2_with fail
      go_quiet (fail)
      go_wp2
      go_ret3
      exact ⟨ret_isb HV.out.symm (drop_str s 3) rfl, _, rfl⟩

theorem sixB_b {l : List UInt8} (h : sixB l = false) (h1 : 3 ≤ l.length) (h2 : l.head? = some 58) : (parseB (sixS l) && decide (parseV (sixS l) < 60)) = false := by
  rw [← sixB_mk h1 h2 rfl]; exact h
set_option maxHeartbeats 800000 in
theorem six_no (s : ByteArray) (w : World) (hs : s.size ≤ maxLen) (h : sixB s.data.toList = false) :
    Calls Tryz.prog 159 #[.string s] w (SixNo w) := by
  unfold maxLen at hs
  have hl := Lib.size_eq s
  have h0 : ¬ s.size = 0 := fun e => by
    rw [nil_of e] at h; revert h; decide
  have he := emp_no h0
  by_cases k3 : 3 ≤ s.size
  · have hz : 0 < s.size := by omega
    by_cases hc : s[0] = 58
    · have h2 := head_str s hz
      rw [hc] at h2
      have hb := sixB_b h (by omega) h2
      have hp := parse_any (s.extract 1 3) w (by unfold maxLen; simp; omega)
      rw [sixS_str] at hp
      have pn := parseV_nn (sixS s.data.toList)
      cases hpb : parseB (sixS s.data.toList) with
      | false =>
        rw [hpb] at hp
        have HP := Lib.hid hp
        clear h hl h0 hp h2 hb hpb
        generalize parseV (sixS s.data.toList) = v at *
        go_enter Tryz.func159, Tryz.ntmps159
        go_wp2_with fail
        refine HP.out.mono ?_
        rintro e w' ⟨rfl, rfl⟩
        go_wp2_with fail
        go_quiet (fail)
        go_wp2
        go_ret3
        exact ⟨_, _, _, rfl, rfl⟩
      | true =>
        rw [hpb] at hp hb
        have h6 : decide (parseV (sixS s.data.toList) < 60) = false := by simpa using hb
        have h7 : 60 ≤ parseV (sixS s.data.toList) := by have := of_decide_eq_false h6; omega
        have HP := Lib.hid hp
        clear h hl h0 hp h2 hb hpb
        generalize parseV (sixS s.data.toList) = v at *
        go_enter Tryz.func159, Tryz.ntmps159
        go_wp2_with fail
        refine HP.out.mono ?_
        rintro e w' ⟨rfl, rfl⟩
        go_wp2_with fail
        go_quiet (fail)
        go_wp2
        go_ret3
        exact ⟨_, _, _, rfl, rfl⟩
    · have hc2 : (((s[0]).toNat : Int) == 58) = false := beq_eq_false_iff_ne.2 (fun e => hc (UInt8.toNat_inj.1 (by have : (58 : UInt8).toNat = 58 := rfl; omega)))
      have hc3 : (((s[0]).toNat : Int) != 58) = true := by rw [bne, hc2]; rfl
      clear h hl h0 hc
      go_enter Tryz.func159, Tryz.ntmps159
      go_wp2
      go_ret3
      exact ⟨_, _, 0, rfl, rfl⟩
  · have k4 : s.size < 3 := by omega
    clear h hl h0
    go_enter Tryz.func159, Tryz.ntmps159
    go_wp2
    go_ret3
    exact ⟨_, _, 0, rfl, rfl⟩
end Clk
end Go.Proofs.YtpcnpacllkiieaaGreatDoor
