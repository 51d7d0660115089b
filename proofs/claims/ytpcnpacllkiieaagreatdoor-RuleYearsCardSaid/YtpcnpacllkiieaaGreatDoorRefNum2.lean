/-
  Contracts of the reference's calls on numbers, the second part: Digits, Value, Text.
-/
import Derived.Test.YtpcnpacllkiieaaGreatDoorRefNum
namespace Go.Proofs.YtpcnpacllkiieaaGreatDoor
open Go.RowKit
namespace RNum
set_option maxHeartbeats 400000 in
theorem rdigits_any (s : ByteArray) (w : World) (hs : s.size ≤ maxLen) :
    Calls Tryz.prog 79 #[.string s, .int .i64 1, .int .i64 18] w fun e w' => e = .returned (.bool (Sol.parseB s.data.toList)) ∧ w = w' := by
  unfold maxLen at hs
  have hlen := Sol.list_len s
  by_cases h1 : 1 ≤ s.size
  · by_cases h2 : s.size ≤ 18
    · have HL := Lib.hid hlen
      clear hlen
      go_enter Tryz.func79, Tryz.ntmps79
      go_wp2
      go_loop [7] (fun i => ∃ k : Nat, k ≤ s.size ∧ Hid ((s.data.toList.take k).all Sol.isDig = true) ∧ i = .int .i64 k) (fun i => s.size - (intOf i).toNat)
      case atStart => exact ⟨0, Nat.zero_le _, Lib.hid rfl, rfl⟩
      case round =>
        obtain ⟨k, hk, HA, rfl⟩ := hrel
        by_cases hlt : k < s.size
        · have HS := Lib.hid (Sol.take_snoc s k hlt)
          cases hd : Sol.isDig s[k] with
          | true =>
            have HD := Lib.hid hd
            clear hd
            go_wp2_with (go_at_call 114; refine (rdigit_any _ _).mono ?_; rintro e w' ⟨rfl, rfl⟩; rw [HD.out])
            go_round
            case rel => exact ⟨k + 1, by omega, Lib.hid (by rw [HS.out, Sol.all_snoc, HA.out, HD.out]; rfl), by go_num⟩
            case measure => simp [intOf]; omega
          | false =>
            have HD := Lib.hid hd
            clear hd
            have H := Lib.hid (Sol.parseB_at (l := s.data.toList) (k := k) (by rw [HL.out]; exact hlt) HD.out)
            go_wp2_with (go_at_call 114; refine (rdigit_any _ _).mono ?_; rintro e w' ⟨rfl, rfl⟩; rw [HD.out])
            go_ret
            exact ⟨ret_b H.out.symm, rfl⟩
        · have HT : Hid (s.data.toList.take k = s.data.toList) := Lib.hid (List.take_of_length_le (by rw [HL.out]; omega))
          have H : Hid (Sol.parseB s.data.toList = true) := Lib.hid (Sol.parseB_yes (by rw [HL.out]; omega) (by rw [HL.out]; omega) (by have := HA.out; rwa [HT.out] at this))
          go_wp2
          go_ret
          exact ⟨ret_b H.out.symm, rfl⟩
    · have H := Lib.hid (Sol.parseB_long (l := s.data.toList) (by omega))
      clear hlen
      go_enter Tryz.func79, Tryz.ntmps79
      go_wp2
      go_ret
      exact ⟨ret_b H.out.symm, rfl⟩
  · have H := Lib.hid (Sol.parseB_short (l := s.data.toList) (by omega))
    clear hlen
    go_enter Tryz.func79, Tryz.ntmps79
    go_wp2
    go_ret
    exact ⟨ret_b H.out.symm, rfl⟩

theorem parseB_parts {l : List UInt8} (h : Sol.parseB l = true) : 1 ≤ l.length ∧ l.length ≤ 18 ∧ l.all Sol.isDig = true := by
  rw [Sol.parseB, Bool.and_eq_true, decide_eq_true_eq] at h
  exact ⟨h.1.1, h.1.2, h.2⟩
theorem all_take {l : List UInt8} (h : l.all Sol.isDig = true) (k : Nat) : (l.take k).all Sol.isDig = true := by
  rw [List.all_eq_true] at h ⊢
  exact fun x hx => h x (List.mem_of_mem_take hx)

set_option maxHeartbeats 400000 in
theorem rvalue_any (s : ByteArray) (w : World) (hp : Hid (Sol.parseB s.data.toList = true)) :
    Calls Tryz.prog 80 #[.string s] w fun e w' => e = .returned (.int .i64 (Sol.digVal s.data.toList)) ∧ w = w' := by
  have hlen := Sol.list_len s
  obtain ⟨p1, p2, p3⟩ := parseB_parts hp.out
  have h2 : s.size ≤ 18 := by omega
  have HP := Lib.hid p3
  have HL := Lib.hid hlen
  clear hlen p1 p2 p3
  go_enter Tryz.func80, Tryz.ntmps80
  go_wp2
  go_loop [3, 4] (fun n i => ∃ k : Nat, k ≤ s.size ∧ i = .int .i64 k ∧ n = .int .i64 (Sol.digVal (s.data.toList.take k))) (fun _ i => s.size - (intOf i).toNat)
  case atStart => exact ⟨0, Nat.zero_le _, rfl, rfl⟩
  case round =>
    obtain ⟨k, hk, rfl, rfl⟩ := hrel
    by_cases hlt : k < s.size
    · have hl : (s.data.toList.take k).length ≤ 17 := by have := List.length_take_le k s.data.toList; omega
      obtain ⟨d0, d1⟩ := Sol.digVal_le17 _ (all_take HP.out k) hl
      have HS := Lib.hid (Sol.take_snoc s k hlt)
      have hb : (s[k].toNat : Int) ≤ 255 := by have := s[k].toNat_lt; omega
      clear hl
      go_wp2
      go_round
      case rel => exact ⟨k + 1, by omega, by go_num, by rw [HS.out, Sol.digVal_snoc]; congr 1; omega⟩
      case measure => simp [intOf]; omega
    · have HT : Hid (s.data.toList.take k = s.data.toList) := Lib.hid (List.take_of_length_le (by rw [HL.out]; omega))
      go_wp2
      go_ret
      exact ⟨ret_i (by rw [HT.out]), rfl⟩
end RNum
end Go.Proofs.YtpcnpacllkiieaaGreatDoor
