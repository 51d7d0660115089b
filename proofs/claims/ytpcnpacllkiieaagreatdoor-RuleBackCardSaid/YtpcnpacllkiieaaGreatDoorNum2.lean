/-
  Contracts of package num, its second part: Parse, for every text.
-/
import Derived.Test.YtpcnpacllkiieaaGreatDoorNumD
import Derived.Test.YtpcnpacllkiieaaGreatDoorMath1
namespace Go.Proofs.YtpcnpacllkiieaaGreatDoor
open Go.RowKit

set_option maxHeartbeats 400000 in
theorem parse_any (s : ByteArray) (w : World) (hs : s.size ≤ maxLen) :
    Calls Tryz.prog 109 #[.string s] w fun e w' => e = .returned (.tuple #[.int .i64 (Sol.parseV s.data.toList), .bool (Sol.parseB s.data.toList)]) ∧ w = w' := by
  unfold maxLen at hs
  have hlen := Sol.list_len s
  by_cases h1 : 1 ≤ s.size
  · by_cases h2 : s.size ≤ 18
    · have HL := Lib.hid hlen
      clear hlen
      go_enter Tryz.func109, Tryz.ntmps109
      go_wp2
      go_loop [4, 5] (fun n i => ∃ k : Nat, k ≤ s.size ∧ (s.data.toList.take k).all Sol.isDig = true ∧ i = .int .i64 k ∧ n = .int .i64 (Sol.digVal (s.data.toList.take k))) (fun _ i => s.size - (intOf i).toNat)
      case atStart => exact ⟨0, Nat.zero_le _, rfl, rfl, rfl⟩
      case round =>
        obtain ⟨k, hk, hall, rfl, rfl⟩ := hrel
        have HA := Lib.hid hall
        clear hall
        by_cases hlt : k < s.size
        · have hl : (s.data.toList.take k).length ≤ 17 := by have := List.length_take_le k s.data.toList; omega
          obtain ⟨d0, d1⟩ := Sol.digVal_le17 _ HA.out hl
          clear hl
          have HS := Lib.hid (Sol.take_snoc s k hlt)
          have hb := s[k].toNat_lt
          by_cases c1 : 48 ≤ (s[k].toNat : Int)
          · by_cases c2 : (s[k].toNat : Int) ≤ 57
            · have HD := Lib.hid ((Sol.isDig_iff s[k]).2 ⟨c1, c2⟩)
              go_wp2
              go_round
              case rel => exact ⟨k + 1, by omega, by rw [HS.out, Sol.all_snoc, HA.out, HD.out]; rfl, by go_num, by rw [HS.out, Sol.digVal_snoc]⟩
              case measure => simp [intOf]; omega
            · have HD := Lib.hid (Sol.isDig_hi c2)
              have H := Lib.hid (Sol.parseB_at (l := s.data.toList) (k := k) (by rw [HL.out]; exact hlt) HD.out)
              go_wp2
              go_ret2
              exact ⟨ret_ib (Sol.parseV_no H.out).symm H.out.symm, rfl⟩
          · have HD := Lib.hid (Sol.isDig_lo c1)
            have H := Lib.hid (Sol.parseB_at (l := s.data.toList) (k := k) (by rw [HL.out]; exact hlt) HD.out)
            go_wp2
            go_ret2
            exact ⟨ret_ib (Sol.parseV_no H.out).symm H.out.symm, rfl⟩
        · have HT : Hid (s.data.toList.take k = s.data.toList) := Lib.hid (List.take_of_length_le (by rw [HL.out]; omega))
          have H : Hid (Sol.parseB s.data.toList = true) := Lib.hid (Sol.parseB_yes (by rw [HL.out]; omega) (by rw [HL.out]; omega) (by have := HA.out; rwa [HT.out] at this))
          go_wp2
          go_ret2
          exact ⟨ret_ib (by rw [HT.out]; exact (Sol.parseV_yes H.out).symm) H.out.symm, rfl⟩
    · have H := Lib.hid (Sol.parseB_long (l := s.data.toList) (by omega))
      clear hlen
      go_enter Tryz.func109, Tryz.ntmps109
      go_wp2
      go_ret2
      exact ⟨ret_ib (Sol.parseV_no H.out).symm H.out.symm, rfl⟩
  · have H := Lib.hid (Sol.parseB_short (l := s.data.toList) (by omega))
    clear hlen
    go_enter Tryz.func109, Tryz.ntmps109
    go_wp2
    go_ret2
    exact ⟨ret_ib (Sol.parseV_no H.out).symm H.out.symm, rfl⟩
end Go.Proofs.YtpcnpacllkiieaaGreatDoor
