/-
  Contracts of the reference's calls on times of a day: Digits, Value of a piece, and the head of Clock.
-/
import Derived.Test.YtikjlnkpcjjigaaDoorClkSplit
import Derived.Test.YtikjlnkpcjjigaaDoorClk4
import Derived.Test.YtikjlnkpcjjigaaDoorRefNum2
import Derived.Laws.AppendOwn
import Derived.Maps.AppendAt
import Derived.OwnWalk
import Derived.Deep.DeepCutAuto
namespace Go.Proofs.YtikjlnkpcjjigaaDoor
open Go.RowKit
namespace Clk
open Sol
theorem okP_at {l : List UInt8} {k a b : Nat} (hk : k < l.length) (h : isDig l[k] = false) : okP l a b = false := by
  have : l.all isDig = false := by
    rw [List.all_eq_false]
    exact ⟨l[k], List.getElem_mem hk, by simp [h]⟩
  simp [okP, this]
theorem okP_no {l : List UInt8} {a b : Nat} (h : ¬ (a ≤ l.length ∧ l.length ≤ b)) : okP l a b = false := by rw [okP, decide_eq_false h]; rfl
set_option maxHeartbeats 400000 in
theorem rdig_any (s : ByteArray) (L : List UInt8) (a b : Nat) (w : World) (hb : b ≤ 100) (hL : Hid (s.data.toList = L)) :
    Calls Tryd.prog 35 #[.string s, .int .i64 (a : Int), .int .i64 (b : Int)] w fun e w' => e = .returned (.bool (okP L a b)) ∧ w = w' := by
  have hlen := Sol.list_len s
  rw [hL.out] at hlen
  by_cases h1 : a ≤ s.size
  · by_cases h2 : s.size ≤ b
    · have HL := Lib.hid hlen
      have d1 : decide (s.size < a) = false := decide_eq_false (by omega)
      have d2 : decide (b < s.size) = false := decide_eq_false (by omega)
      clear hlen
      go_enter Tryd.func35, Tryd.ntmps35
      go_wp2
      go_loop [7] (fun i => ∃ k : Nat, k ≤ s.size ∧ Hid ((L.take k).all Sol.isDig = true) ∧ i = .int .i64 k) (fun i => s.size - (intOf i).toNat)
      case atStart => exact ⟨0, Nat.zero_le _, Lib.hid rfl, rfl⟩
      case round =>
        obtain ⟨k, hk, HA, rfl⟩ := hrel
        by_cases hlt : k < s.size
        · have HS := Lib.hid (Sol.take_snoc s k hlt)
          cases hd : Sol.isDig s[k] with
          | true =>
            have HD := Lib.hid hd
            clear hd
            go_wp2_with (go_at_call 58; refine (RNum.rdigit_any _ _).mono ?_; rintro e w' ⟨rfl, rfl⟩; rw [HD.out])
            go_round
            case rel => exact ⟨k + 1, by omega, Lib.hid (by rw [← hL.out, HS.out, Sol.all_snoc, hL.out, HA.out, HD.out]; rfl), by go_num⟩
            case measure => simp [intOf]; omega
          | false =>
            have HD := Lib.hid hd
            clear hd
            have H : Hid (okP L a b = false) := Lib.hid (by
              have := okP_at (l := s.data.toList) (k := k) (a := a) (b := b) (by rw [hL.out, HL.out]; exact hlt) HD.out
              rwa [hL.out] at this)
            go_wp2_with (go_at_call 58; refine (RNum.rdigit_any _ _).mono ?_; rintro e w' ⟨rfl, rfl⟩; rw [HD.out])
            go_ret
            exact ⟨ret_b H.out.symm, rfl⟩
        · have HT : Hid (L.take k = L) := Lib.hid (List.take_of_length_le (by rw [HL.out]; omega))
          have H : Hid (okP L a b = true) := Lib.hid (okP_iff.2 ⟨by rw [HL.out]; omega, by have := HA.out; rwa [HT.out] at this⟩)
          go_wp2
          go_ret
          exact ⟨ret_b H.out.symm, rfl⟩
    · have H := Lib.hid (okP_no (l := L) (a := a) (b := b) (by omega))
      clear hlen
      go_enter Tryd.func35, Tryd.ntmps35
      go_wp2
      go_ret
      exact ⟨ret_b H.out.symm, rfl⟩
  · have H := Lib.hid (okP_no (l := L) (a := a) (b := b) (by omega))
    clear hlen
    go_enter Tryd.func35, Tryd.ntmps35
    go_wp2
    go_ret
    exact ⟨ret_b H.out.symm, rfl⟩
theorem okP_parse {p : List UInt8} {a b : Nat} (ha : 1 ≤ a) (hb : b ≤ 18) (h : okP p a b = true) : parseB p = true := by
  obtain ⟨⟨h1, h2⟩, h3⟩ := okP_iff.1 h
  exact parseB_yes (by omega) (by omega) h3
theorem rdig_to (p : List UInt8) (a b : Nat) (r : Bool) (w : World) (hb : b ≤ 100) (h : Hid (okP p a b = r)) :
    Calls Tryd.prog 35 #[.string ⟨p.toArray⟩, .int .i64 (a : Int), .int .i64 (b : Int)] w fun e w' => e = .returned (.bool r) ∧ w = w' :=
  (rdig_any ⟨p.toArray⟩ p a b w hb (Lib.hid rfl)).mono fun _ _ ⟨he, hw⟩ => ⟨by rw [he, h.out], hw⟩
theorem rval_to (p : List UInt8) (v : Int) (w : World) (h : Hid (parseB p = true ∧ digVal p = v)) :
    Calls Tryd.prog 36 #[.string ⟨p.toArray⟩] w fun e w' => e = .returned (.int .i64 v) ∧ w = w' :=
  (RNum.rvalue_any ⟨p.toArray⟩ w (Lib.hid h.out.1)).mono fun _ _ ⟨he, hw⟩ => ⟨by rw [he, ← h.out.2], hw⟩
end Clk
end Go.Proofs.YtikjlnkpcjjigaaDoor
