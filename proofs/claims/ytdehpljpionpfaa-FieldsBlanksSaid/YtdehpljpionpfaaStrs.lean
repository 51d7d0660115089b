/-
  The laws' own Heavy over texts that came in; the laws' Texts over a row of their like.
-/
import Derived.Test.YtdehpljpionpfaaOpen
import Derived.Test.YtdehpljpionpfaaNumD
import Derived.Test.YtdehpljpionpfaaMath1
import Derived.Below
namespace Go.Proofs.Ytdehpljpionpfaa
open Go.RowKit
namespace Opn
theorem Strs.form {A : Option Addr} {n : Nat} {ls : Nat → ByteArray} {w : World} (h : Strs A n ls w) (hn : 0 < n) : ∃ b off, A = some ⟨b, off, none⟩ ∧ b < w.heap.size ∧ ∀ j, j < n → w.cell? ⟨b, off + j, none⟩ = some (.string (ls j)) ∧ (ls j).size ≤ maxLen := by
  obtain ⟨b, off, hA, hb, _, _⟩ := h 0 hn
  refine ⟨b, off, hA, hb, fun j hj => ?_⟩
  obtain ⟨b', off', hA', _, h1, h2⟩ := h j hj
  rw [hA] at hA'
  injection hA' with e
  injection e with e1 e2 e3
  subst e1 e2
  exact ⟨h1, h2⟩
theorem Strs.below {A : Option Addr} {n : Nat} {ls : Nat → ByteArray} {w w' : World} (h : Strs A n ls w) (hb : Below w.heap.size w w') : Strs A n ls w' := fun j hj => by
  obtain ⟨b, off, hA, hl, h1, h2⟩ := h j hj
  exact ⟨b, off, hA, Nat.lt_of_lt_of_le hl hb.size, (hb.cell (p := ⟨b, off + j, none⟩) hl).trans h1, h2⟩
set_option maxHeartbeats 3200000 in
set_option maxRecDepth 100000 in
theorem heavy_to (A : Option Addr) (n c : Nat) (ls : Nat → ByteArray) (w : World) (hn : n ≤ maxLen) (h : Strs A n ls w) :
    Calls Try.prog 5 #[.slice A n c] w fun e w' => ∃ b, e = .returned (.bool b) ∧ Hid (b = false → n ≤ 60 ∧ ∀ j, j < n → (ls j).size ≤ 800) ∧ Below w.heap.size w w' := by
  unfold maxLen at hn
  by_cases h60 : 60 < n
  · go_enter Try.func5, Try.ntmps5
    go_wp2
    go_ret
    exact ⟨true, rfl, Lib.hid (fun h => by cases h), Below.refl _ _⟩
  have h60' : n ≤ 60 := by omega
  clear h60
  by_cases h0 : n = 0
  · subst h0
    go_enter Try.func5, Try.ntmps5
    go_wp2
    go_loopw [3] (fun iv wr => iv = .int .i64 0 ∧ Below w.heap.size w wr) (fun _ _ => 0)
    case atStart => exact ⟨rfl, Below.refl _ _⟩
    case round =>
      obtain ⟨rfl, hb⟩ := hrel
      go_wp2
      go_ret
      exact ⟨false, rfl, Lib.hid (fun _ => ⟨by omega, fun j hj => by omega⟩), hb⟩
  obtain ⟨bk, off, rfl, hbk, hcell⟩ := h.form (by omega)
  have HC := Lib.hid hcell
  clear h hcell
  go_enter Try.func5, Try.ntmps5
  go_wp2
  go_loopw [3] (fun iv wr => ∃ k : Nat, k ≤ n ∧ iv = .int .i64 k ∧ Hid (∀ j, j < k → (ls j).size ≤ 800) ∧ Below w.heap.size w wr) (fun iv _ => n - (intOf iv).toNat)
  case atStart => exact ⟨0, Nat.zero_le _, rfl, Lib.hid (fun j hj => by omega), Below.refl _ _⟩
  case round =>
    obtain ⟨k, hk, rfl, hall, hb⟩ := hrel
    by_cases hlt : k < n
    · obtain ⟨hc, hz⟩ := HC.out k hlt
      have hc2 := (hb.cell (p := ⟨bk, off + k, none⟩) hbk).trans hc
      unfold maxLen at hz
      clear hc
      by_cases h8 : 800 < (ls k).size
      · go_wp2
        go_ret
        exact ⟨true, rfl, Lib.hid (fun h => by cases h), hb⟩
      · have h8' : (ls k).size ≤ 800 := by omega
        have HN : Hid (∀ j, j < k + 1 → (ls j).size ≤ 800) := Lib.hid (fun j hj => by
          by_cases e : j = k
          · subst e; exact h8'
          · exact hall.out j (by omega))
        clear h8
        go_wp2
        go_roundw
        case rel => exact ⟨k + 1, by omega, by go_num, HN, hb⟩
        case measure => simp [intOf]; omega
    · have HN : Hid (n ≤ 60 ∧ ∀ j, j < n → (ls j).size ≤ 800) := Lib.hid ⟨h60', fun j hj => hall.out j (by omega)⟩
      go_wp2
      go_ret
      exact ⟨false, rfl, Lib.hid (fun _ => HN.out), hb⟩
set_option maxHeartbeats 3200000 in
set_option maxRecDepth 100000 in
theorem texts_to (g bk off n c1 c : Nat) (ls : Nat → ByteArray) (w : World) (hn : n ≤ 60)
    (hg : ∀ j, j < n → w.cell? ⟨g, j, none⟩ = some (.string (ls j))) (hl : ∀ j, j < n → w.cell? ⟨bk, off + j, none⟩ = some (.string (ls j))) :
    Calls Try.prog 9 #[.slice (some ⟨g, 0, none⟩) n c1, .slice (some ⟨bk, off, none⟩) n c] w fun e w' => e = .returned (.bool true) ∧ ∃ m, w' = w.drewN m := by
  have HG := Lib.hid hg
  have HLL := Lib.hid hl
  clear hg hl
  go_enter Try.func9, Try.ntmps9
  go_wp2_with fail
  go_loopw [5] (fun iv wr => ∃ k : Nat, k ≤ n ∧ iv = .int .i64 k ∧ ∃ m, wr = w.drewN m) (fun iv _ => n - (intOf iv).toNat)
  case atStart => exact ⟨0, Nat.zero_le _, rfl, 0, rfl⟩
  case round =>
    obtain ⟨k, hk, rfl, m, rfl⟩ := hrel
    by_cases hlt : k < n
    · have h1 := HG.out k hlt
      have h2 := HLL.out k hlt
      go_wp2_with fail
      go_quiet (fail)
      go_wp2
      go_roundw
      case rel => exact ⟨k + 1, by omega, by go_num, _, rfl⟩
      case measure => simp [intOf]; omega
    · go_wp2
      go_ret
      exact ⟨rfl, _, rfl⟩
end Opn
end Go.Proofs.Ytdehpljpionpfaa
