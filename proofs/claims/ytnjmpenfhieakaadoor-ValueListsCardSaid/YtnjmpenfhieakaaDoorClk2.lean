/-
  Contracts of package clock, second part: read, Parse.
-/
import Derived.Test.YtnjmpenfhieakaaDoorClk
import Derived.Deep.DeepCutAuto
namespace Go.Proofs.YtnjmpenfhieakaaDoor
open Go.RowKit
namespace Clk
open Sol
theorem parse_to (s : ByteArray) (L : List UInt8) (v : Int) (b : Bool) (w : World) (hs : s.size ≤ maxLen) (hL : Hid (s.data.toList = L)) (hv : Hid (parseV L = v)) (hb : Hid (parseB L = b)) :
    Calls Tryd.prog 23 #[.string s] w fun e w' => e = .returned (.tuple #[.int .i64 v, .bool b]) ∧ w = w' :=
  (parse_any s w hs).mono fun _ _ ⟨he, hw⟩ => ⟨by rw [he, hL.out, hv.out, hb.out], hw⟩
theorem readV_no {l : List UInt8} (h : readB l = false) : readV l = 0 := by rw [readV, h]; rfl
theorem idx_or (L : List UInt8) (n : Nat) (hn : n = L.length) : (Lib.indexByte L 58 < 0 ∧ (hdL L).length = n) ∨ (Lib.indexByte L 58 = ((hdL L).length : Int) ∧ 0 ≤ Lib.indexByte L 58) := by
  rcases idx_hd L with ⟨a, b, c⟩ | ⟨a, b⟩
  · exact Or.inl ⟨a, by rw [b, hn]⟩
  · exact Or.inr ⟨a, by omega⟩
theorem hd_str {s : ByteArray} {L : List UInt8} (h : s.data.toList = L) : (s.extract 0 (hdL L).length).data.toList = hdL L ∧ (s.extract (hdL L).length s.size).data.toList = tlL L ∧ (hdL L).length ≤ s.size := by
  have e := hd_tl L
  have hl := Lib.size_eq s
  rw [h] at hl
  refine ⟨?_, ?_, ?_⟩
  · rw [Lib.extract_data, h, List.drop_zero, Nat.sub_zero]
    have k : (hdL L ++ tlL L).take (hdL L).length = hdL L := List.take_left
    rw [e] at k; exact k
  · rw [Lib.extract_to_end, h]
    have k : (hdL L ++ tlL L).drop (hdL L).length = tlL L := List.drop_left
    rw [e] at k; exact k
  · rw [hl, ← e, List.length_append]; simp [e]
theorem digs3 {a : List UInt8} (h : parseB a = true) (hl : a.length ≤ 3) : 0 ≤ parseV a ∧ parseV a < 1000 := by
  rw [parseV_yes h]
  simp [parseB] at h
  have := digVal_bd a (by simpa using h.2)
  have h2 : (10 : Int) ^ a.length ≤ 1000 := by
    have : a.length = 0 ∨ a.length = 1 ∨ a.length = 2 ∨ a.length = 3 := by omega
    rcases this with e | e | e | e <;> rw [e] <;> decide
  omega
theorem six_lt {L : List UInt8} (h : sixB L = true) : 0 ≤ sixV L ∧ sixV L < 60 := by
  have p := (parseV_nn (sixS L)).1
  rcases sixB_inv h with rfl | ⟨_, _, _, h4⟩
  · decide
  · exact ⟨p, h4⟩

end Clk
end Go.Proofs.YtnjmpenfhieakaaDoor
