/-
  Package ascii: a text with its large letters made small (the walk over a row of bytes of its own).
-/
import Derived.Test.YtpcnpacllkiieaaGreatDoorNumD
import Derived.Laws.IdiomStrings
import Derived.Below
import Derived.Deep.DeepCutAuto
namespace Go.Proofs.YtpcnpacllkiieaaGreatDoor
open Go.RowKit
namespace Wrd
def smB (c : UInt8) : UInt8 := if 65 ≤ c.toNat ∧ c.toNat ≤ 90 then UInt8.ofNat (c.toNat + 32) else c
def smL (L : List UInt8) : List UInt8 := L.map smB
def mid (L : List UInt8) (k : Nat) : List UInt8 := (L.take k).map smB ++ L.drop k
theorem mid_len (L : List UInt8) (k : Nat) : (mid L k).length = L.length := by
  simp [mid]; omega
theorem mid_zero (L : List UInt8) : mid L 0 = L := by simp [mid]
theorem mid_all (L : List UInt8) : mid L L.length = smL L := by simp [mid, smL]
theorem mid_at (L : List UInt8) (k : Nat) (h : k < L.length) : (mid L k)[k]? = some L[k] := by
  unfold mid
  rw [List.getElem?_append_right (by simp; omega)]
  simp [Nat.min_eq_left (Nat.le_of_lt h), h]
theorem mid_succ (L : List UInt8) (k : Nat) (h : k < L.length) : (mid L k).set k (smB L[k]) = mid L (k + 1) := by
  apply List.ext_getElem?
  intro j
  rw [List.getElem?_set]
  by_cases hj : k = j
  · subst hj
    rw [if_pos rfl, if_pos (by rw [mid_len]; exact h)]
    unfold mid
    rw [List.getElem?_append_left (by simp; omega)]
    simp [h]
  · rw [if_neg hj]
    unfold mid
    by_cases hl : j < k
    · rw [List.getElem?_append_left (by simp; omega), List.getElem?_append_left (by simp; omega)]
      simp [hl, show j < k + 1 by omega]
    · rw [List.getElem?_append_right (by simp; omega), List.getElem?_append_right (by simp; omega)]
      simp only [List.length_map, List.length_take, List.getElem?_drop]
      congr 1
      omega
theorem mid_stay (L : List UInt8) (k : Nat) (h : k < L.length) (hc : smB L[k] = L[k]) : mid L k = mid L (k + 1) := by
  rw [← mid_succ L k h, hc]
  apply List.ext_getElem?
  intro j
  rw [List.getElem?_set]
  by_cases hj : k = j
  · subst hj
    rw [if_pos rfl, if_pos (by rw [mid_len]; exact h), mid_at L k h]
  · rw [if_neg hj]

/-- The row at B: its bytes, none of them frozen. -/
def SmR (B : Nat) (M : List UInt8) (w : World) : Prop :=
  ∀ j (h : j < M.length), w.cell? ⟨B, j, none⟩ = some (.int .u8 (M[j].toNat : Int)) ∧ w.frozen? ⟨B, j, none⟩ = false
theorem SmR.get {B : Nat} {M : List UInt8} {w : World} (h : SmR B M w) {j : Nat} {c : UInt8} (hc : M[j]? = some c) :
    w.cell? ⟨B, j, none⟩ = some (.int .u8 (c.toNat : Int)) ∧ w.frozen? ⟨B, j, none⟩ = false := by
  obtain ⟨hj, rfl⟩ := List.getElem?_eq_some_iff.1 hc
  exact h j hj
theorem SmR.put {B : Nat} {M : List UInt8} {w : World} (h : SmR B M w) {k : Nat} (hk : k < M.length) {v : Int} {c : UInt8} (hv : v = (c.toNat : Int)) :
    SmR B (M.set k c) (w.setCell ⟨B, k, none⟩ (.int .u8 v)) := by
  intro j hj
  rw [List.length_set] at hj
  refine ⟨?_, by rw [World.frozen?_setCell]; exact (h j hj).2⟩
  by_cases hjk : k = j
  · subst hjk
    rw [World.cell?_setCell_same _ _ _ (h k hk).1, hv]
    simp
  · rw [World.cell?_setCell_other _ _ _ _ (by simp_all), (h j hj).1]
    simp [hjk]
theorem bytes_row (w : World) (s : ByteArray) (L : List UInt8) (hL : s.data.toList = L) :
    ∃ cap w1, (convert 9 97 (.string s)).run Tryz.prog w = .ok (.slice (some ⟨w.heap.size, 0, none⟩) s.size cap) w1 ∧ Below w.heap.size w w1 ∧ SmR w.heap.size L w1 ∧ w.heap.size < w1.heap.size := by
  refine ⟨_, _, run_bytes_of_string (P := Tryz.prog) w 9 97 5 s (by kernel_rfl) (by kernel_rfl) (by kernel_rfl), ?_, ?_, ?_⟩
  · exact (Below.refl _ _).drew.alloc (Nat.le_refl _) _
  · intro j hj
    have hs : L.length = s.data.size := by rw [← hL]; simp
    have hz : w.drew.heap.size = w.heap.size := rfl
    refine ⟨?_, ?_⟩
    · have h1 := World.cell?_alloc_mark w.drew (bytesRow s (grownCap w s.size 0 5)) 5 ((bytesRow s (grownCap w s.size 0 5)).size, (bytesRow s (grownCap w s.size 0 5)).size + 1) j
      rw [hz] at h1
      rw [h1, bytesRow_at s _ j (by omega)]
      congr 3
      subst hL
      simp
    · have h1 := World.frozen?_alloc_mark w.drew (bytesRow s (grownCap w s.size 0 5)) 5 (bytesRow s (grownCap w s.size 0 5)).size ((bytesRow s (grownCap w s.size 0 5)).size + 1) j
      rw [hz] at h1
      rw [h1]
      have : j < (bytesRow s (grownCap w s.size 0 5)).size := by rw [bytesRow, Array.size_append, Array.size_map]; omega
      simp; omega
  · simp
theorem smB_lo {c : UInt8} (h : (c.toNat : Int) < 65) : smB c = c := if_neg (by omega)
theorem smB_hi {c : UInt8} (h : 90 < (c.toNat : Int)) : smB c = c := if_neg (by omega)
theorem smB_in {c : UInt8} (h : 65 ≤ (c.toNat : Int)) (h2 : (c.toNat : Int) ≤ 90) : (c.toNat : Int) - 65 + 97 = ((smB c).toNat : Int) := by
  rw [smB, if_pos (by omega)]
  have : (UInt8.ofNat (c.toNat + 32)).toNat = c.toNat + 32 := by simp; omega
  rw [this]; omega

set_option maxHeartbeats 1600000 in
theorem small_any (s : ByteArray) (L M : List UInt8) (w : World) (hn : s.size ≤ 1000) (hL : Hid (s.data.toList = L)) (hM : Hid (smL L = M)) :
    Calls Tryz.prog 146 #[.string s] w fun e w' => e = .returned (.string ⟨M.toArray⟩) ∧ Below w.heap.size w w' := by
  obtain ⟨cap, w1, hconv, hb1, hr1, hz1⟩ := bytes_row w s L hL.out
  have HL : Hid (s.size = L.length) := Lib.hid (by rw [← hL.out]; simp)
  have HR1 := Lib.hid hr1
  obtain ⟨B, hB⟩ : ∃ B, w.heap.size = B := ⟨_, rfl⟩
  rw [hB] at hconv hb1 HR1 hz1 ⊢
  clear hr1
  go_enter Tryz.func146, Tryz.ntmps146
  go_wp2
  go_loopw [10] (fun i wr => ∃ k : Nat, k ≤ s.size ∧ i = .int .i64 k ∧ Hid (SmR B (mid L k) wr) ∧ Below B w wr ∧ B < wr.heap.size) (fun i _ => s.size - (intOf i).toNat)
  case atStart => exact ⟨0, Nat.zero_le _, rfl, Lib.hid (by rw [mid_zero]; exact HR1.out), hb1, hz1⟩
  case round =>
    obtain ⟨k, hk, rfl, HR, hb, hz⟩ := hrel
    by_cases hlt : k < s.size
    · have hkl : k < L.length := by rw [← HL.out]; exact hlt
      obtain ⟨c, hc⟩ : ∃ c, L[k] = c := ⟨_, rfl⟩
      have HG := Lib.hid (HR.out.get (mid_at L k hkl))
      rw [hc] at HG
      obtain ⟨gc, gf⟩ := HG.out
      have hc0 : (0 : Int) ≤ (c.toNat : Int) := by omega
      have hc1 : (c.toNat : Int) ≤ 255 := by have := c.toNat_lt; omega
      have HC := Lib.hid hc
      clear hc HG
      have HLo := Lib.hid (fun h => smB_lo (c := c) h)
      have HHi := Lib.hid (fun h => smB_hi (c := c) h)
      have HIn := Lib.hid (fun h h2 => smB_in (c := c) h h2)
      obtain ⟨x, hx⟩ : ∃ x : Int, (c.toNat : Int) = x := ⟨_, rfl⟩
      rw [hx] at gc hc0 hc1 HLo HHi HIn
      clear hx
      by_cases h65 : ¬ 65 ≤ x
      · have HR2 : Hid (SmR B (mid L (k + 1)) wr) := Lib.hid (by rw [← mid_stay L k hkl (by rw [HC.out]; exact HLo.out (by omega))]; exact HR.out)
        go_wp2
        go_roundw
        case rel => exact ⟨k + 1, by omega, by go_num, HR2, hb, hz⟩
        case measure => simp [intOf]; omega
      · have h65' : 65 ≤ x := by omega
        clear h65
        by_cases h90 : x ≤ 90
        · have HM := Lib.hid (mid_succ L k hkl)
          have HV := Lib.hid (HIn.out h65' h90)
          go_wp2
          go_roundw
          case rel => exact ⟨k + 1, by omega, by go_num, Lib.hid (by rw [← HM.out, HC.out]; exact HR.out.put (by rw [mid_len]; exact hkl) HV.out), hb.setCell (Nat.le_refl _) _, by simp; omega⟩
          case measure => simp [intOf]; omega
        · have HR2 : Hid (SmR B (mid L (k + 1)) wr) := Lib.hid (by rw [← mid_stay L k hkl (by rw [HC.out]; exact HHi.out (by omega))]; exact HR.out)
          go_wp2
          go_roundw
          case rel => exact ⟨k + 1, by omega, by go_num, HR2, hb, hz⟩
          case measure => simp [intOf]; omega
    · obtain rfl : k = s.size := by omega
      have hback := run_convert_bytes_back (P := Tryz.prog) wr 97 9 5 ⟨B, 0, none⟩ cap M (by kernel_rfl) (by kernel_rfl) (by kernel_rfl) (by
        intro j hj
        have := HR.out
        rw [HL.out, mid_all, hM.out] at this
        have e : (⟨B, 0, none⟩ : Addr).add j = ⟨B, j, none⟩ := by
          unfold Addr.add
          split <;> simp_all
        rw [e]
        exact (this j hj).1)
      rw [show M.length = s.size by rw [← hM.out, HL.out]; simp [smL]] at hback
      go_wp2
      go_ret
      exact ⟨rfl, hb⟩
end Wrd
end Go.Proofs.YtpcnpacllkiieaaGreatDoor
