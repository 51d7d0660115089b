/-
  ascii.Small, ascii.Same of longer texts.
-/
import Derived.Test.YtbeefhmnoihmcaaGreatDoorBdB
namespace Go.Proofs.YtbeefhmnoihmcaaGreatDoor
open Go.RowKit
namespace Wrd
set_option maxHeartbeats 1600000 in
theorem small_z (s : ByteArray) (L M : List UInt8) (w : World) (hn : s.size ≤ 1000000) (hL : Hid (s.data.toList = L)) (hM : Hid (smL L = M)) :
    Calls Tryz.prog 28 #[.string s] w fun e w' => e = .returned (.string ⟨M.toArray⟩) ∧ Below w.heap.size w w' := by
  obtain ⟨cap, w1, hconv, hb1, hr1, hz1⟩ := bytes_row w s L hL.out
  have HL : Hid (s.size = L.length) := Lib.hid (by rw [← hL.out]; simp)
  have HR1 := Lib.hid hr1
  obtain ⟨B, hB⟩ : ∃ B, w.heap.size = B := ⟨_, rfl⟩
  rw [hB] at hconv hb1 HR1 hz1 ⊢
  clear hr1
  go_enter Tryz.func28, Tryz.ntmps28
  go_wp2
  go_loopw [10] (fun i wr => ∃ k : Nat, k ≤ s.size ∧ i = .int .i64 k ∧ Hid (SmR B (mid L k) wr) ∧ Below B w wr ∧ B < wr.heap.size) (fun i _ => s.size - (intOf i).toNat)
  case atStart => exact ⟨0, Nat.zero_le _, rfl, Lib.hid (by rw [mid_zero]; exact HR1.out), hb1, hz1⟩
  case round =>
    obtain ⟨k, hk, rfl, HR, hb, hz⟩ := hrel
    by_cases hlt : k < s.size
    · have hkl : k < L.length := by rw [← HL.out]; exact hlt
      obtain ⟨c, hc⟩ : ∃ c, L[k] = c := ⟨_, rfl⟩
      have HG := Lib.hid (HR.out.get (mid_at L k hkl))
      rw [hc] at HG
      obtain ⟨gc, gf⟩ := HG.out
      have hc0 : (0 : Int) ≤ (c.toNat : Int) := by omega
      have hc1 : (c.toNat : Int) ≤ 255 := by have := c.toNat_lt; omega
      have HC := Lib.hid hc
      clear hc HG
      have HLo := Lib.hid (fun h => smB_lo (c := c) h)
      have HHi := Lib.hid (fun h => smB_hi (c := c) h)
      have HIn := Lib.hid (fun h h2 => smB_in (c := c) h h2)
      obtain ⟨x, hx⟩ : ∃ x : Int, (c.toNat : Int) = x := ⟨_, rfl⟩
      rw [hx] at gc hc0 hc1 HLo HHi HIn
      clear hx
      by_cases h65 : ¬ 65 ≤ x
      · have HR2 : Hid (SmR B (mid L (k + 1)) wr) := Lib.hid (by rw [← mid_stay L k hkl (by rw [HC.out]; exact HLo.out (by omega))]; exact HR.out)
        go_wp2
        go_roundw
        case rel => exact ⟨k + 1, by omega, by go_num, HR2, hb, hz⟩
        case measure => simp [intOf]; omega
      · have h65' : 65 ≤ x := by omega
        clear h65
        by_cases h90 : x ≤ 90
        · have HM := Lib.hid (mid_succ L k hkl)
          have HV := Lib.hid (HIn.out h65' h90)
          go_wp2
          go_roundw
          case rel => exact ⟨k + 1, by omega, by go_num, Lib.hid (by rw [← HM.out, HC.out]; exact HR.out.put (by rw [mid_len]; exact hkl) HV.out), hb.setCell (Nat.le_refl _) _, by simp; omega⟩
          case measure => simp [intOf]; omega
        · have HR2 : Hid (SmR B (mid L (k + 1)) wr) := Lib.hid (by rw [← mid_stay L k hkl (by rw [HC.out]; exact HHi.out (by omega))]; exact HR.out)
          go_wp2
          go_roundw
          case rel => exact ⟨k + 1, by omega, by go_num, HR2, hb, hz⟩
          case measure => simp [intOf]; omega
    · obtain rfl : k = s.size := by omega
      have hback := run_convert_bytes_back (P := Tryz.prog) wr 37 9 5 ⟨B, 0, none⟩ cap M (by kernel_rfl) (by kernel_rfl) (by kernel_rfl) (by
        intro j hj
        have := HR.out
        rw [HL.out, mid_all, hM.out] at this
        have e : (⟨B, 0, none⟩ : Addr).add j = ⟨B, j, none⟩ := by
          unfold Addr.add
          split <;> simp_all
        rw [e]
        exact (this j hj).1)
      rw [show M.length = s.size by rw [← hM.out, HL.out]; simp [smL]] at hback
      go_wp2
      go_ret
      exact ⟨rfl, hb⟩
set_option maxHeartbeats 3200000 in
set_option maxRecDepth 100000 in
theorem same_z (a b : ByteArray) (A B A' B' : List UInt8) (r : Bool) (w : World) (ha : a.size ≤ 1000000) (hb : b.size ≤ 1000000) (hA : Hid (a.data.toList = A)) (hB : Hid (b.data.toList = B)) (hA' : Hid (smL A = A')) (hB' : Hid (smL B = B')) (h : Hid (decide (A.length = B.length ∧ A' = B') = r)) :
    Calls Tryz.prog 72 #[.string a, .string b] w fun e w' => e = .returned (.bool r) ∧ Below w.heap.size w w' := by
  have hla : a.size = A.length := by rw [← hA.out]; simp
  have hlb : b.size = B.length := by rw [← hB.out]; simp
  by_cases hl : a.size = b.size
  · have hd : ((a.size : Int) == (b.size : Int)) = true := by simp [hl]
    by_cases hAB : A' = B'
    · have HR : Hid (r = true) := Lib.hid (by rw [← h.out, decide_eq_true ⟨by omega, hAB⟩])
      subst hAB
      clear hla hlb h
      have HLs := Lib.hid hl
      clear hl
      go_enter Tryz.func72, Tryz.ntmps72
      go_wp2_with fail
      refine (small_z a A A' _ ha hA hA').mono ?_
      rintro e w1 ⟨rfl, hb1⟩
      go_wp2_with fail
      refine (small_z b B A' _ hb hB hB').mono ?_
      rintro e w2 ⟨rfl, hb2⟩
      go_wp2
      go_ret
      exact ⟨ret_b HR.out.symm, hb1.trans (hb2.mono hb1.size)⟩
    · have HR : Hid (r = false) := Lib.hid (by rw [← h.out, decide_eq_false (fun x => hAB x.2)])
      have hAB' : (A' == B') = false := by simpa using hAB
      clear hla hlb h hAB
      have HLs := Lib.hid hl
      clear hl
      go_enter Tryz.func72, Tryz.ntmps72
      go_wp2_with fail
      refine (small_z a A A' _ ha hA hA').mono ?_
      rintro e w1 ⟨rfl, hb1⟩
      go_wp2_with fail
      refine (small_z b B B' _ hb hB hB').mono ?_
      rintro e w2 ⟨rfl, hb2⟩
      go_wp2
      go_ret
      exact ⟨ret_b HR.out.symm, hb1.trans (hb2.mono hb1.size)⟩
  · have hd : ((a.size : Int) == (b.size : Int)) = false := beq_eq_false_iff_ne.2 (by omega)
    have HR : Hid (r = false) := Lib.hid (by rw [← h.out, decide_eq_false (fun x => hl (by omega))])
    clear hla hlb h hl
    go_enter Tryz.func72, Tryz.ntmps72
    go_wp2
    go_ret
    exact ⟨ret_b HR.out.symm, Below.refl _ _⟩
end Wrd
end Go.Proofs.YtbeefhmnoihmcaaGreatDoor
