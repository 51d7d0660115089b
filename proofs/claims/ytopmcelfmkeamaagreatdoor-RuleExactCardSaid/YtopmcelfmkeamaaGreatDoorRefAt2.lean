/-
  Contract of the reference's AtText.
-/
import Derived.Test.YtopmcelfmkeamaaGreatDoorBdU
import Derived.Deep.RegionWith
namespace Go.Proofs.YtopmcelfmkeamaaGreatDoor
open Go.RowKit
namespace Atf
open Sol Clk
theorem acell {W w1 : World} (hb : Below W.heap.size W w1) : ∀ b o, b < W.heap.size → w1.cell? ⟨b, o, none⟩ = W.cell? ⟨b, o, none⟩ := fun b o h => hb.cell (p := ⟨b, o, none⟩) h
set_option maxRecDepth 100000 in
set_option maxHeartbeats 3200000 in
theorem rattext_to (n k : Int) (T : List UInt8) (w : World) (hn : -345600 ≤ n ∧ n ≤ 345600) (hk : 1 ≤ k ∧ k ≤ 3) (h : Hid (ctL n ++ suf k = T)) :
    Calls Tryz.prog 63 #[.agg #[.int .i64 n, .int .i64 k]] w fun e w' => e = .returned (.string ⟨T.toArray⟩) ∧ Below w.heap.size w w' := by
  obtain ⟨C, hC⟩ : ∃ C, ctL n = C := ⟨_, rfl⟩
  have hlen := ct_len hn.1 hn.2
  rw [hC] at h hlen
  have HC := Lib.hid hC
  clear hC
  obtain ⟨n1, n2⟩ := hn
  have hk3 : k = 1 ∨ k = 2 ∨ k = 3 := by omega
  clear hk
  rcases hk3 with rfl | rfl | rfl
  · go_enter Tryz.func63, Tryz.ntmps63
    go_wp2_with fail
    have hz0 : w.heap.size < w.heap.size + 1 := by omega
    have hz1 : w.heap.size < w.heap.size + 1 + 1 := by omega
    have hz2 : w.heap.size + 1 < w.heap.size + 1 + 1 := by omega
    go_region_with ((go_at_call 64; (with_reducible refine (rctext_to _ C _ n1 n2 HC).mono ?_); rintro e w' ⟨rfl, hq1⟩; have hcc := acell hq1; have hzz := hq1.size; simp at hzz; have hzw : w.heap.size < w'.heap.size := (by omega)))
    all_goals go_wp2
    all_goals go_ret
    all_goals exact ⟨ret_s (bytes_eq (by rw [← h.out]; simp [suf])), by repeat (first | exact Below.refl _ _ | exact Below.trans (by repeat (first | exact Below.refl _ _ | refine Below.drew ?_ | refine Below.alloc ?_ (by simp; try omega) _)) (hq1.mono (by simp; try omega)) | refine Below.drew ?_ | refine Below.alloc ?_ (by have := hq1.size; simp at this; try simp; try omega) _)⟩
  · go_enter Tryz.func63, Tryz.ntmps63
    go_wp2_with fail
    have hz0 : w.heap.size < w.heap.size + 1 := by omega
    have hz1 : w.heap.size < w.heap.size + 1 + 1 := by omega
    have hz2 : w.heap.size + 1 < w.heap.size + 1 + 1 := by omega
    go_region_with ((go_at_call 64; (with_reducible refine (rctext_to _ C _ n1 n2 HC).mono ?_); rintro e w' ⟨rfl, hq1⟩; have hcc := acell hq1; have hzz := hq1.size; simp at hzz; have hzw : w.heap.size < w'.heap.size := (by omega)))
    all_goals go_wp2
    all_goals go_ret
    all_goals exact ⟨ret_s (bytes_eq (by rw [← h.out]; simp [suf])), by repeat (first | exact Below.refl _ _ | exact Below.trans (by repeat (first | exact Below.refl _ _ | refine Below.drew ?_ | refine Below.alloc ?_ (by simp; try omega) _)) (hq1.mono (by simp; try omega)) | refine Below.drew ?_ | refine Below.alloc ?_ (by have := hq1.size; simp at this; try simp; try omega) _)⟩
  · go_enter Tryz.func63, Tryz.ntmps63
    go_wp2_with fail
    have hz0 : w.heap.size < w.heap.size + 1 := by omega
    have hz1 : w.heap.size < w.heap.size + 1 + 1 := by omega
    have hz2 : w.heap.size + 1 < w.heap.size + 1 + 1 := by omega
    go_region_with ((go_at_call 64; (with_reducible refine (rctext_to _ C _ n1 n2 HC).mono ?_); rintro e w' ⟨rfl, hq1⟩; have hcc := acell hq1; have hzz := hq1.size; simp at hzz; have hzw : w.heap.size < w'.heap.size := (by omega)))
    all_goals go_wp2
    all_goals go_ret
    all_goals exact ⟨ret_s (bytes_eq (by rw [← h.out]; simp [suf])), by repeat (first | exact Below.refl _ _ | exact Below.trans (by repeat (first | exact Below.refl _ _ | refine Below.drew ?_ | refine Below.alloc ?_ (by simp; try omega) _)) (hq1.mono (by simp; try omega)) | refine Below.drew ?_ | refine Below.alloc ?_ (by have := hq1.size; simp at this; try simp; try omega) _)⟩
end Atf
end Go.Proofs.YtopmcelfmkeamaaGreatDoor
