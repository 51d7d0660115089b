/-
  The waking call of layer 19. (Written by gen/gen_trz.py.)
-/
import Derived.Test.YtdakpncfophjnaaTrR
import Derived.Test.YtdakpncfophjnaaBdAH
namespace Go.Proofs.Ytdakpncfophjnaa
open Go.RowKit
namespace Tre
open Lin CutB Cel Ap
open Opn (TxtV)
abbrev L19 : List CV := [⟨[65], [⟨[88], [], [49]⟩], 1⟩, ⟨[66], [], 0⟩]
theorem wk19_1 : txT L19 = ([66, 69, 71, 73, 78, 58, 65, 13, 10, 88, 58, 49, 13, 10, 66, 69, 71, 73, 78, 58, 66, 13, 10, 69, 78, 68, 58, 66, 13, 10, 69, 78, 68, 58, 65, 13, 10], 0) := by decide +kernel
theorem wk19_2 : pTr [98, 101, 103, 105, 110, 58, 65, 10, 88, 58, 49, 10, 66, 69, 71, 73, 78, 58, 66, 10, 69, 78, 68, 58, 98, 10, 69, 78, 68, 58, 65] = (L19, 0) := by decide +kernel
theorem wk19_3 : pTr [66, 69, 71, 73, 78, 58, 65] = ([], 20) := by decide +kernel
theorem wk19_4 : kids L19 0 = [1] := by decide +kernel
theorem wk_cmps (w : World) : CmpsV ((w.alloc (.cells #[.string ⟨#[88]⟩, .slice none 0 0, .string ⟨#[49]⟩] 24)).alloc (.cells #[.string ⟨#[65]⟩, .slice (some ⟨w.heap.size, 0, none⟩) 1 1, .int .i64 1, .string ⟨#[66]⟩, .slice none 0 0, .int .i64 0] 63)) (.slice (some ⟨w.heap.size + 1, 0, none⟩) 2 2) L19 := by
  refine ⟨_, _, _, rfl, rfl, fun j hj => ?_⟩
  have e : (w.alloc (.cells #[.string ⟨#[88]⟩, .slice none 0 0, .string ⟨#[49]⟩] 24)).heap.size = w.heap.size + 1 := by simp
  match j, hj with
  | 0, _ =>
    refine ⟨w.heap.size + 1, 0, .slice (some ⟨w.heap.size, 0, none⟩) 1 1, rfl, by simp, ?_, ?_, ?_, ?_⟩
    · rw [← e]; rw [World.cell?_alloc_new]; rfl
    · rw [← e]; rw [World.cell?_alloc_new]; rfl
    · rw [← e]; rw [World.cell?_alloc_new]; rfl
    · have hz : LinsV (w.alloc (.cells #[.string ⟨#[88]⟩, .slice none 0 0, .string ⟨#[49]⟩] 24)) (.slice (some ⟨w.heap.size, 0, none⟩) 1 1) [⟨[88], [], [49]⟩] := by
        refine ⟨_, _, _, rfl, rfl, fun i hi => ?_⟩
        obtain rfl : i = 0 := by simp at hi; exact hi
        refine ⟨w.heap.size, 0, .slice none 0 0, rfl, by simp, ?_, ?_, ?_, ParsV.none _⟩
        · rw [World.cell?_alloc_new]; rfl
        · rw [World.cell?_alloc_new]; rfl
        · rw [World.cell?_alloc_new]; rfl
      exact hz.below ((Below.refl _ _).alloc (Nat.le_refl _) _)
  | 1, _ =>
    refine ⟨w.heap.size + 1, 0, .slice none 0 0, rfl, by simp, ?_, ?_, ?_, LinsV.none _⟩
    · rw [← e]; rw [World.cell?_alloc_new]; rfl
    · rw [← e]; rw [World.cell?_alloc_new]; rfl
    · rw [← e]; rw [World.cell?_alloc_new]; rfl
set_option maxHeartbeats 3200000 in
set_option maxRecDepth 100000 in
theorem kin_1 (g h c d : Nat) (x : Int) (w : World) (h1 : w.cell? ⟨g, 0, none⟩ = some (.int .i64 x)) (h2 : w.cell? ⟨h, 0, none⟩ = some (.int .i64 x)) :
    Calls Try.prog 31 #[.slice (some ⟨g, 0, none⟩) 1 c, .slice (some ⟨h, 0, none⟩) 1 d] w fun e w' => e = .returned (.bool true) ∧ Below w.heap.size w w' := by
  go_enter Try.func31, Try.ntmps31
  go_wp2_with fail
  go_loopw [5] (fun i wr => ∃ k : Nat, k ≤ 1 ∧ i = .int .i64 k ∧ ∃ m, wr = w.drewN m) (fun i _ => 1 - (intOf i).toNat)
  case atStart => exact ⟨0, by omega, rfl, 0, rfl⟩
  case round =>
    obtain ⟨k, hk, rfl, m, rfl⟩ := hrel
    by_cases hlt : k < 1
    · obtain rfl : k = 0 := by omega
      go_wp2_with fail
      go_quiet (fail)
      go_wp2
      go_roundw
      case rel => exact ⟨0 + 1, by omega, by go_num, m + nq, by first | rfl | rw [World.drewN_drewN]⟩
      case measure => simp [intOf]
    · obtain rfl : k = 1 := by omega
      go_wp2
      go_ret
      exact ⟨rfl, below_drewN (Below.refl _ _) _⟩
set_option maxHeartbeats 12800000 in
set_option maxRecDepth 100000 in
theorem wakes19_any (w : World) :
    Calls Try.prog 36 #[] w fun e w' => e = .returned (.bool true) ∧ Below w.heap.size w w' := by
  have V0 := Lib.hid (wk_cmps w)
  have B0 := Lib.hid (((Below.refl w.heap.size w).alloc (Nat.le_refl _) (.cells #[.string ⟨#[88]⟩, .slice none 0 0, .string ⟨#[49]⟩] 24)).alloc (by simp) (.cells #[.string ⟨#[65]⟩, .slice (some ⟨w.heap.size, 0, none⟩) 1 1, .int .i64 1, .string ⟨#[66]⟩, .slice none 0 0, .int .i64 0] 63))
  have SM : Hid (∀ c ∈ L19, smlC c) := Lib.hid (by
    intro c hc
    simp only [List.mem_cons, List.mem_nil_iff, or_false] at hc
    rcases hc with rfl | rfl
    · refine ⟨by decide, by decide, fun l hl => ?_⟩
      simp only [List.mem_cons, List.mem_nil_iff, or_false] at hl
      subst hl
      exact ⟨by decide, by decide, by decide, by simp⟩
    · exact ⟨by decide, by decide, by simp⟩)
  have SW : Hid (∀ c ∈ L19, ∀ l ∈ c.ls, smlW l) := Lib.hid (by
    intro c hc
    simp only [List.mem_cons, List.mem_nil_iff, or_false] at hc
    rcases hc with rfl | rfl
    · intro l hl
      simp only [List.mem_cons, List.mem_nil_iff, or_false] at hl
      subst hl
      exact ⟨⟨by decide, by decide, by decide, by simp⟩, by decide⟩
    · simp)
  have OW : Hid (∀ c ∈ L19, i64B c.own) := Lib.hid (by
    intro c hc
    simp only [List.mem_cons, List.mem_nil_iff, or_false] at hc
    rcases hc with rfl | rfl
    · exact ⟨by decide, by decide⟩
    · exact ⟨by decide, by decide⟩)
  have K1 := Lib.hid wk19_1
  have K2 := Lib.hid wk19_2
  have K3 := Lib.hid wk19_3
  have K4 := Lib.hid wk19_4
  go_enter Try.func36, Try.ntmps36
  go_wp2_with fail
  refine (tx_to _ L19 ([66, 69, 71, 73, 78, 58, 65, 13, 10, 88, 58, 49, 13, 10, 66, 69, 71, 73, 78, 58, 66, 13, 10, 69, 78, 68, 58, 66, 13, 10, 69, 78, 68, 58, 65, 13, 10], 0) _ V0.out (by decide) OW.out SM.out SW.out K1).mono ?_
  rintro e w1 ⟨rfl, k1⟩
  have V1 := Lib.hid (V0.out.below k1)
  have B1 := Lib.hid (bstep B0.out k1)
  clear k1 V0 B0
  go_wp2_with fail
  refine (pa_to _ [98, 101, 103, 105, 110, 58, 65, 10, 88, 58, 49, 10, 66, 69, 71, 73, 78, 58, 66, 10, 69, 78, 68, 58, 98, 10, 69, 78, 68, 58, 65] (L19, 0) _ (by decide) rfl K2).mono ?_
  rintro e w2 ⟨A2, n2, c2, rfl, hq2, k1⟩
  have V2 := Lib.hid (V1.out.below k1)
  have Q2 := hq2
  have B2 := Lib.hid (bstep B1.out k1)
  clear k1 V1 B1 hq2
  go_wp2_with fail
  refine (pa_to _ [66, 69, 71, 73, 78, 58, 65] ([], 20) _ (by decide) rfl K3).mono ?_
  rintro e w3 ⟨A3, n3, c3, rfl, hq3, k1⟩
  have V3 := Lib.hid (V2.out.below k1)
  have Q3 := Lib.hid (Q2.out.below k1)
  have B3 := Lib.hid (bstep B2.out k1)
  clear k1 V2 B2 Q2 hq3
  go_wp2_with fail
  refine (kcm_t _ _ L19 _ Q3.out V3.out (by decide) SM.out).mono ?_
  rintro e w4 ⟨rfl, k1⟩
  have V4 := Lib.hid (V3.out.below k1)
  have B4 := Lib.hid (bstep B3.out k1)
  clear k1 V3 B3 Q3
  go_wp2_with fail
  refine (kd_to _ L19 0 [1] _ V4.out (by decide) ⟨by decide, by decide⟩ OW.out K4).mono ?_
  rintro e w5 ⟨kv, rfl, hk, k1⟩
  have B5 := Lib.hid (bstep B4.out k1)
  obtain ⟨gk, ck, hkv, _, hgk, hck, _⟩ := hk.form (by decide)
  have hc0 := hck 0 (by decide)
  subst hkv
  clear k1 hk hck V4 B4
  have hc1 : (w5.alloc (.cells #[.int .i64 1] 3)).cell? ⟨gk, 0, none⟩ = some (.int .i64 1) := ((Below.refl w5.heap.size w5).alloc (Nat.le_refl _) _).cell (p := ⟨gk, 0, none⟩) hgk |>.trans hc0
  have hc2 : (w5.alloc (.cells #[.int .i64 1] 3)).cell? ⟨w5.heap.size, 0, none⟩ = some (.int .i64 1) := by rw [World.cell?_alloc_new]; rfl
  have HC := Lib.hid (And.intro hc1 hc2)
  clear hc0 hc1 hc2
  go_wp2_with fail
  refine (kin_1 gk w5.heap.size ck 1 1 _ HC.out.1 HC.out.2).mono ?_
  rintro e w6 ⟨rfl, k1⟩
  have B6 := Lib.hid (bstep (B5.out.alloc B5.out.size (.cells #[.int .i64 1] 3)) k1)
  clear k1 B5
  go_wp2_with fail
  refine (ck_nil none 0 _).mono ?_
  rintro e w7 ⟨rfl, k1⟩
  go_wp2
  go_ret
  exact ⟨rfl, bstep B6.out k1⟩
end Tre
end Go.Proofs.Ytdakpncfophjnaa
