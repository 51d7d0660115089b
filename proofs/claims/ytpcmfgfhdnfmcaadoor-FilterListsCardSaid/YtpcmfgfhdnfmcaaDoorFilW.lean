/-
  Package solsticelaw22: the waking rule (Fridays): its period, its span, three times.
-/
import Derived.Test.YtpcmfgfhdnfmcaaDoorFilK
namespace Go.Proofs.YtpcmfgfhdnfmcaaDoor
open Go.RowKit
namespace Fil
open Rcv (CV LisV IntV DayV)
open Rck (ckE ckB Small)
open Civ (Ahead)
open Cel
def wkR : CV := ⟨5, 1, 0, false, 0, false, [], [], [], [(0, 5)], [], [], [], [], [], 1⟩
theorem wkR_small : Small wkR := ⟨by decide, by decide, by decide, by decide, by decide, by decide, by decide, by decide, by decide⟩
def nilS : Value := .slice none 0 0
theorem wkR_lis {w : World} {g : Nat} (h : Cs g w [.int .i64 0, .int .i64 5]) : LisV w wkR (.slice none 0 0) (.slice none 0 0) (.slice none 0 0) (.slice (some ⟨g, 0, none⟩) 1 1) (.slice none 0 0) (.slice none 0 0) (.slice none 0 0) (.slice none 0 0) (.slice none 0 0) :=
  ⟨IntV.none w, IntV.none w, IntV.none w, Rcv.day_one h, IntV.none w, IntV.none w, IntV.none w, IntV.none w, IntV.none w⟩
theorem wkR_per : perV wkR 0 = 0 ∧ perE wkR 0 = 0 := by decide +kernel
theorem wkR_span : spF wkR 0 = -259200 ∧ spT wkR 0 = 345599 ∧ spE wkR 0 = 0 := by decide +kernel
theorem wkR_lets : letP wkR 0 86400 = true ∧ letP wkR 0 0 = false ∧ letP wkR 0 86401 = false := by decide +kernel
theorem wkR_nth {w : World} {s6 s7 s8 s9 s10 s11 s12 s13 s14 : Value} : NthC wkR s6 s7 s8 s9 s10 s11 s12 s13 s14 w := NthC.none (fun q hq => by
  have : q = (0, 5) := by simpa [wkR] using hq
  rw [this])
set_option maxHeartbeats 12800000 in
set_option maxRecDepth 100000 in
theorem wakes22_any (w : World) (hA : Ahead w) : Calls Tryd.prog 16 #[] w fun e w' => e = .returned (.bool true) ∧ Below w.heap.size w w' := by
  have HA := Lib.hid hA
  clear hA
  go_enter Tryd.func16, Tryd.ntmps16
  go_upto_region 1 with fail
  go_cut [1] (fun p wz => ∃ g gd, p = .pointer (some ⟨g, 0, none⟩) ∧ Hid (Cs g wz [.int .i64 5, .int .i64 1, .int .i64 0, .bool false, .int .i64 0, .bool false, .slice none 0 0, .slice none 0 0, .slice none 0 0, .slice (some ⟨gd, 0, none⟩) 1 1, .slice none 0 0, .slice none 0 0, .slice none 0 0, .slice none 0 0, .slice none 0 0, .int .i64 1]) ∧ Hid (Cs gd wz [.int .i64 0, .int .i64 5]) ∧ Hid (Below w.heap.size w wz))
  case first =>
    go_wp2
    go_meet
    exact ⟨_, _, rfl, Lib.hid (cs_at (by simp) _ _), Lib.hid ((cs_at (by simp) _ _).alloc _), Lib.hid (((Below.refl _ _).alloc (by simp) _).alloc (by simp; try omega) _)⟩
  case rest =>
  obtain ⟨w1, rfl⟩ : ∃ x : World, x = wc := ⟨_, rfl⟩
  obtain ⟨g, gd, rfl, RB, DB, B⟩ := hcut
  go_wp2_with (refine ld16 RB.out rfl (by rfl) (by rfl) (by rfl) ?_; intro K hK; go_simp)
  refine (per_to wkR _ _ _ _ _ _ _ _ _ 0 _ _ _ (HA.out.stays B.out) (by decide) (by decide) (wkR_lis DB.out) wkR_small (by decide) (by decide) (Lib.hid wkR_per.1) (Lib.hid wkR_per.2)).mono ?_
  rintro e w2 ⟨rfl, k⟩
  have RB := Lib.hid (RB.out.below k)
  have DB := Lib.hid (DB.out.below k)
  have B := Lib.hid (bstep B.out k)
  clear k
  go_wp2_with (refine ld16 RB.out rfl (by rfl) (by rfl) (by rfl) ?_; intro K hK; go_simp)
  refine (span_to wkR _ _ _ _ _ _ _ _ _ 0 _ _ _ _ (HA.out.stays B.out) (by decide) (by decide) (wkR_lis DB.out) wkR_small (Lib.hid wkR_span.1) (Lib.hid wkR_span.2.1) (Lib.hid wkR_span.2.2)).mono ?_
  rintro e w3 ⟨rfl, k⟩
  have RB := Lib.hid (RB.out.below k)
  have DB := Lib.hid (DB.out.below k)
  have B := Lib.hid (bstep B.out k)
  clear k
  go_wp2_with (refine ld16 RB.out rfl (by rfl) (by rfl) (by rfl) ?_; intro K hK; go_simp)
  refine (lets_to wkR _ _ _ _ _ _ _ _ _ 0 86400 _ _ (HA.out.stays B.out) (by decide) (by decide) (wkR_lis DB.out) wkR_small wkR_nth (by decide) (by decide) (by decide) (by decide) (Lib.hid wkR_lets.1)).mono ?_
  rintro e w4 ⟨rfl, k⟩
  have RB := Lib.hid (RB.out.below k)
  have DB := Lib.hid (DB.out.below k)
  have B := Lib.hid (bstep B.out k)
  clear k
  go_wp2_with (refine ld16 RB.out rfl (by rfl) (by rfl) (by rfl) ?_; intro K hK; go_simp)
  refine (lets_to wkR _ _ _ _ _ _ _ _ _ 0 0 _ _ (HA.out.stays B.out) (by decide) (by decide) (wkR_lis DB.out) wkR_small wkR_nth (by decide) (by decide) (by decide) (by decide) (Lib.hid wkR_lets.2.1)).mono ?_
  rintro e w5 ⟨rfl, k⟩
  have RB := Lib.hid (RB.out.below k)
  have DB := Lib.hid (DB.out.below k)
  have B := Lib.hid (bstep B.out k)
  clear k
  go_wp2_with (refine ld16 RB.out rfl (by rfl) (by rfl) (by rfl) ?_; intro K hK; go_simp)
  refine (lets_to wkR _ _ _ _ _ _ _ _ _ 0 86401 _ _ (HA.out.stays B.out) (by decide) (by decide) (wkR_lis DB.out) wkR_small wkR_nth (by decide) (by decide) (by decide) (by decide) (Lib.hid wkR_lets.2.2)).mono ?_
  rintro e w6 ⟨rfl, k⟩
  go_wp2
  go_ret
  exact ⟨ret_b rfl, bstep B.out k⟩
end Fil
end Go.Proofs.YtpcmfgfhdnfmcaaDoor
