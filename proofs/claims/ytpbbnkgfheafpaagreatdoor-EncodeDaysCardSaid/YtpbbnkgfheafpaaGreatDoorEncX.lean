/-
  encode.On, its whole answer. (Written by gen/gen_encx.py.)
-/
import Derived.Test.YtpbbnkgfheafpaaGreatDoorEncXB
namespace Go.Proofs.YtpbbnkgfheafpaaGreatDoor
open Go.RowKit
namespace Enc
open Wk Cel
open Rcv (CV RecV LisV IntV DayV aggR)
open Ap (RowI Grew)
set_option maxHeartbeats 25600000 in
set_option maxRecDepth 100000 in
theorem eon_to (month k v d m : Int) (x : CV) (c : Int) (w : World) (hmo : 1 ≤ month ∧ month ≤ 12) (ho : onOk k v d = true) (m1 : -9223372036854775808 ≤ m) (m2 : m ≤ 9223372036854775807) (h : Hid (enO month k v d m = (x, c))) :
    Calls Tryz.prog 5 #[.int .i64 month, .agg #[.int .i64 k, .int .i64 v, .int .i64 d], .int .i64 m] w (EonQ x c w) := by
  have HC := Lib.hid (chE_yes ho)
  obtain ⟨hv, hk, hd⟩ := onOk_v ho
  obtain ⟨mo1, mo2⟩ := hmo
  obtain ⟨L, hL⟩ : ∃ L, Cal.mlen 2001 month = L := ⟨_, rfl⟩
  have lb := Cal.mlen_bd 2001 month
  rw [hL] at lb
  have HLL := Lib.hid hL
  have hh := h.out
  rw [enO] at hh
  unfold enR at hh
  rw [hL] at hh
  have HH := Lib.hid hh
  clear hh h hL ho
  have hgR : w.heap.size ≤ w.heap.size + 1 := by omega
  have K1 := Lib.hid (Cs.new w [.int .i64 k, .int .i64 v, .int .i64 d] 24)
  have k0 : Cs (w.heap.size + 1) ((w.alloc (Obj.cells #[.int .i64 k, .int .i64 v, .int .i64 d] 24)).alloc (Obj.cells #[.int .i64 0, .int .i64 0, .int .i64 0, .bool false, .int .i64 0, .bool false, .slice none 0 0, .slice none 0 0, .slice none 0 0, .slice none 0 0, .slice none 0 0, .slice none 0 0, .slice none 0 0, .slice none 0 0, .slice none 0 0, .int .i64 0] 29)) [.int .i64 0, .int .i64 0, .int .i64 0, .bool false, .int .i64 0, .bool false, .slice none 0 0, .slice none 0 0, .slice none 0 0, .slice none 0 0, .slice none 0 0, .slice none 0 0, .slice none 0 0, .slice none 0 0, .slice none 0 0, .int .i64 0] := by
    have := Cs.new (w.alloc (Obj.cells #[.int .i64 k, .int .i64 v, .int .i64 d] 24)) [.int .i64 0, .int .i64 0, .int .i64 0, .bool false, .int .i64 0, .bool false, .slice none 0 0, .slice none 0 0, .slice none 0 0, .slice none 0 0, .slice none 0 0, .slice none 0 0, .slice none 0 0, .slice none 0 0, .slice none 0 0, .int .i64 0] 29
    rwa [show (w.alloc (Obj.cells #[.int .i64 k, .int .i64 v, .int .i64 d] 24)).heap.size = w.heap.size + 1 by simp] at this
  have K0 := Lib.hid k0
  clear k0
  go_enter Tryz.func5, Tryz.ntmps5
  go_wp2_with fail
  refine (chk_b k v d 0 _ HC).mono ?_
  rintro e w1 ⟨rfl, b1⟩
  have O1 := Lib.hid ((K1.out.alloc _).below b1)
  have R1 := Lib.hid (K0.out.below b1)
  have B1 : Hid (Below w.heap.size w w1) := Lib.hid (bstep (((Below.refl w.heap.size w).alloc (Nat.le_refl _) _).alloc (by simp) _) b1)
  clear K0 K1 b1
  by_cases e1 : m < -40
  · have HF := Lib.hid (show (CV.zero, (17 : Int)) = (x, c) from by
      have q := HH.out
      by_cases e2 : k = 2
      · rw [if_pos e2, if_neg (by omega)] at q; exact q
      · rw [if_neg e2, if_pos (Or.inl e1)] at q; exact q)
    clear HH
--<x
    obtain ⟨⟨s0, s1, s2, s3, s4, s5, s6, s7, s8, s9, s10, s11, s12, s13, s14, s15⟩, y0, y1, y2, y3, y4, y5, y6, y7, y8, y9, y10, y11, y12, y13, y14, y15⟩ := cells16 R1.out
    go_wp2
    refine bodyPost_ret (v := .tuple #[.agg #[.int .i64 0, .int .i64 0, .int .i64 0, .bool false, .int .i64 0, .bool false, .slice none 0 0, .slice none 0 0, .slice none 0 0, .slice none 0 0, .slice none 0 0, .slice none 0 0, .slice none 0 0, .slice none 0 0, .slice none 0 0, .int .i64 0], .int .i64 17]) (res_by (set16 R1.out _ _ _ _ _ _ _ _ _ _ _ _ _ _ _ _) (fun W h => by obtain ⟨⟨t0, t1, t2, t3, t4, t5, t6, t7, t8, t9, t10, t11, t12, t13, t14, t15⟩, _⟩ := cells16 h; simp [results, Tryz.results5, go_sem, t0, t1, t2, t3, t4, t5, t6, t7, t8, t9, t10, t11, t12, t13, t14, t15])) rfl ?_
    obtain ⟨rfl, rfl⟩ := Prod.mk.inj HF.out
    exact eon_no rfl rfl (below16 hgR B1.out _ _ _ _ _ _ _ _ _ _ _ _ _ _ _ _)
--x>
  by_cases e1' : 40 < m
  · have HF := Lib.hid (show (CV.zero, (17 : Int)) = (x, c) from by
      have q := HH.out
      by_cases e2 : k = 2
      · rw [if_pos e2, if_neg (by omega)] at q; exact q
      · rw [if_neg e2, if_pos (Or.inr e1')] at q; exact q)
    clear HH
--<x
    obtain ⟨⟨s0, s1, s2, s3, s4, s5, s6, s7, s8, s9, s10, s11, s12, s13, s14, s15⟩, y0, y1, y2, y3, y4, y5, y6, y7, y8, y9, y10, y11, y12, y13, y14, y15⟩ := cells16 R1.out
    go_wp2
    refine bodyPost_ret (v := .tuple #[.agg #[.int .i64 0, .int .i64 0, .int .i64 0, .bool false, .int .i64 0, .bool false, .slice none 0 0, .slice none 0 0, .slice none 0 0, .slice none 0 0, .slice none 0 0, .slice none 0 0, .slice none 0 0, .slice none 0 0, .slice none 0 0, .int .i64 0], .int .i64 17]) (res_by (set16 R1.out _ _ _ _ _ _ _ _ _ _ _ _ _ _ _ _) (fun W h => by obtain ⟨⟨t0, t1, t2, t3, t4, t5, t6, t7, t8, t9, t10, t11, t12, t13, t14, t15⟩, _⟩ := cells16 h; simp [results, Tryz.results5, go_sem, t0, t1, t2, t3, t4, t5, t6, t7, t8, t9, t10, t11, t12, t13, t14, t15])) rfl ?_
    obtain ⟨rfl, rfl⟩ := Prod.mk.inj HF.out
    exact eon_no rfl rfl (below16 hgR B1.out _ _ _ _ _ _ _ _ _ _ _ _ _ _ _ _)
--x>
  have hO1 := O1.out.1
  have hR1 := R1.out.1
  go_upto_region 8 with fail
  go_cut [9] (fun p w2 => EnB w1.heap.size w2 p month ∧ Hid (Cs w.heap.size w2 [.int .i64 k, .int .i64 v, .int .i64 d]) ∧ Hid (Cs (w.heap.size + 1) w2 [.int .i64 0, .int .i64 0, .int .i64 0, .bool false, .int .i64 0, .bool false, .slice none 0 0, .slice none 0 0, .slice none 0 0, .slice none 0 0, .slice none 0 0, .slice none 0 0, .slice none 0 0, .slice none 0 0, .slice none 0 0, .int .i64 0]) ∧ Hid (Below w.heap.size w w2))
  case first =>
    go_wp2
    go_meet
    exact ⟨EnB.new w1 month _ _, Lib.hid ((O1.out.alloc _).alloc _), Lib.hid ((R1.out.alloc _).alloc _), Lib.hid ((B1.out.alloc B1.out.size _).alloc (by have := B1.out.size; simp; omega) _)⟩
  case rest =>
  obtain ⟨w2, rfl⟩ : ∃ x : World, x = wc := ⟨_, rfl⟩
  obtain ⟨⟨gm, gr, rfl, gm1, gr1, gmr, hcm, hcr⟩, O2, R2, B2⟩ := hcut
  have M2 := Lib.hid hcm
  have A2 := Lib.hid hcr
  have d1 : gr ≠ w.heap.size := by omega
  have d2 : gr ≠ w.heap.size + 1 := by omega
  have d3 : gr ≠ gm := fun q => gmr q.symm
  have d4 : w.heap.size + 1 ≠ gm := by omega
  have gw : w.heap.size ≤ gr := by omega
  clear hcm hcr O1 R1 B1 hO1 hR1 gm1 gr1
  rename_i hK
  by_cases ek : k = 2
  case pos =>
    subst ek
    exact hK _ _ (eonA month v d m x c w w2 gm gr hgR d2 d3 d4 gw d1 (Lib.hid (by have q := HH.out; rw [if_pos rfl] at q; exact q)) O2 R2 M2 A2 B2 _ _ _ _ _ _ _ _ _ _ _ _ _ _ _ _ _ _ _ _ _ _ _ _ _ _ _ _ _ _ _ _ _ _ _ _ _ _ _ _ _ _ _ _ _ _ _ _ _ _ _ _ _ _ _ _ _ _ _ _ _ _ _ _ _ _ _ _ _ _ _ _ _ _ _ _ _ _ _ _ _ _ _ _ _ _ _ _ _ _ _ _ _ _ _ _ _ _ _ _ _ _ _ _ _ _ _ _ _)
  exact hK _ _ (eonB month k v d m L x c w w2 gm gr hgR d2 d3 d4 gw d1 hv hk hd lb (by omega) (by omega) ek mo1 mo2 HLL (Lib.hid (by have q := HH.out; rw [if_neg ek, if_neg (by omega)] at q; exact q)) O2 R2 M2 A2 B2 _ _ _ _ _ _ _ _ _ _ _ _ _ _ _ _ _ _ _ _ _ _ _ _ _ _ _ _ _ _ _ _ _ _ _ _ _ _ _ _ _ _ _ _ _ _ _ _ _ _ _ _ _ _ _ _ _ _ _ _ _ _ _ _ _ _ _ _ _ _ _ _ _ _ _ _ _ _ _ _ _ _ _ _ _ _ _ _ _ _ _ _ _ _ _ _ _ _ _ _ _ _ _ _ _ _ _ _ _)
end Enc
end Go.Proofs.YtpbbnkgfheafpaaGreatDoor
