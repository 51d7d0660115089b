/-
  RecurBent: the law. (Written by gen/gen_rbt.py.)
-/
import Derived.Test.YtbeefhmnoihmcaaGreatDoorRbtB
import Derived.Test.YtbeefhmnoihmcaaGreatDoorRcbO
namespace Go.Proofs.YtbeefhmnoihmcaaGreatDoor
open Go.RowKit
namespace Rbt
open Cel
open Ap (RowI Grew)
open Rcp (RowD dvL)
open Rct
open Twn (TwR)
open Rcv (CV IntV DayV LisV aggR)
open Rck (ckE ckB frB eiB dyB lsB gtB endB frB_iff dyB_iff Small)
theorem hv_le (p6 p7 p8 p9 p10 p11 p12 p13 p14 : Value) (x : CV) (w : World) (h : LisV w x p6 p7 p8 p9 p10 p11 p12 p13 p14) : Calls Tryz.prog 5 #[.agg #[.int .i64 x.fq, .int .i64 x.iv, .int .i64 x.ct, .bool x.un, .int .i64 x.ua, .bool x.ut, p6, p7, p8, p9, p10, p11, p12, p13, p14, .int .i64 x.wk]] w fun e w' => ∃ b : Bool, e = .returned (.bool b) ∧ Hid (b = false → Len1 x) ∧ Below w.heap.size w w' := by
  obtain ⟨a6, c6, rfl⟩ := h.h6.slice
  obtain ⟨a7, c7, rfl⟩ := h.h7.slice
  obtain ⟨a8, c8, rfl⟩ := h.h8.slice
  obtain ⟨a9, c9, rfl⟩ := h.h9.slice
  obtain ⟨a10, c10, rfl⟩ := h.h10.slice
  obtain ⟨a11, c11, rfl⟩ := h.h11.slice
  obtain ⟨a12, c12, rfl⟩ := h.h12.slice
  obtain ⟨a13, c13, rfl⟩ := h.h13.slice
  obtain ⟨a14, c14, rfl⟩ := h.h14.slice
  exact (hv_go x a6 a7 a8 a9 a10 a11 a12 a13 a14 x.sc.length x.mi.length x.hr.length x.dy.length x.md.length x.yd.length x.wn.length x.mo.length x.sp.length c6 c7 c8 c9 c10 c11 c12 c13 c14 _ w (Lib.hid rfl)).mono fun e w' ⟨he, hb⟩ => ⟨_, he, Lib.hid (fun q => by
    have q := of_decide_eq_false q
    exact ⟨by omega, by omega, by omega, by omega, by omega, by omega, by omega, by omega, by omega⟩), hb⟩
theorem ten {a b : Int} (h : a.tmod 10 = b) (h0 : 0 ≤ a) : b = 0 ∨ b = 1 ∨ b = 2 ∨ b = 3 ∨ b = 4 ∨ b = 5 ∨ b = 6 ∨ b = 7 ∨ b = 8 ∨ b = 9 := by
  have := Int.tmod_nonneg 10 h0
  have := Int.tmod_lt_of_pos a (show (0 : Int) < 10 by decide)
  omega
theorem wrap_ge (n : Int) : 0 ≤ IntKind.u64.wrap n := by
  show 0 ≤ n % (2 ^ 64)
  exact Int.emod_nonneg _ (by decide)
theorem rws_of {m n0 n1 n2 n3 n4 n5 n6 n7 n8 n9 : Nat} {w : World} {u : CV} {s6 s7 s8 s9 s10 s11 s12 s13 s14 : Value} (l : m < n0 ∧ n0 ≤ n1 ∧ n1 ≤ n2 ∧ n2 ≤ n3 ∧ n3 ≤ n4 ∧ n4 ≤ n5 ∧ n5 ≤ n6 ∧ n6 ≤ n7 ∧ n7 ≤ n8 ∧ n8 ≤ n9) (h9 : n9 ≤ w.heap.size)
    (q6 : TwR n0 n1 w s6 u.sc) (q7 : TwR n1 n2 w s7 u.mi) (q8 : TwR n2 n3 w s8 u.hr) (q10 : TwR n3 n4 w s10 u.md) (q11 : TwR n4 n5 w s11 u.yd) (q12 : TwR n5 n6 w s12 u.wn) (q13 : TwR n6 n7 w s13 u.mo) (q14 : TwR n7 n8 w s14 u.sp) (q9 : RowD n8 w s9 u.dy) : Rws m w.heap.size w u s6 s7 s8 s9 s10 s11 s12 s13 s14 n0 n1 n2 n3 n4 n5 n6 n7 n8 :=
  ⟨⟨l.1, l.2.1, l.2.2.1, l.2.2.2.1, l.2.2.2.2.1, l.2.2.2.2.2.1, l.2.2.2.2.2.2.1, l.2.2.2.2.2.2.2.1, l.2.2.2.2.2.2.2.2.1, by have := l.2.2.2.2.2.2.2.2.2; omega⟩, q6, q7, q8, q10, q11, q12, q13, q14, ⟨q9, fun g hg => (World.ownsRow.lt q9 g hg).2⟩⟩
set_option maxHeartbeats 25600000 in
set_option maxRecDepth 100000 in
theorem bent_any (how : Int) (x : CV) (p6 p7 p8 p9 p10 p11 p12 p13 p14 : Value) (w : World) (hT : Tabs w) (hla : LisV w x p6 p7 p8 p9 p10 p11 p12 p13 p14) (ub1 : -9223372036854775808 ≤ x.ua) (ub2 : x.ua ≤ 9223372036854775807) :
    Calls Tryz.prog 3 #[.agg #[.int .i64 x.fq, .int .i64 x.iv, .int .i64 x.ct, .bool x.un, .int .i64 x.ua, .bool x.ut, p6, p7, p8, p9, p10, p11, p12, p13, p14, .int .i64 x.wk], .int .i64 how] w fun e w' => e = .returned (.bool true) ∧ Below w.heap.size w w' := by
  have TT := Lib.hid hT
  have L0 := Lib.hid hla
  have UR := Lib.hid (And.intro ub1 ub2)
  clear hT hla ub1 ub2
  go_enter Tryz.func3, Tryz.ntmps3
  go_upto_region 0 with fail
  go_cut [2] (fun p wz => p = .pointer (some ⟨w.heap.size, 0, none⟩) ∧ Hid (Cs w.heap.size wz [.int .i64 x.fq, .int .i64 x.iv, .int .i64 x.ct, .bool x.un, .int .i64 x.ua, .bool x.ut, p6, p7, p8, p9, p10, p11, p12, p13, p14, .int .i64 x.wk]) ∧ Hid (Below w.heap.size w wz))
  case first =>
    go_wp2
    go_meet
    exact ⟨rfl, Lib.hid (Cs.new w _ _), Lib.hid ((Below.refl _ _).alloc (Nat.le_refl _) _)⟩
  case rest =>
  obtain ⟨w1, rfl⟩ : ∃ x : World, x = wc := ⟨_, rfl⟩
  obtain ⟨rfl, C, B⟩ := hcut
  have L := Lib.hid (L0.out.below B.out)
  go_wp2_with (refine kn_load C.out rfl (by rfl) (by rfl) (by rfl) ?_; intro K hK; go_simp)
  refine (hv_le p6 p7 p8 p9 p10 p11 p12 p13 p14 x _ L.out).mono ?_
  rintro e w2 ⟨r, rfl, hr, k⟩
  have C := Lib.hid (C.out.below k)
  have L := Lib.hid (L.out.below k)
  have B := Lib.hid (bstep B.out k)
  clear k
  cases r with
  | true =>
    go_wp2
    go_ret
    exact ⟨rfl, B.out⟩
  | false =>
  have A1 := Lib.hid (hr.out rfl)
  clear hr
  obtain ⟨b, hb⟩ : ∃ b, ckB x = b := ⟨_, rfl⟩
  have HB := Lib.hid hb
  clear hb
  go_wp2_with (refine kn_load C.out rfl (by rfl) (by rfl) (by rfl) ?_; intro K hK; go_simp)
  refine (Rrl.rrec_to p6 p7 p8 p9 p10 p11 p12 p13 p14 x b _ UR.out.1 UR.out.2 L.out HB).mono ?_
  rintro e w3 ⟨rfl, k⟩
  have C := Lib.hid (C.out.below k)
  have L := Lib.hid (L.out.below k)
  have B := Lib.hid (bstep B.out k)
  clear k
  cases b with
  | false =>
    go_wp2
    go_ret
    exact ⟨rfl, B.out⟩
  | true =>
  have KR : Hid (ckE x = 0) := Lib.hid (by rw [ckE, if_pos HB.out])
  have AR : Hid (Len3 x) := Lib.hid (by obtain ⟨a1, a2, a3, a4, a5, a6, a7, a8, a9⟩ := A1.out; exact ⟨by omega, by omega, by omega, by omega, by omega, by omega, by omega, by omega, by omega⟩)
  go_upto_region 3 with fail
  go_cut [5] (fun p wz => ∃ gx, p = .pointer (some ⟨gx, 0, none⟩) ∧ Hid (∃ s6 s7 s8 s9 s10 s11 s12 s13 s14 : Value, ∃ m n9 n0 n1 n2 n3 n4 n5 n6 n7 n8 : Nat, Cs gx wz [.int .i64 x.fq, .int .i64 x.iv, .int .i64 x.ct, .bool x.un, .int .i64 x.ua, .bool x.ut, s6, s7, s8, s9, s10, s11, s12, s13, s14, .int .i64 x.wk] ∧ Rws m n9 wz x s6 s7 s8 s9 s10 s11 s12 s13 s14 n0 n1 n2 n3 n4 n5 n6 n7 n8 ∧ w.heap.size ≤ m ∧ n9 ≤ gx) ∧ Hid (Cs w.heap.size wz [.int .i64 x.fq, .int .i64 x.iv, .int .i64 x.ct, .bool x.un, .int .i64 x.ua, .bool x.ut, p6, p7, p8, p9, p10, p11, p12, p13, p14, .int .i64 x.wk]) ∧ Hid (Below w.heap.size w wz))
  case first =>
    go_wp2_with (refine kn_load C.out rfl (by rfl) (by rfl) (by rfl) ?_; intro K hK; go_simp)
    obtain ⟨a6, c6, rfl⟩ := L0.out.h6.slice
    obtain ⟨a7, c7, rfl⟩ := L0.out.h7.slice
    obtain ⟨a8, c8, rfl⟩ := L0.out.h8.slice
    obtain ⟨a9, c9, rfl⟩ := L0.out.h9.slice
    obtain ⟨a10, c10, rfl⟩ := L0.out.h10.slice
    obtain ⟨a11, c11, rfl⟩ := L0.out.h11.slice
    obtain ⟨a12, c12, rfl⟩ := L0.out.h12.slice
    obtain ⟨a13, c13, rfl⟩ := L0.out.h13.slice
    obtain ⟨a14, c14, rfl⟩ := L0.out.h14.slice
    refine (Twn.twin_go x a6 a7 a8 a9 a10 a11 a12 a13 a14 c6 c7 c8 c9 c10 c11 c12 c13 c14 _ L.out AR.out).mono ?_
    rintro e w4 ⟨s6, s7, s8, s9, s10, s11, s12, s13, s14, rfl, ⟨m, n0, n1, n2, n3, n4, n5, n6, n7, n8, n9, l0, l1, l2, l3, l4, l5, l6, l7, l8, l9, l10, l11, q6, q7, q8, q10, q11, q12, q13, q14, q9⟩, k⟩
    have RW : Hid (Rws m w4.heap.size w4 x s6 s7 s8 s9 s10 s11 s12 s13 s14 n0 n1 n2 n3 n4 n5 n6 n7 n8) := Lib.hid (rws_of ⟨l1, l2, l3, l4, l5, l6, l7, l8, l9, l10⟩ l11 q6 q7 q8 q10 q11 q12 q13 q14 q9)
    have lm : w.heap.size ≤ m := Nat.le_trans B.out.size l0
    clear l0 l1 l2 l3 l4 l5 l6 l7 l8 l9 l10 l11 q6 q7 q8 q10 q11 q12 q13 q14 q9
    have C := Lib.hid (C.out.below k)
    have B := Lib.hid (bstep B.out k)
    clear k
    obtain ⟨z6, y6, rfl⟩ := Ap.RowI.forms (show RowI n0 w4 s6 x.sc from RW.out.h6.1)
    obtain ⟨z7, y7, rfl⟩ := Ap.RowI.forms (show RowI n1 w4 s7 x.mi from RW.out.h7.1)
    obtain ⟨z8, y8, rfl⟩ := Ap.RowI.forms (show RowI n2 w4 s8 x.hr from RW.out.h8.1)
    obtain ⟨z9, y9, rfl⟩ := Twn.rowd_forms (show RowD n8 w4 s9 x.dy from RW.out.h9.1)
    obtain ⟨z10, y10, rfl⟩ := Ap.RowI.forms (show RowI n3 w4 s10 x.md from RW.out.h10.1)
    obtain ⟨z11, y11, rfl⟩ := Ap.RowI.forms (show RowI n4 w4 s11 x.yd from RW.out.h11.1)
    obtain ⟨z12, y12, rfl⟩ := Ap.RowI.forms (show RowI n5 w4 s12 x.wn from RW.out.h12.1)
    obtain ⟨z13, y13, rfl⟩ := Ap.RowI.forms (show RowI n6 w4 s13 x.mo from RW.out.h13.1)
    obtain ⟨z14, y14, rfl⟩ := Ap.RowI.forms (show RowI n7 w4 s14 x.sp from RW.out.h14.1)
    go_wp2_with (refine kn_store (us := [.int .i64 x.fq, .int .i64 x.iv, .int .i64 x.ct, .bool x.un, .int .i64 x.ua, .bool x.ut, .slice z6 x.sc.length y6, .slice z7 x.mi.length y7, .slice z8 x.hr.length y8, .slice z9 x.dy.length y9, .slice z10 x.md.length y10, .slice z11 x.yd.length y11, .slice z12 x.wn.length y12, .slice z13 x.mo.length y13, .slice z14 x.sp.length y14, .int .i64 x.wk]) (Cs.new w4 [.int .i64 0, .int .i64 0, .int .i64 0, .bool false, .int .i64 0, .bool false, (.slice none 0 0), (.slice none 0 0), (.slice none 0 0), (.slice none 0 0), (.slice none 0 0), (.slice none 0 0), (.slice none 0 0), (.slice none 0 0), (.slice none 0 0), .int .i64 0] _) (by rfl) rfl (all_oneCell_toArray (by intro v hv; simp only [List.mem_cons, List.not_mem_nil, or_false] at hv; rcases hv with rfl | rfl | rfl | rfl | rfl | rfl | rfl | rfl | rfl | rfl | rfl | rfl | rfl | rfl | rfl | rfl <;> rfl)) (by rfl) (by rfl) (by rfl) (by rfl) ?_; intro K hK; go_simp)
    go_meet
    exact ⟨_, rfl, Lib.hid ⟨_, _, _, _, _, _, _, _, _, _, _, _, _, _, _, _, _, _, _, _, (Cs.new w4 [.int .i64 0, .int .i64 0, .int .i64 0, .bool false, .int .i64 0, .bool false, (.slice none 0 0), (.slice none 0 0), (.slice none 0 0), (.slice none 0 0), (.slice none 0 0), (.slice none 0 0), (.slice none 0 0), (.slice none 0 0), (.slice none 0 0), .int .i64 0] _).row _ (by rfl), rws_cells (Nat.le_refl _) _ _ _ (RW.out.below ((Below.refl _ _).alloc (Nat.le_refl _) _)), lm, Nat.le_refl _⟩, Lib.hid (cs_cells (by have := C.out.1; omega) _ _ _ (C.out.alloc _)), Lib.hid (below_setCells (by have := B.out.size; omega) _ _ _ (B.out.alloc B.out.size _))⟩
  case rest =>
  obtain ⟨w5, rfl⟩ : ∃ x : World, x = wc := ⟨_, rfl⟩
  clear C B
  obtain ⟨gx, rfl, hx, C, B⟩ := hcut
  obtain ⟨s6, s7, s8, s9, s10, s11, s12, s13, s14, m, n9, n0, n1, n2, n3, n4, n5, n6, n7, n8, hcx, hrw, hm, hgx⟩ := hx.out
  have CX := Lib.hid hcx
  have RW := Lib.hid hrw
  clear hx hcx hrw
  obtain ⟨k, hk⟩ : ∃ k, (IntKind.u64.wrap how).tmod 10 = k := ⟨_, rfl⟩
  have HW := Lib.hid hk
  have ht := ten hk (wrap_ge how)
  clear hk L HB
  rename_i K4 hK4
  rcases ht with rfl | rfl | rfl | rfl | rfl | rfl | rfl | rfl | rfl | rfl
  · exact hK4 _ _ (bc0 how HW x p6 p7 p8 p9 p10 p11 p12 p13 p14 _ gx w w5 TT UR KR AR L0 C B m n9 n0 n1 n2 n3 n4 n5 n6 n7 n8 s6 s7 s8 s9 s10 s11 s12 s13 s14 CX RW ⟨hm, hm, hgx⟩ _ _ _ _ _ _ _ _ _ _ _ _ _ _ _ _ _ _ _ _ _ _ _ _ _ _ _ _ _ _ _ _ _ _ _ _ _ _ _ _ _ _ _ _ _ _ _ _ _ _ _ _ _ _ _ _ _ _ _ _ _ _ _ _ _ _ _ _ _ _ _ _ _ _ _ _ _ _ _ _ _ _ _ _ _ _ _ _ _ _ _ _ _ _ _)
  · exact hK4 _ _ (bc1 how HW x p6 p7 p8 p9 p10 p11 p12 p13 p14 _ gx w w5 TT UR KR AR L0 C B m n9 n0 n1 n2 n3 n4 n5 n6 n7 n8 s6 s7 s8 s9 s10 s11 s12 s13 s14 CX RW ⟨hm, hm, hgx⟩ _ _ _ _ _ _ _ _ _ _ _ _ _ _ _ _ _ _ _ _ _ _ _ _ _ _ _ _ _ _ _ _ _ _ _ _ _ _ _ _ _ _ _ _ _ _ _ _ _ _ _ _ _ _ _ _ _ _ _ _ _ _ _ _ _ _ _ _ _ _ _ _ _ _ _ _ _ _ _ _ _ _ _ _ _ _ _ _ _ _ _ _ _ _ _)
  · exact hK4 _ _ (bc2 how HW x p6 p7 p8 p9 p10 p11 p12 p13 p14 _ gx w w5 TT UR KR AR L0 C B m n9 n0 n1 n2 n3 n4 n5 n6 n7 n8 s6 s7 s8 s9 s10 s11 s12 s13 s14 CX RW A1 ⟨hm, hm, hgx⟩ _ _ _ _ _ _ _ _ _ _ _ _ _ _ _ _ _ _ _ _ _ _ _ _ _ _ _ _ _ _ _ _ _ _ _ _ _ _ _ _ _ _ _ _ _ _ _ _ _ _ _ _ _ _ _ _ _ _ _ _ _ _ _ _ _ _ _ _ _ _ _ _ _ _ _ _ _ _ _ _ _ _ _ _ _ _ _ _ _ _ _ _ _ _ _)
  · exact hK4 _ _ (bc3 how HW x p6 p7 p8 p9 p10 p11 p12 p13 p14 _ gx w w5 TT UR KR AR L0 C B m n9 n0 n1 n2 n3 n4 n5 n6 n7 n8 s6 s7 s8 s9 s10 s11 s12 s13 s14 CX RW A1 ⟨hm, hm, hgx⟩ _ _ _ _ _ _ _ _ _ _ _ _ _ _ _ _ _ _ _ _ _ _ _ _ _ _ _ _ _ _ _ _ _ _ _ _ _ _ _ _ _ _ _ _ _ _ _ _ _ _ _ _ _ _ _ _ _ _ _ _ _ _ _ _ _ _ _ _ _ _ _ _ _ _ _ _ _ _ _ _ _ _ _ _ _ _ _ _ _ _ _ _ _ _ _)
  · exact hK4 _ _ (bc4 how HW x p6 p7 p8 p9 p10 p11 p12 p13 p14 _ gx w w5 TT UR KR AR L0 C B m n9 n0 n1 n2 n3 n4 n5 n6 n7 n8 s6 s7 s8 s9 s10 s11 s12 s13 s14 CX RW ⟨hm, hm, hgx⟩ _ _ _ _ _ _ _ _ _ _ _ _ _ _ _ _ _ _ _ _ _ _ _ _ _ _ _ _ _ _ _ _ _ _ _ _ _ _ _ _ _ _ _ _ _ _ _ _ _ _ _ _ _ _ _ _ _ _ _ _ _ _ _ _ _ _ _ _ _ _ _ _ _ _ _ _ _ _ _ _ _ _ _ _ _ _ _ _ _ _ _ _ _ _ _)
  · exact hK4 _ _ (bc5 how HW x p6 p7 p8 p9 p10 p11 p12 p13 p14 _ gx w w5 TT UR KR AR L0 C B m n9 n0 n1 n2 n3 n4 n5 n6 n7 n8 s6 s7 s8 s9 s10 s11 s12 s13 s14 CX RW ⟨hm, hm, hgx⟩ _ _ _ _ _ _ _ _ _ _ _ _ _ _ _ _ _ _ _ _ _ _ _ _ _ _ _ _ _ _ _ _ _ _ _ _ _ _ _ _ _ _ _ _ _ _ _ _ _ _ _ _ _ _ _ _ _ _ _ _ _ _ _ _ _ _ _ _ _ _ _ _ _ _ _ _ _ _ _ _ _ _ _ _ _ _ _ _ _ _ _ _ _ _ _)
  · exact hK4 _ _ (bc6 how HW x p6 p7 p8 p9 p10 p11 p12 p13 p14 _ gx w w5 TT UR KR AR L0 C B m n9 n0 n1 n2 n3 n4 n5 n6 n7 n8 s6 s7 s8 s9 s10 s11 s12 s13 s14 CX RW A1 ⟨hm, hm, hgx⟩ _ _ _ _ _ _ _ _ _ _ _ _ _ _ _ _ _ _ _ _ _ _ _ _ _ _ _ _ _ _ _ _ _ _ _ _ _ _ _ _ _ _ _ _ _ _ _ _ _ _ _ _ _ _ _ _ _ _ _ _ _ _ _ _ _ _ _ _ _ _ _ _ _ _ _ _ _ _ _ _ _ _ _ _ _ _ _ _ _ _ _ _ _ _ _)
  · exact hK4 _ _ (bc7 how HW x p6 p7 p8 p9 p10 p11 p12 p13 p14 _ gx w w5 TT UR KR AR L0 C B m n9 n0 n1 n2 n3 n4 n5 n6 n7 n8 s6 s7 s8 s9 s10 s11 s12 s13 s14 CX RW A1 ⟨hm, hm, hgx⟩ _ _ _ _ _ _ _ _ _ _ _ _ _ _ _ _ _ _ _ _ _ _ _ _ _ _ _ _ _ _ _ _ _ _ _ _ _ _ _ _ _ _ _ _ _ _ _ _ _ _ _ _ _ _ _ _ _ _ _ _ _ _ _ _ _ _ _ _ _ _ _ _ _ _ _ _ _ _ _ _ _ _ _ _ _ _ _ _ _ _ _ _ _ _ _)
  · exact hK4 _ _ (bc8 how HW x p6 p7 p8 p9 p10 p11 p12 p13 p14 _ gx w w5 TT UR KR AR L0 C B m n9 n0 n1 n2 n3 n4 n5 n6 n7 n8 s6 s7 s8 s9 s10 s11 s12 s13 s14 CX RW ⟨hm, hm, hgx⟩ _ _ _ _ _ _ _ _ _ _ _ _ _ _ _ _ _ _ _ _ _ _ _ _ _ _ _ _ _ _ _ _ _ _ _ _ _ _ _ _ _ _ _ _ _ _ _ _ _ _ _ _ _ _ _ _ _ _ _ _ _ _ _ _ _ _ _ _ _ _ _ _ _ _ _ _ _ _ _ _ _ _ _ _ _ _ _ _ _ _ _ _ _ _ _)
  · exact hK4 _ _ (bc9 how HW x p6 p7 p8 p9 p10 p11 p12 p13 p14 _ gx w w5 TT UR KR AR L0 C B m n9 n0 n1 n2 n3 n4 n5 n6 n7 n8 s6 s7 s8 s9 s10 s11 s12 s13 s14 CX RW ⟨hm, hm, hgx⟩ _ _ _ _ _ _ _ _ _ _ _ _ _ _ _ _ _ _ _ _ _ _ _ _ _ _ _ _ _ _ _ _ _ _ _ _ _ _ _ _ _ _ _ _ _ _ _ _ _ _ _ _ _ _ _ _ _ _ _ _ _ _ _ _ _ _ _ _ _ _ _ _ _ _ _ _ _ _ _ _ _ _ _ _ _ _ _ _ _ _ _ _ _ _ _)
end Rbt
end Go.Proofs.YtbeefhmnoihmcaaGreatDoor
