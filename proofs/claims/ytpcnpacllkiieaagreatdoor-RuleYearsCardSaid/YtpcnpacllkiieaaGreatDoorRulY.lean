/-
  RuleYears: a rule's years: a number, minimum, maximum, only; what is none of these is told.
-/
import Derived.Test.YtpcnpacllkiieaaGreatDoorRulW
import Derived.Test.YtpcnpacllkiieaaGreatDoorRefNum3
namespace Go.Proofs.YtpcnpacllkiieaaGreatDoor
open Go.RowKit
namespace Rul
open Sol Clk Cel
open Opn (TxtV)
theorem rtx_to (n d : Int) (T : List UInt8) (w : World) (n1 : -9223372036854775808 ≤ n) (n2 : n ≤ 9223372036854775807) (d1 : -9223372036854775808 ≤ d) (d2 : d ≤ 9223372036854775807) (h : Hid (textL n d = T)) :
    Calls Tryz.prog 28 #[.int .i64 n, .int .i64 d] w fun e w' => e = .returned (.string ⟨T.toArray⟩) ∧ Below w.heap.size w w' :=
  (RNum.rtext_any n d w n1 n2 d1 d2).mono fun _ _ ⟨he, hw⟩ => ⟨by rw [he, h.out], hw⟩
theorem txt10 (x0 x1 x2 x3 x4 x5 x6 x7 x8 x9 : List UInt8) (t : TypeId) (w : World) :
    TxtV (w.alloc (Obj.cells #[.string ⟨x0.toArray⟩, .string ⟨x1.toArray⟩, .string ⟨x2.toArray⟩, .string ⟨x3.toArray⟩, .string ⟨x4.toArray⟩, .string ⟨x5.toArray⟩, .string ⟨x6.toArray⟩, .string ⟨x7.toArray⟩, .string ⟨x8.toArray⟩, .string ⟨x9.toArray⟩] t)) (.slice (some ⟨w.heap.size, 0, none⟩) 10 10) [x0, x1, x2, x3, x4, x5, x6, x7, x8, x9] := by
  refine ⟨_, _, _, rfl, rfl, fun j hj => ⟨w.heap.size, 0, rfl, by simp, ?_⟩⟩
  rw [Nat.zero_add, World.cell?_alloc_at _ _ _ _ rfl]
  have e : (#[.string ⟨x0.toArray⟩, .string ⟨x1.toArray⟩, .string ⟨x2.toArray⟩, .string ⟨x3.toArray⟩, .string ⟨x4.toArray⟩, .string ⟨x5.toArray⟩, .string ⟨x6.toArray⟩, .string ⟨x7.toArray⟩, .string ⟨x8.toArray⟩, .string ⟨x9.toArray⟩] : Array Value) = ([x0, x1, x2, x3, x4, x5, x6, x7, x8, x9].map Opn.sv).toArray := rfl
  rw [e, List.getElem?_toArray, List.getElem?_map, List.getElem?_eq_getElem hj]
  rfl
def yrL (X Y : List UInt8) : List (List UInt8) := [[82], [88], X, Y, [45], [74, 97, 110], [49], [48], [48], [45]]
theorem yr_ok {X Y : List UInt8} {f t : Int} (hX : fromP X = (f, 0)) (hY : toP Y f = (t, 0)) (h1 : 1 ≤ f) (h2 : f ≤ t) (h3 : t ≤ 9999) : ruP (yrL X Y) = (0, ⟨[88], f, t, 1, 1, 0, 1, 0, 1, 0, []⟩) := by
  have e1 : Wrd.wdP 2 [74, 97, 110] = (1, 0) := by decide +kernel
  have e2 : Onf.onP [49] = (1, 0, 1, 0) := by decide +kernel
  have e3 : Atf.apE [48] = 0 ∧ Atf.apV [48] = 0 ∧ Atf.apKk [48] = 1 := by decide +kernel
  have e4 : clE (svL [48]) = 0 ∧ clV (svL [48]) = 0 := by decide +kernel
  have e : ruX (yrL X Y) = (0, ⟨[88], f, t, 1, 1, 0, 1, 0, 1, 0, []⟩) := by
    rw [yrL, ruX, if_neg (by decide +kernel), if_neg (by decide), hX, if_neg (by simp), hY, if_neg (by simp), e1, if_neg (by simp), e2, if_neg (by simp), e3.1, if_neg (by simp), e4.1, if_neg (by simp), e3.2.1, e3.2.2, e4.2, if_pos rfl]
  have hc : chkB ⟨[88], f, t, 1, 1, 0, 1, 0, 1, 0, []⟩ = true := by
    rw [chkB]
    simp only [Bool.and_eq_true, decide_eq_true_eq]
    exact ⟨by decide +kernel, by decide +kernel, h1, h2, h3, by decide, by decide, by decide +kernel, by rw [fitB]; simp [Cal.mlen], by decide +kernel, by decide, by decide⟩
  rw [ruP, e, if_neg (by simp), if_pos hc]
theorem yr_x {X : List UInt8} (Y : List UInt8) (hX : fromP X = (0, 5)) : ruP (yrL X Y) = (5, RV.zero) := by
  have e : ruX (yrL X Y) = (5, RV.zero) := by
    rw [yrL, ruX, if_neg (by decide +kernel), if_neg (by decide), hX, if_pos (by decide)]
  rw [ruP, e, if_pos (by decide)]
theorem yr_y {X Y : List UInt8} {f : Int} (hX : fromP X = (f, 0)) (hY : toP Y f = (0, 5)) : ruP (yrL X Y) = (5, RV.zero) := by
  have e : ruX (yrL X Y) = (5, RV.zero) := by
    rw [yrL, ruX, if_neg (by decide +kernel), if_neg (by decide), hX, if_neg (by simp), hY, if_pos (by decide)]
  rw [ruP, e, if_pos (by decide)]
theorem to_num {n f : Int} (h0 : 1 ≤ n) (h1 : n ≤ 9999) : toP (textL n 0) f = (n, 0) := by
  obtain ⟨_, _, l1, _⟩ := yr_txt (n := n) (by omega) h1
  rw [toP, wd4_dig l1 (tl_dig n 0), if_neg (by decide), from_txt (by omega) h1]
theorem to_only (f : Int) : toP [111, 110, 108, 121] f = (f, 0) := by rw [toP, if_pos (by decide +kernel)]
theorem to_max (f : Int) : toP [77, 65, 88] f = (9999, 0) := by rw [toP, if_neg (by decide +kernel)]; decide +kernel
theorem to_m (f : Int) : toP [109] f = (0, 5) := by rw [toP, if_neg (by decide +kernel)]; decide +kernel
/-- The six ways. -/
theorem ways (H A TO : Int) (TX TY : List UInt8) (hX : textL A 0 = TX) (hY : textL TO 0 = TY) (a0 : 1 ≤ A) (a1 : A ≤ TO) (a2 : TO ≤ 9999) (h0 : 0 ≤ H) (h6 : H < 6) :
    (H = 0 ∧ Hid (ruP (yrL TX TY) = (0, ⟨[88], A, TO, 1, 1, 0, 1, 0, 1, 0, []⟩))) ∨ (H = 1 ∧ Hid (ruP (yrL TX [111, 110, 108, 121]) = (0, ⟨[88], A, A, 1, 1, 0, 1, 0, 1, 0, []⟩))) ∨
    (H = 2 ∧ Hid (ruP (yrL TX [77, 65, 88]) = (0, ⟨[88], A, 9999, 1, 1, 0, 1, 0, 1, 0, []⟩))) ∨ (H = 3 ∧ Hid (ruP (yrL [109, 105] TY) = (0, ⟨[88], 1, TO, 1, 1, 0, 1, 0, 1, 0, []⟩))) ∨
    (H = 4 ∧ Hid (ruP (yrL [111, 110, 108, 121] TY) = (5, RV.zero))) ∨ (H = 5 ∧ Hid (ruP (yrL TX [109]) = (5, RV.zero))) := by
  have f1 : fromP TX = (A, 0) := by rw [← hX]; exact from_txt (by omega) (by omega)
  have t1 : ∀ f, toP TY f = (TO, 0) := fun f => by rw [← hY]; exact to_num (by omega) a2
  have : H = 0 ∨ H = 1 ∨ H = 2 ∨ H = 3 ∨ H = 4 ∨ H = 5 := by omega
  rcases this with h | h | h | h | h | h
  · exact Or.inl ⟨h, Lib.hid (yr_ok f1 (t1 A) a0 a1 a2)⟩
  · exact Or.inr (Or.inl ⟨h, Lib.hid (yr_ok f1 (to_only A) a0 (Int.le_refl _) (by omega))⟩)
  · exact Or.inr (Or.inr (Or.inl ⟨h, Lib.hid (yr_ok f1 (to_max A) a0 (by omega) (by omega))⟩))
  · exact Or.inr (Or.inr (Or.inr (Or.inl ⟨h, Lib.hid (yr_ok (f := 1) (by decide +kernel) (t1 1) (by omega) (by omega) a2)⟩)))
  · exact Or.inr (Or.inr (Or.inr (Or.inr (Or.inl ⟨h, Lib.hid (yr_x TY (by decide +kernel))⟩))))
  · exact Or.inr (Or.inr (Or.inr (Or.inr (Or.inr ⟨h, Lib.hid (yr_y f1 (to_m A))⟩))))
set_option maxHeartbeats 12800000 in
set_option maxRecDepth 100000 in
theorem ryears_any (a b how : Int) (w : World) (hp : Pow w) (hm : Wrd.MaxL w) :
    Calls Tryz.prog 6 #[.int .i64 a, .int .i64 b, .int .i64 how] w fun e w' => e = .returned (.bool true) ∧ Below w.heap.size w w' := by
  have HP := Lib.hid hp
  have HM := Lib.hid hm
  clear hp hm
  have ua : 0 ≤ IntKind.u64.wrap a := by rw [IntKind.wrap_u64]; omega
  have ub : 0 ≤ IntKind.u64.wrap b := by rw [IntKind.wrap_u64]; omega
  have uh : 0 ≤ IntKind.u64.wrap how := by rw [IntKind.wrap_u64]; omega
  have ra : (IntKind.u64.wrap a).tmod 9999 = IntKind.u64.wrap a % 9999 := Int.tmod_eq_emod_of_nonneg ua
  have rb : (IntKind.u64.wrap b).tmod 100 = IntKind.u64.wrap b % 100 := Int.tmod_eq_emod_of_nonneg ub
  have rh : (IntKind.u64.wrap how).tmod 6 = IntKind.u64.wrap how % 6 := Int.tmod_eq_emod_of_nonneg uh
  have a0 := Int.emod_nonneg (IntKind.u64.wrap a) (show (9999 : Int) ≠ 0 by decide)
  have a1 := Int.emod_lt_of_pos (IntKind.u64.wrap a) (show (0 : Int) < 9999 by decide)
  have b0 := Int.emod_nonneg (IntKind.u64.wrap b) (show (100 : Int) ≠ 0 by decide)
  have b1 := Int.emod_lt_of_pos (IntKind.u64.wrap b) (show (0 : Int) < 100 by decide)
  have h0 := Int.emod_nonneg (IntKind.u64.wrap how) (show (6 : Int) ≠ 0 by decide)
  have h1 := Int.emod_lt_of_pos (IntKind.u64.wrap how) (show (0 : Int) < 6 by decide)
  obtain ⟨A, hA⟩ : ∃ A, IntKind.u64.wrap a % 9999 = A := ⟨_, rfl⟩
  obtain ⟨B, hB⟩ : ∃ B, IntKind.u64.wrap b % 100 = B := ⟨_, rfl⟩
  obtain ⟨H, hH⟩ : ∃ H, IntKind.u64.wrap how % 6 = H := ⟨_, rfl⟩
  rw [hA] at ra a0 a1
  rw [hB] at rb b0 b1
  rw [hH] at rh h0 h1
  obtain ⟨TO, hTO⟩ : ∃ TO, min (1 + A + B) 9999 = TO := ⟨_, rfl⟩
  have t0 : 1 + A ≤ TO := by omega
  have t1 : TO ≤ 9999 := by omega
  obtain ⟨TX, hX⟩ : ∃ T, textL (1 + A) 0 = T := ⟨_, rfl⟩
  obtain ⟨TY, hY⟩ : ∃ T, textL TO 0 = T := ⟨_, rfl⟩
  have lX : TX.length ≤ 4 := by rw [← hX]; exact (yr_txt (by omega) (by omega)).2.2.2
  have lY : TY.length ≤ 4 := by rw [← hY]; exact (yr_txt (by omega) (by omega)).2.2.2
  have HX := Lib.hid hX
  have HY := Lib.hid hY
  have hcs := ways H (1 + A) TO TX TY hX hY (by omega) t0 t1 h0 h1
  have H8 : Hid (∀ X Y : List UInt8, X.length ≤ 4 → Y.length ≤ 4 → ∀ t ∈ yrL X Y, t.length ≤ 1000) := Lib.hid (fun X Y hx hy t ht => by
    simp only [yrL, List.mem_cons, List.mem_nil_iff, or_false] at ht
    rcases ht with rfl | rfl | rfl | rfl | rfl | rfl | rfl | rfl | rfl | rfl <;> first | omega | (simp; done))
  have LX := Lib.hid lX
  have LY := Lib.hid lY
  clear hX hY lX lY ua ub uh
  rcases hcs with ⟨rfl, HR⟩ | ⟨rfl, HR⟩ | ⟨rfl, HR⟩ | ⟨rfl, HR⟩ | ⟨rfl, HR⟩ | ⟨rfl, HR⟩
  · go_enter Tryz.func6, Tryz.ntmps6
    go_wp2_with fail
    refine (rtx_to (1 + A) 0 TX _ (by omega) (by omega) (by omega) (by omega) HX).mono ?_
    rintro e w1 ⟨rfl, b1'⟩
    have B1 := Lib.hid (bstep (show Below w.heap.size w _ from (by repeat (first | with_reducible exact Below.refl _ _ | refine Below.drew ?_ | refine below_drewN ?_ _))) b1')
    clear b1'
    go_wp2_with fail
    refine (rtx_to TO 0 TY _ (by omega) (by omega) (by omega) (by omega) HY).mono ?_
    rintro e w2 ⟨rfl, b2'⟩
    have B2 := Lib.hid (bstep B1.out b2')
    clear b2'
    go_wp2_with fail
    refine (rparse_to _ (yrL TX TY) 0 ⟨[88], 1 + A, TO, 1, 1, 0, 1, 0, 1, 0, []⟩ _ (HM.out.stays (B2.out.alloc B2.out.size _)) (txt10 [82] [88] TX TY [45] [74, 97, 110] [49] [48] [48] [45] _ _) (H8.out _ _ LX.out LY.out) (by simp [yrL]) HR).mono ?_
    rintro e w3 ⟨rfl, b3'⟩
    have B3 := Lib.hid (bstep (B2.out.alloc B2.out.size _) b3')
    clear b3'
    simp only [RV.val]
    go_wp2_with fail
    refine (wakes9_any _ (HP.out.stays (by first | exact B3.out.alloc B3.out.size _ | exact B3.out)) (HM.out.stays (by first | exact B3.out.alloc B3.out.size _ | exact B3.out))).mono ?_
    rintro e w4 ⟨rfl, b4'⟩
    go_wp2
    go_ret
    exact ⟨rfl, by first | exact bstep (B3.out.alloc B3.out.size _) b4' | exact bstep B3.out b4'⟩
  · go_enter Tryz.func6, Tryz.ntmps6
    go_wp2_with fail
    refine (rtx_to (1 + A) 0 TX _ (by omega) (by omega) (by omega) (by omega) HX).mono ?_
    rintro e w1 ⟨rfl, b1'⟩
    have B1 := Lib.hid (bstep (show Below w.heap.size w _ from (by repeat (first | with_reducible exact Below.refl _ _ | refine Below.drew ?_ | refine below_drewN ?_ _))) b1')
    clear b1'
    go_wp2_with fail
    refine (rtx_to TO 0 TY _ (by omega) (by omega) (by omega) (by omega) HY).mono ?_
    rintro e w2 ⟨rfl, b2'⟩
    have B2 := Lib.hid (bstep B1.out b2')
    clear b2'
    go_wp2_with fail
    refine (rparse_to _ (yrL TX [111, 110, 108, 121]) 0 ⟨[88], 1 + A, 1 + A, 1, 1, 0, 1, 0, 1, 0, []⟩ _ (HM.out.stays (B2.out.alloc B2.out.size _)) (txt10 [82] [88] TX [111, 110, 108, 121] [45] [74, 97, 110] [49] [48] [48] [45] _ _) (H8.out _ _ LX.out (by simp)) (by simp [yrL]) HR).mono ?_
    rintro e w3 ⟨rfl, b3'⟩
    have B3 := Lib.hid (bstep (B2.out.alloc B2.out.size _) b3')
    clear b3'
    simp only [RV.val]
    go_wp2_with fail
    refine (wakes9_any _ (HP.out.stays (by first | exact B3.out.alloc B3.out.size _ | exact B3.out)) (HM.out.stays (by first | exact B3.out.alloc B3.out.size _ | exact B3.out))).mono ?_
    rintro e w4 ⟨rfl, b4'⟩
    go_wp2
    go_ret
    exact ⟨rfl, by first | exact bstep (B3.out.alloc B3.out.size _) b4' | exact bstep B3.out b4'⟩
  · go_enter Tryz.func6, Tryz.ntmps6
    go_wp2_with fail
    refine (rtx_to (1 + A) 0 TX _ (by omega) (by omega) (by omega) (by omega) HX).mono ?_
    rintro e w1 ⟨rfl, b1'⟩
    have B1 := Lib.hid (bstep (show Below w.heap.size w _ from (by repeat (first | with_reducible exact Below.refl _ _ | refine Below.drew ?_ | refine below_drewN ?_ _))) b1')
    clear b1'
    go_wp2_with fail
    refine (rtx_to TO 0 TY _ (by omega) (by omega) (by omega) (by omega) HY).mono ?_
    rintro e w2 ⟨rfl, b2'⟩
    have B2 := Lib.hid (bstep B1.out b2')
    clear b2'
    go_wp2_with fail
    refine (rparse_to _ (yrL TX [77, 65, 88]) 0 ⟨[88], 1 + A, 9999, 1, 1, 0, 1, 0, 1, 0, []⟩ _ (HM.out.stays (B2.out.alloc B2.out.size _)) (txt10 [82] [88] TX [77, 65, 88] [45] [74, 97, 110] [49] [48] [48] [45] _ _) (H8.out _ _ LX.out (by simp)) (by simp [yrL]) HR).mono ?_
    rintro e w3 ⟨rfl, b3'⟩
    have B3 := Lib.hid (bstep (B2.out.alloc B2.out.size _) b3')
    clear b3'
    simp only [RV.val]
    go_wp2_with fail
    refine (wakes9_any _ (HP.out.stays (by first | exact B3.out.alloc B3.out.size _ | exact B3.out)) (HM.out.stays (by first | exact B3.out.alloc B3.out.size _ | exact B3.out))).mono ?_
    rintro e w4 ⟨rfl, b4'⟩
    go_wp2
    go_ret
    exact ⟨rfl, by first | exact bstep (B3.out.alloc B3.out.size _) b4' | exact bstep B3.out b4'⟩
  · go_enter Tryz.func6, Tryz.ntmps6
    go_wp2_with fail
    refine (rtx_to (1 + A) 0 TX _ (by omega) (by omega) (by omega) (by omega) HX).mono ?_
    rintro e w1 ⟨rfl, b1'⟩
    have B1 := Lib.hid (bstep (show Below w.heap.size w _ from (by repeat (first | with_reducible exact Below.refl _ _ | refine Below.drew ?_ | refine below_drewN ?_ _))) b1')
    clear b1'
    go_wp2_with fail
    refine (rtx_to TO 0 TY _ (by omega) (by omega) (by omega) (by omega) HY).mono ?_
    rintro e w2 ⟨rfl, b2'⟩
    have B2 := Lib.hid (bstep B1.out b2')
    clear b2'
    go_wp2_with fail
    refine (rparse_to _ (yrL [109, 105] TY) 0 ⟨[88], 1, TO, 1, 1, 0, 1, 0, 1, 0, []⟩ _ (HM.out.stays (B2.out.alloc B2.out.size _)) (txt10 [82] [88] [109, 105] TY [45] [74, 97, 110] [49] [48] [48] [45] _ _) (H8.out _ _ (by simp) LY.out) (by simp [yrL]) HR).mono ?_
    rintro e w3 ⟨rfl, b3'⟩
    have B3 := Lib.hid (bstep (B2.out.alloc B2.out.size _) b3')
    clear b3'
    simp only [RV.val]
    go_wp2_with fail
    refine (wakes9_any _ (HP.out.stays (by first | exact B3.out.alloc B3.out.size _ | exact B3.out)) (HM.out.stays (by first | exact B3.out.alloc B3.out.size _ | exact B3.out))).mono ?_
    rintro e w4 ⟨rfl, b4'⟩
    go_wp2
    go_ret
    exact ⟨rfl, by first | exact bstep (B3.out.alloc B3.out.size _) b4' | exact bstep B3.out b4'⟩
  · go_enter Tryz.func6, Tryz.ntmps6
    go_wp2_with fail
    refine (rtx_to (1 + A) 0 TX _ (by omega) (by omega) (by omega) (by omega) HX).mono ?_
    rintro e w1 ⟨rfl, b1'⟩
    have B1 := Lib.hid (bstep (show Below w.heap.size w _ from (by repeat (first | with_reducible exact Below.refl _ _ | refine Below.drew ?_ | refine below_drewN ?_ _))) b1')
    clear b1'
    go_wp2_with fail
    refine (rtx_to TO 0 TY _ (by omega) (by omega) (by omega) (by omega) HY).mono ?_
    rintro e w2 ⟨rfl, b2'⟩
    have B2 := Lib.hid (bstep B1.out b2')
    clear b2'
    go_wp2_with fail
    refine (rparse_to _ (yrL [111, 110, 108, 121] TY) 5 RV.zero _ (HM.out.stays (B2.out.alloc B2.out.size _)) (txt10 [82] [88] [111, 110, 108, 121] TY [45] [74, 97, 110] [49] [48] [48] [45] _ _) (H8.out _ _ (by simp) LY.out) (by simp [yrL]) HR).mono ?_
    rintro e w3 ⟨rfl, b3'⟩
    have B3 := Lib.hid (bstep (B2.out.alloc B2.out.size _) b3')
    clear b3'
    simp only [RV.val, RV.zero]
    go_wp2_with fail
    refine (wakes9_any _ (HP.out.stays (by first | exact B3.out.alloc B3.out.size _ | exact B3.out)) (HM.out.stays (by first | exact B3.out.alloc B3.out.size _ | exact B3.out))).mono ?_
    rintro e w4 ⟨rfl, b4'⟩
    go_wp2
    go_ret
    exact ⟨rfl, by first | exact bstep (B3.out.alloc B3.out.size _) b4' | exact bstep B3.out b4'⟩
  · go_enter Tryz.func6, Tryz.ntmps6
    go_wp2_with fail
    refine (rtx_to (1 + A) 0 TX _ (by omega) (by omega) (by omega) (by omega) HX).mono ?_
    rintro e w1 ⟨rfl, b1'⟩
    have B1 := Lib.hid (bstep (show Below w.heap.size w _ from (by repeat (first | with_reducible exact Below.refl _ _ | refine Below.drew ?_ | refine below_drewN ?_ _))) b1')
    clear b1'
    go_wp2_with fail
    refine (rtx_to TO 0 TY _ (by omega) (by omega) (by omega) (by omega) HY).mono ?_
    rintro e w2 ⟨rfl, b2'⟩
    have B2 := Lib.hid (bstep B1.out b2')
    clear b2'
    go_wp2_with fail
    refine (rparse_to _ (yrL TX [109]) 5 RV.zero _ (HM.out.stays (B2.out.alloc B2.out.size _)) (txt10 [82] [88] TX [109] [45] [74, 97, 110] [49] [48] [48] [45] _ _) (H8.out _ _ LX.out (by simp)) (by simp [yrL]) HR).mono ?_
    rintro e w3 ⟨rfl, b3'⟩
    have B3 := Lib.hid (bstep (B2.out.alloc B2.out.size _) b3')
    clear b3'
    simp only [RV.val, RV.zero]
    go_wp2_with fail
    refine (wakes9_any _ (HP.out.stays (by first | exact B3.out.alloc B3.out.size _ | exact B3.out)) (HM.out.stays (by first | exact B3.out.alloc B3.out.size _ | exact B3.out))).mono ?_
    rintro e w4 ⟨rfl, b4'⟩
    go_wp2
    go_ret
    exact ⟨rfl, by first | exact bstep (B3.out.alloc B3.out.size _) b4' | exact bstep B3.out b4'⟩
end Rul
end Go.Proofs.YtpcnpacllkiieaaGreatDoor
