/-
  recur.Parse. (Written by gen/gen_rcpj.py.)
-/
import Derived.Test.YtbeefhmnoihmcaaGreatDoorRcpI
import Derived.Deep.CutBlock
namespace Go.Proofs.YtbeefhmnoihmcaaGreatDoor
open Go.RowKit
namespace Rcp
open Cel
open Spc
open Wrd (MaxL smL)
open Ap (RowI Grew)
open Civ (Ahead)
open Rcv (CV)
open Rck (Small ckE ckB)
theorem res3 {P : Program} {fn : Func} {tmps : Array Value} {g : Nat} {W : World} {vs : List Value} {v : Value} (h : Cs g W vs) (k : ∀ W', Cs g W' vs → (results fn tmps).run P W' = .ok v W') : (results fn tmps).run P W = .ok v W := k W h
def PaQ (x : CV) (c : Int) (w : World) (e : Ending) (w' : World) : Prop := ∃ u, e = .returned (.tuple #[u, .int .i64 c]) ∧ Rcv.RecV w' u x ∧ Below w.heap.size w w'
theorem pa_zero {c : Int} {x : CV} {w w' : World} {e : Ending} (h : (CV.zero, c) = (x, c)) (he : e = .returned (.tuple #[.agg #[.int .i64 0, .int .i64 0, .int .i64 0, .bool false, .int .i64 0, .bool false, .slice none 0 0, .slice none 0 0, .slice none 0 0, .slice none 0 0, .slice none 0 0, .slice none 0 0, .slice none 0 0, .slice none 0 0, .slice none 0 0, .int .i64 0], .int .i64 c])) (hb : Below w.heap.size w w') : PaQ x c w e w' := by
  obtain ⟨rfl, _⟩ := Prod.mk.inj h
  exact ⟨_, he, ⟨_, _, _, _, _, _, _, _, _, rfl, ⟨Rcv.IntV.none _, Rcv.IntV.none _, Rcv.IntV.none _, Rcv.DayV.none _, Rcv.IntV.none _, Rcv.IntV.none _, Rcv.IntV.none _, Rcv.IntV.none _, Rcv.IntV.none _⟩⟩, hb⟩
def startsP (n : Nat) : Code → Bool
  | .region k _ _ => k == n
  | .seq a _ => startsP n a
  | .scope a => startsP n a
  | .block _ a => startsP n a
  | _ => false
def fromP (n : Nat) : Code → Option Code
  | .seq a b => if startsP n a = true then some (.seq a b) else fromP n b
  | c => if startsP n c = true then some c else none
noncomputable def codeP : Code := (Tryz.f11.body.bind (fromP 12)).getD .skip
set_option maxHeartbeats 12800000 in
set_option maxRecDepth 100000 in
theorem paT (Q : List (List UInt8)) (x : CV) (c : Int) (w w4 : World) (g : Nat) (TT : Hid (MaxL w ∧ FreqT w ∧ DayT w ∧ Ahead w)) (HH : Hid ((paG Q [] r0 = none → (CV.zero, 21) = (x, c)) ∧ (∀ y, paG Q [] r0 = some y → (if ckE y = 0 then (y, 0) else (CV.zero, ckE y)) = (x, c)))) (HE : Hid (∃ y, paG Q [] r0 = some y ∧ OkX y ∧ RulB g w4 y)) (Z4 : Hid (Cs w.heap.size w4 [.int .i64 0, .int .i64 0, .int .i64 0, .bool false, .int .i64 0, .bool false, .slice none 0 0, .slice none 0 0, .slice none 0 0, .slice none 0 0, .slice none 0 0, .slice none 0 0, .slice none 0 0, .slice none 0 0, .slice none 0 0, .int .i64 0])) (B4 : Hid (Below w.heap.size w w4)) (HG : Hid (w.heap.size < g))
    (x0 x1 x3 x5 x6 x7 x8 x9 x10 x11 x12 x13 x14 x15 x16 x17 x18 x19 x20 x21 x22 x23 x24 x25 x26 x27 x28 x29 x30 x31 x32 x33 x34 x35 x36 x37 x38 x39 x40 x41 x42 x43 x44 x45 x46 x47 x48 x49 x50 x51 x52 x53 : Value) : Code.wp Tryz.prog codeP (bodyPost Tryz.prog Tryz.f11 (PaQ x c w)) ⟨List.toArray (x0 :: x1 :: .pointer (some ⟨w.heap.size, 0, none⟩) :: x3 :: .pointer (some ⟨g, 0, none⟩) :: x5 :: x6 :: x7 :: x8 :: x9 :: x10 :: x11 :: x12 :: x13 :: x14 :: x15 :: x16 :: x17 :: x18 :: x19 :: x20 :: x21 :: x22 :: x23 :: x24 :: x25 :: x26 :: x27 :: x28 :: x29 :: x30 :: x31 :: x32 :: x33 :: x34 :: x35 :: x36 :: x37 :: x38 :: x39 :: x40 :: x41 :: x42 :: x43 :: x44 :: x45 :: x46 :: x47 :: x48 :: x49 :: x50 :: x51 :: x52 :: x53 :: []), []⟩ w4 := by
  conv => arg 2; whnf
  obtain ⟨y, hy, hok, s6, s7, s8, s9, s10, s11, s12, s13, s14, hC, hL⟩ := HE.out
  have hx := HH.out.2 y hy
  obtain ⟨a6, c6, rfl⟩ := own_slice hL.h6
  obtain ⟨a7, c7, rfl⟩ := own_slice hL.h7
  obtain ⟨a8, c8, rfl⟩ := own_slice hL.h8
  obtain ⟨a9, c9, rfl⟩ := own_slice hL.h9
  obtain ⟨a10, c10, rfl⟩ := own_slice hL.h10
  obtain ⟨a11, c11, rfl⟩ := own_slice hL.h11
  obtain ⟨a12, c12, rfl⟩ := own_slice hL.h12
  obtain ⟨a13, c13, rfl⟩ := own_slice hL.h13
  obtain ⟨a14, c14, rfl⟩ := own_slice hL.h14
  obtain ⟨n6, hn6⟩ : ∃ n, y.sc.length = n := ⟨_, rfl⟩
  obtain ⟨n7, hn7⟩ : ∃ n, y.mi.length = n := ⟨_, rfl⟩
  obtain ⟨n8, hn8⟩ : ∃ n, y.hr.length = n := ⟨_, rfl⟩
  obtain ⟨n9, hn9⟩ : ∃ n, y.dy.length = n := ⟨_, rfl⟩
  obtain ⟨n10, hn10⟩ : ∃ n, y.md.length = n := ⟨_, rfl⟩
  obtain ⟨n11, hn11⟩ : ∃ n, y.yd.length = n := ⟨_, rfl⟩
  obtain ⟨n12, hn12⟩ : ∃ n, y.wn.length = n := ⟨_, rfl⟩
  obtain ⟨n13, hn13⟩ : ∃ n, y.mo.length = n := ⟨_, rfl⟩
  obtain ⟨n14, hn14⟩ : ∃ n, y.sp.length = n := ⟨_, rfl⟩
  rw [hn6, hn7, hn8, hn9, hn10, hn11, hn12, hn13, hn14] at hC hL
  have C := Lib.hid hC
  have L := Lib.hid hL
  have HO := Lib.hid hok
  obtain ⟨cc, hcc⟩ : ∃ cc, ckE y = cc := ⟨_, rfl⟩
  have HK := Lib.hid hcc
  rw [hcc] at hx
  have HX := Lib.hid hx
  clear hC hL hok hy hx hcc HE HH
  go_upto_region 12 with fail
  refine wp_region_lit ?_
  refine wpList_load_mid rfl 25 (.tmp 4) rfl g 0 rfl [.int .i64 y.fq, .int .i64 y.iv, .int .i64 y.ct, .bool y.un, .int .i64 y.ua, .bool y.ut, .slice a6 n6 c6, .slice a7 n7 c7, .slice a8 n8 c8, .slice a9 n9 c9, .slice a10 n10 c10, .slice a11 n11 c11, .slice a12 n12 c12, .slice a13 n13 c13, .slice a14 n14 c14, .int .i64 y.wk] _ C.out.range Tryz.underlying25 rfl (by kernel_rfl) ?_
  go_wp2_with fail
  refine (Rck.ck_to _ _ _ _ _ _ _ _ _ y cc _ (TT.out.2.2.2.stays B4.out) (by have := HO.out.lo; omega) (by have := HO.out.hi; omega) (Lib.hid L.out.lis) (Lib.hid HO.out.sm) HK).mono ?_
  rintro e w5 ⟨rfl, k5⟩
  have C5 := Lib.hid (C.out.below k5)
  have L5 := Lib.hid (L.out.below k5)
  have Z5 := Lib.hid (Z4.out.below k5)
  have B5 := Lib.hid (bstep B4.out k5)
  clear k5 C L Z4 B4
  by_cases z : cc = 0
  · subst z
    have hx := HX.out
    rw [if_pos rfl] at hx
    obtain ⟨rfl, rfl⟩ := Prod.mk.inj hx
    clear hx HX HK
    have ZR := Lib.hid (Z5.out.row [.int .i64 y.fq, .int .i64 y.iv, .int .i64 y.ct, .bool y.un, .int .i64 y.ua, .bool y.ut, .slice a6 n6 c6, .slice a7 n7 c7, .slice a8 n8 c8, .slice a9 n9 c9, .slice a10 n10 c10, .slice a11 n11 c11, .slice a12 n12 c12, .slice a13 n13 c13, .slice a14 n14 c14, .int .i64 y.wk] rfl)
    have BR := Lib.hid (below_setCells (Nat.le_refl _) [.int .i64 y.fq, .int .i64 y.iv, .int .i64 y.ct, .bool y.un, .int .i64 y.ua, .bool y.ut, .slice a6 n6 c6, .slice a7 n7 c7, .slice a8 n8 c8, .slice a9 n9 c9, .slice a10 n10 c10, .slice a11 n11 c11, .slice a12 n12 c12, .slice a13 n13 c13, .slice a14 n14 c14, .int .i64 y.wk] 0 _ B5.out)
    have LR := Lib.hid (Lsts.row (show w.heap.size < g + 1 by have := HG.out; omega) [.int .i64 y.fq, .int .i64 y.iv, .int .i64 y.ct, .bool y.un, .int .i64 y.ua, .bool y.ut, .slice a6 n6 c6, .slice a7 n7 c7, .slice a8 n8 c8, .slice a9 n9 c9, .slice a10 n10 c10, .slice a11 n11 c11, .slice a12 n12 c12, .slice a13 n13 c13, .slice a14 n14 c14, .int .i64 y.wk] 0 _ L5.out)
    go_upto_region 15 with fail
    refine wp_region_lit ?_
    refine wpList_load_mid rfl 25 (.tmp 4) rfl g 0 rfl [.int .i64 y.fq, .int .i64 y.iv, .int .i64 y.ct, .bool y.un, .int .i64 y.ua, .bool y.ut, .slice a6 n6 c6, .slice a7 n7 c7, .slice a8 n8 c8, .slice a9 n9 c9, .slice a10 n10 c10, .slice a11 n11 c11, .slice a12 n12 c12, .slice a13 n13 c13, .slice a14 n14 c14, .int .i64 y.wk] _ C5.out.range Tryz.underlying25 rfl (by kernel_rfl) ?_
    refine wpList_store_mid rfl 25 (.tmp 2) (.tmp 53) rfl w.heap.size 0 #[.int .i64 y.fq, .int .i64 y.iv, .int .i64 y.ct, .bool y.un, .int .i64 y.ua, .bool y.ut, .slice a6 n6 c6, .slice a7 n7 c7, .slice a8 n8 c8, .slice a9 n9 c9, .slice a10 n10 c10, .slice a11 n11 c11, .slice a12 n12 c12, .slice a13 n13 c13, .slice a14 n14 c14, .int .i64 y.wk] rfl rfl Z5.out.there (by kernel_rfl) (by kernel_rfl) ?_
    go_wp2
    refine bodyPost_ret (v := .tuple #[.agg #[.int .i64 y.fq, .int .i64 y.iv, .int .i64 y.ct, .bool y.un, .int .i64 y.ua, .bool y.ut, .slice a6 n6 c6, .slice a7 n7 c7, .slice a8 n8 c8, .slice a9 n9 c9, .slice a10 n10 c10, .slice a11 n11 c11, .slice a12 n12 c12, .slice a13 n13 c13, .slice a14 n14 c14, .int .i64 y.wk], .int .i64 0]) (res3 ZR.out (fun W h => by have t0 := (h.2 0 _ rfl).1; have t1 := (h.2 1 _ rfl).1; have t2 := (h.2 2 _ rfl).1; have t3 := (h.2 3 _ rfl).1; have t4 := (h.2 4 _ rfl).1; have t5 := (h.2 5 _ rfl).1; have t6 := (h.2 6 _ rfl).1; have t7 := (h.2 7 _ rfl).1; have t8 := (h.2 8 _ rfl).1; have t9 := (h.2 9 _ rfl).1; have t10 := (h.2 10 _ rfl).1; have t11 := (h.2 11 _ rfl).1; have t12 := (h.2 12 _ rfl).1; have t13 := (h.2 13 _ rfl).1; have t14 := (h.2 14 _ rfl).1; have t15 := (h.2 15 _ rfl).1; simp [results, Tryz.results11, go_sem, t0, t1, t2, t3, t4, t5, t6, t7, t8, t9, t10, t11, t12, t13, t14, t15])) rfl ?_
    exact ⟨_, rfl, ⟨_, _, _, _, _, _, _, _, _, rfl, LR.out.lis⟩, BR.out⟩
  · have hx := HX.out
    rw [if_neg z] at hx
    have hcx : cc = c := (Prod.mk.inj hx).2
    subst hcx
    have p : (cc == 0) = false := beq_eq_false_iff_ne.2 z
    have p2 : (cc != 0) = true := by rw [bne, p]; rfl
    have HF := Lib.hid hx
    clear hx HX HK
    have ZR := Lib.hid (Z5.out.row [.int .i64 0, .int .i64 0, .int .i64 0, .bool false, .int .i64 0, .bool false, .slice none 0 0, .slice none 0 0, .slice none 0 0, .slice none 0 0, .slice none 0 0, .slice none 0 0, .slice none 0 0, .slice none 0 0, .slice none 0 0, .int .i64 0] rfl)
    have BR := Lib.hid (below_setCells (Nat.le_refl _) [.int .i64 0, .int .i64 0, .int .i64 0, .bool false, .int .i64 0, .bool false, .slice none 0 0, .slice none 0 0, .slice none 0 0, .slice none 0 0, .slice none 0 0, .slice none 0 0, .slice none 0 0, .slice none 0 0, .slice none 0 0, .int .i64 0] 0 _ B5.out)
    go_upto_region 14 with fail
    refine wp_region_lit ?_
    refine wpList_plain rfl (fun K hK => ?_)
    go_simp
    refine hK _ _ ?_
    clear hK K
    refine wpList_plain rfl (fun K hK => ?_)
    go_simp
    refine hK _ _ ?_
    clear hK K
    refine wpList_store_mid rfl 25 (.tmp 2) (.tmp 51) rfl w.heap.size 0 #[.int .i64 0, .int .i64 0, .int .i64 0, .bool false, .int .i64 0, .bool false, .slice none 0 0, .slice none 0 0, .slice none 0 0, .slice none 0 0, .slice none 0 0, .slice none 0 0, .slice none 0 0, .slice none 0 0, .slice none 0 0, .int .i64 0] rfl rfl Z5.out.there (by kernel_rfl) (by kernel_rfl) ?_
    go_wp2
    refine bodyPost_ret (v := .tuple #[.agg #[.int .i64 0, .int .i64 0, .int .i64 0, .bool false, .int .i64 0, .bool false, .slice none 0 0, .slice none 0 0, .slice none 0 0, .slice none 0 0, .slice none 0 0, .slice none 0 0, .slice none 0 0, .slice none 0 0, .slice none 0 0, .int .i64 0], .int .i64 cc]) (res3 ZR.out (fun W h => by have t0 := (h.2 0 _ rfl).1; have t1 := (h.2 1 _ rfl).1; have t2 := (h.2 2 _ rfl).1; have t3 := (h.2 3 _ rfl).1; have t4 := (h.2 4 _ rfl).1; have t5 := (h.2 5 _ rfl).1; have t6 := (h.2 6 _ rfl).1; have t7 := (h.2 7 _ rfl).1; have t8 := (h.2 8 _ rfl).1; have t9 := (h.2 9 _ rfl).1; have t10 := (h.2 10 _ rfl).1; have t11 := (h.2 11 _ rfl).1; have t12 := (h.2 12 _ rfl).1; have t13 := (h.2 13 _ rfl).1; have t14 := (h.2 14 _ rfl).1; have t15 := (h.2 15 _ rfl).1; simp [results, Tryz.results11, go_sem, t0, t1, t2, t3, t4, t5, t6, t7, t8, t9, t10, t11, t12, t13, t14, t15])) rfl ?_
    exact pa_zero HF.out rfl BR.out
theorem cut_len (q p : List UInt8) : (Lib.cut q p).1.length ≤ q.length ∧ (Lib.cut q p).2.1.length ≤ q.length := by
  unfold Lib.cut
  split
  · simp; omega
  · simp
set_option maxHeartbeats 12800000 in
set_option maxRecDepth 100000 in
theorem pa_to (s : ByteArray) (S : List UInt8) (x : CV) (c : Int) (w : World) (hM : MaxL w) (hF : FreqT w) (hD : DayT w) (hA : Ahead w) (hs : s.size ≤ 100000) (hS : Hid (s.data.toList = S)) (hq : Hid (∀ q ∈ spG 59 [] S, q.length ≤ 10000)) (h : Hid (pxP S = (x, c))) :
    Calls Tryz.prog 11 #[.string s] w (PaQ x c w) := by
  have TT := Lib.hid (And.intro hM (And.intro hF (And.intro hD hA)))
  obtain ⟨Q, hQ⟩ : ∃ Q, spG 59 [] S = Q := ⟨_, rfl⟩
  have hl : S.length = s.size := by rw [← hS.out]; simp
  have hlen := sp_len (d := 59) S []
  rw [hQ] at hlen
  have HZ : Hid (∀ (j : Nat) (hj : j < Q.length), Q[j].length ≤ 10000) := Lib.hid (fun j hj => hq.out _ (by rw [hQ]; exact List.getElem_mem hj))
  have HQ := Lib.hid hQ
  have HH : Hid ((paG Q [] r0 = none → (CV.zero, 21) = (x, c)) ∧ (∀ y, paG Q [] r0 = some y → (if ckE y = 0 then (y, 0) else (CV.zero, ckE y)) = (x, c))) := Lib.hid (by
    have e := h.out
    rw [pxP, hQ] at e
    exact ⟨fun q => by rw [q] at e; exact e, fun M q => by rw [q] at e; exact e⟩)
  obtain ⟨n, hn⟩ : ∃ n, Q.length = n := ⟨_, rfl⟩
  have HN := Lib.hid hn
  have hn1 : n ≤ 100001 := by omega
  clear hQ hlen h hl hn hM hF hD hA hq
  go_enter Tryz.func11, Tryz.ntmps11
  go_upto_region 0 with fail
  go_cut [2, 3] (fun p z w1 => p = .pointer (some ⟨w.heap.size, 0, none⟩) ∧ z = .int .i64 0 ∧ Hid (Cs w.heap.size w1 [.int .i64 0, .int .i64 0, .int .i64 0, .bool false, .int .i64 0, .bool false, .slice none 0 0, .slice none 0 0, .slice none 0 0, .slice none 0 0, .slice none 0 0, .slice none 0 0, .slice none 0 0, .slice none 0 0, .slice none 0 0, .int .i64 0]) ∧ Hid (Below w.heap.size w w1) ∧ Hid (w1.heap.size = w.heap.size + 1))
  case first =>
    go_wp2
    go_meet
    exact ⟨rfl, rfl, Lib.hid (Cs.new w _ _), Lib.hid ((Below.refl _ _).alloc (Nat.le_refl _) _), Lib.hid (by simp)⟩
  case rest =>
  obtain ⟨w1, rfl⟩ : ∃ x : World, x = wc := ⟨_, rfl⟩
  obtain ⟨rfl, rfl, Z1, B1, E1⟩ := hcut
  go_upto_region 1 with fail
  go_cut [4] (fun p w2 => p = .pointer (some ⟨w1.heap.size, 0, none⟩) ∧ Hid (RulB w1.heap.size w2 r0) ∧ Hid (Cs w.heap.size w2 [.int .i64 0, .int .i64 0, .int .i64 0, .bool false, .int .i64 0, .bool false, .slice none 0 0, .slice none 0 0, .slice none 0 0, .slice none 0 0, .slice none 0 0, .slice none 0 0, .slice none 0 0, .slice none 0 0, .slice none 0 0, .int .i64 0]) ∧ Hid (Below w.heap.size w w2))
  case first =>
    go_wp2
    go_meet
    exact ⟨rfl, Lib.hid ⟨_, _, _, _, _, _, _, _, _, Cs.new w1 [.int .i64 0, .int .i64 1, .int .i64 0, .bool false, .int .i64 0, .bool false, .slice none 0 0, .slice none 0 0, .slice none 0 0, .slice none 0 0, .slice none 0 0, .slice none 0 0, .slice none 0 0, .slice none 0 0, .slice none 0 0, .int .i64 1] _, ⟨RowI.nil _ _, RowI.nil _ _, RowI.nil _ _, RowD.nil _ _, RowI.nil _ _, RowI.nil _ _, RowI.nil _ _, RowI.nil _ _, RowI.nil _ _⟩⟩, Lib.hid (Z1.out.alloc _), Lib.hid (B1.out.alloc B1.out.size _)⟩
  case rest =>
  obtain ⟨w2, rfl⟩ : ∃ x : World, x = wc := ⟨_, rfl⟩
  obtain ⟨rfl, R2, Z2, B2⟩ := hcut
  obtain ⟨g, hg⟩ : ∃ g, w1.heap.size = g := ⟨_, rfl⟩
  have hgw : w.heap.size < g := by have := E1.out; omega
  have HG := Lib.hid hgw
  have hg2 : g < w2.heap.size := by obtain ⟨_, _, _, _, _, _, _, _, _, q, _⟩ := R2.out; rw [← hg]; exact q.1
  rw [hg] at R2 ⊢
  clear hg Z1 B1 E1
  go_wp2_with fail
  refine (split_to 59 s S Q _ (mx_below TT.out.1 B2.out) (by omega) hS HQ).mono ?_
  rintro e w3 ⟨rfl, hR, hB⟩
  have P3 := Lib.hid hR
  have B3 := Lib.hid (bstep B2.out hB)
  have R3 := Lib.hid (R2.out.below hB)
  have Z3 := Lib.hid (Z2.out.below hB)
  obtain ⟨gs, hgs⟩ : ∃ gs, w2.heap.size = gs := ⟨_, rfl⟩
  rw [hgs] at P3 hg2 ⊢
  have HS : Hid (g < gs ∧ gs < w3.heap.size) := Lib.hid ⟨hg2, P3.out.1⟩
  rw [HN.out]
  clear hR hB hgs hg2 R2 Z2 B2 hgw
  go_upto_block 0 with fail
  go_cut [] (fun w4 => Hid (∃ y, paG Q [] r0 = some y ∧ OkX y ∧ RulB g w4 y) ∧ Hid (Cs w.heap.size w4 [.int .i64 0, .int .i64 0, .int .i64 0, .bool false, .int .i64 0, .bool false, .slice none 0 0, .slice none 0 0, .slice none 0 0, .slice none 0 0, .slice none 0 0, .slice none 0 0, .slice none 0 0, .slice none 0 0, .slice none 0 0, .int .i64 0]) ∧ Hid (Below w.heap.size w w4))
  case first =>
    go_wp2_with fail
    go_loopw [5, 16] (fun lv iv wr => ∃ (k : Nat) (M : List (List UInt8)) (y : CV) (sv : Value), k ≤ n ∧ M.length = k ∧ iv = .int .i64 k ∧ sv = lv ∧ Hid (paG Q [] r0 = paG (Q.drop k) M y) ∧ Hid (OkX y) ∧ Hid (RulB g wr y) ∧ Hid (RowT w3.heap.size wr sv M) ∧ Hid (SpR gs wr Q) ∧ Hid (Cs w.heap.size wr [.int .i64 0, .int .i64 0, .int .i64 0, .bool false, .int .i64 0, .bool false, .slice none 0 0, .slice none 0 0, .slice none 0 0, .slice none 0 0, .slice none 0 0, .slice none 0 0, .slice none 0 0, .slice none 0 0, .slice none 0 0, .int .i64 0]) ∧ Hid (Below w.heap.size w wr) ∧ Hid (w3.heap.size ≤ wr.heap.size)) (fun _ iv _ => n - (intOf iv).toNat)
    case atStart => exact ⟨0, [], r0, _, Nat.zero_le _, rfl, rfl, rfl, Lib.hid (by rw [List.drop_zero]), Lib.hid ok_r0, R3, Lib.hid (RowT.nil _ _), P3, Z3, B3, Lib.hid (Nat.le_refl _)⟩
    case round =>
      obtain ⟨k, M, y, sv, hk, hM2, rfl, rfl, HT, HO, R, T, P, Z, B, HB⟩ := hrel
      obtain ⟨wo, rfl⟩ : ∃ wo : World, wo = wr := ⟨_, rfl⟩
      by_cases hlt : k < n
      · have h1L : k < Q.length := by rw [HN.out]; exact hlt
        have c1 := P.out.2 k h1L
        have hzk := HZ.out k h1L
        obtain ⟨q, hq⟩ : ∃ q, Q[k] = q := ⟨_, rfl⟩
        have Hq := Lib.hid hq
        rw [hq] at c1 hzk
        clear hq
        obtain ⟨X, Y, ok, hc⟩ : ∃ X Y ok, Lib.cut q [61] = (X, Y, ok) := ⟨_, _, _, rfl⟩
        have HC := Lib.hid hc
        obtain ⟨N, hN⟩ : ∃ N, smL X = N := ⟨_, rfl⟩
        have Hn := Lib.hid hN
        obtain ⟨y2, r, hr⟩ : ∃ y2 r, rpP N Y y = (y2, r) := ⟨_, _, rfl⟩
        have Hr := Lib.hid hr
        have hXY : X.length ≤ 10000 ∧ Y.length ≤ 10000 := by
          have e := cut_len q [61]
          rw [hc] at e
          simp only at e
          omega
        have SX : Hid ((⟨X.toArray⟩ : ByteArray).size ≤ 1000000) := Lib.hid (by show X.toArray.size ≤ _; simp; omega)
        have SY : Hid ((⟨Y.toArray⟩ : ByteArray).size ≤ 10000) := Lib.hid (by show Y.toArray.size ≤ _; simp; omega)
        have SQ : Hid ((⟨q.toArray⟩ : ByteArray).size ≤ 1000000) := Lib.hid (by show q.toArray.size ≤ _; simp; omega)
        have HO2 : Hid (OkX y2) := Lib.hid (by have e := ok_step HO.out N Y hXY.2; rwa [hr] at e)
        obtain ⟨ib, hib⟩ : ∃ b, decide (N ∈ M) = b := ⟨_, rfl⟩
        have HI := Lib.hid hib
        have hMl : M.length ≤ 1000000 := by omega
        have hMl8 : M.length ≤ 100000000 := by omega
        clear hc hN hr hzk hXY hib
        go_wp2_with fail
        refine (Wrd.cut_to ⟨q.toArray⟩ ⟨#[61]⟩ q [61] X Y ok _ (mx_below TT.out.1 B.out) SQ.out (Lib.hid rfl) (Lib.hid rfl) HC).mono ?_
        rintro e w5 ⟨rfl, m5, rfl⟩
        have k5 : Below wo.heap.size wo (wo.drewN m5) := ⟨rfl, rfl, rfl, Nat.le_refl _, fun _ _ => rfl⟩
        go_wp2_with fail
        refine (Wrd.small_z ⟨X.toArray⟩ X N _ SX.out (Lib.hid rfl) Hn).mono ?_
        rintro e w6 ⟨rfl, k6⟩
        have k56 : Below wo.heap.size wo w6 := bstep k5 k6
        have R6 := Lib.hid (R.out.below k56)
        have T6 := Lib.hid (T.out.below k56)
        have P6 := Lib.hid (P.out.below k56)
        have Z6 := Lib.hid (Z.out.below k56)
        have B6 := Lib.hid (bstep B.out k56)
        have HB6 := Lib.hid (Nat.le_trans HB.out k56.size)
        clear R T P Z B HB k5 k6 k56 c1
        go_upto_region 8 with fail
        go_cut [40] from 20 to 46 (fun b w7 => b = .bool (!(ok && (!ib && r))) ∧ Hid (∃ z, RulB g w7 z ∧ ((ok && (!ib && r)) = true → z = y2)) ∧ Hid (RowT w3.heap.size w7 sv M) ∧ Hid (SpR gs w7 Q) ∧ Hid (Cs w.heap.size w7 [.int .i64 0, .int .i64 0, .int .i64 0, .bool false, .int .i64 0, .bool false, .slice none 0 0, .slice none 0 0, .slice none 0 0, .slice none 0 0, .slice none 0 0, .slice none 0 0, .slice none 0 0, .slice none 0 0, .slice none 0 0, .int .i64 0]) ∧ Hid (Below w.heap.size w w7) ∧ Hid (w3.heap.size ≤ w7.heap.size))
        case first =>
          cases ok with
          | false =>
            go_wp2
            go_meet
            exact ⟨rfl, Lib.hid ⟨y, R6.out, fun q => by cases q⟩, T6, P6, Z6, B6, HB6⟩
          | true =>
            go_wp2_with fail
            refine (has_to _ M ⟨N.toArray⟩ N ib w3.heap.size _ T6.out hMl (Lib.hid (by rw [Lib.toList_data])) HI).mono ?_
            rintro e w7 ⟨rfl, rfl⟩
            cases ib with
            | true =>
              go_wp2
              go_meet
              exact ⟨rfl, Lib.hid ⟨y, R6.out, fun q => by cases q⟩, T6, P6, Z6, B6, HB6⟩
            | false =>
              go_wp2_with fail
              refine (rp_to ⟨N.toArray⟩ ⟨Y.toArray⟩ N Y g y y2 r _ (mx_below TT.out.1 B6.out) (StrT.below TT.out.2.1 B6.out) (StrT.below TT.out.2.2.1 B6.out) (TT.out.2.2.2.stays B6.out) R6.out SY.out (Lib.hid (by rw [Lib.toList_data])) (Lib.hid rfl) Hr).mono ?_
              rintro e w8 ⟨rfl, R8, U8⟩
              have R8' := Lib.hid R8
              have T8 := Lib.hid (own_upd T6.out U8 (show g < w3.heap.size by have := HS.out; omega))
              have P8 := Lib.hid (P6.out.upd U8 (by have := HS.out; omega))
              have Z8 := Lib.hid (cs_upd Z6.out U8 (by have := HG.out; omega))
              have B8 := Lib.hid (U8.below _ _ (by have := HG.out; omega) B6.out)
              have HB8 := Lib.hid (Nat.le_trans HB6.out U8.size)
              clear R8 U8
              cases r with
              | false =>
                go_wp2
                go_meet
                exact ⟨rfl, Lib.hid ⟨y2, R8'.out, fun q => by cases q⟩, T8, P8, Z8, B8, HB8⟩
              | true =>
                go_wp2
                go_meet
                exact ⟨rfl, Lib.hid ⟨y2, R8'.out, fun _ => rfl⟩, T8, P8, Z8, B8, HB8⟩
        case rest =>
        obtain ⟨w7, rfl⟩ : ∃ x : World, x = wc := ⟨_, rfl⟩
        obtain ⟨rfl, HR7, T7, P7, Z7, B7, HB7⟩ := hcut
        obtain ⟨bb, hbb⟩ : ∃ bb, (ok && (!ib && r)) = bb := ⟨_, rfl⟩
        have Hbb : Hid ((ok && (!decide (N ∈ M) && r)) = bb) := Lib.hid (by rw [HI.out]; exact hbb)
        rw [hbb] at HR7 ⊢
        clear hbb R6 T6 P6 Z6 B6 HB6
        cases bb with
        | false =>
          have HF := Lib.hid (HH.out.1 (pa_bad h1L HT.out Hq.out HC.out Hn.out Hr.out Hbb.out))
          obtain ⟨hx0, rfl⟩ := Prod.mk.inj HF.out
          clear HH HT Hq hx0
          have ZR := Lib.hid (Z7.out.row [.int .i64 0, .int .i64 0, .int .i64 0, .bool false, .int .i64 0, .bool false, .slice none 0 0, .slice none 0 0, .slice none 0 0, .slice none 0 0, .slice none 0 0, .slice none 0 0, .slice none 0 0, .slice none 0 0, .slice none 0 0, .int .i64 0] rfl)
          have BR := Lib.hid (below_setCells (Nat.le_refl _) [.int .i64 0, .int .i64 0, .int .i64 0, .bool false, .int .i64 0, .bool false, .slice none 0 0, .slice none 0 0, .slice none 0 0, .slice none 0 0, .slice none 0 0, .slice none 0 0, .slice none 0 0, .slice none 0 0, .slice none 0 0, .int .i64 0] 0 _ B7.out)
          go_upto_region 9 with fail
          refine wp_region_lit ?_
          refine wpList_plain rfl (fun K hK => ?_)
          go_simp
          refine hK _ _ ?_
          clear hK K
          refine wpList_store_mid rfl 25 (.tmp 2) (.tmp 41) rfl w.heap.size 0 #[.int .i64 0, .int .i64 0, .int .i64 0, .bool false, .int .i64 0, .bool false, .slice none 0 0, .slice none 0 0, .slice none 0 0, .slice none 0 0, .slice none 0 0, .slice none 0 0, .slice none 0 0, .slice none 0 0, .slice none 0 0, .int .i64 0] rfl rfl Z7.out.there (by kernel_rfl) (by kernel_rfl) ?_
          go_wp2
          refine bodyPost_ret (v := .tuple #[.agg #[.int .i64 0, .int .i64 0, .int .i64 0, .bool false, .int .i64 0, .bool false, .slice none 0 0, .slice none 0 0, .slice none 0 0, .slice none 0 0, .slice none 0 0, .slice none 0 0, .slice none 0 0, .slice none 0 0, .slice none 0 0, .int .i64 0], .int .i64 21]) (res3 ZR.out (fun W h => by have t0 := (h.2 0 _ rfl).1; have t1 := (h.2 1 _ rfl).1; have t2 := (h.2 2 _ rfl).1; have t3 := (h.2 3 _ rfl).1; have t4 := (h.2 4 _ rfl).1; have t5 := (h.2 5 _ rfl).1; have t6 := (h.2 6 _ rfl).1; have t7 := (h.2 7 _ rfl).1; have t8 := (h.2 8 _ rfl).1; have t9 := (h.2 9 _ rfl).1; have t10 := (h.2 10 _ rfl).1; have t11 := (h.2 11 _ rfl).1; have t12 := (h.2 12 _ rfl).1; have t13 := (h.2 13 _ rfl).1; have t14 := (h.2 14 _ rfl).1; have t15 := (h.2 15 _ rfl).1; simp [results, Tryz.results11, go_sem, t0, t1, t2, t3, t4, t5, t6, t7, t8, t9, t10, t11, t12, t13, t14, t15])) rfl ?_
          exact pa_zero HF.out rfl BR.out
        | true =>
          have HT2 := Lib.hid (pa_next h1L HT.out Hq.out HC.out Hn.out Hr.out Hbb.out)
          have R7 : Hid (RulB g w7 y2) := Lib.hid (by obtain ⟨z, hz, e⟩ := HR7.out; rw [← e rfl]; exact hz)
          have hs7 := HB7.out
          clear HT HR7 Hq h1L
          go_wp2_with (at_builtin; refine appT rfl _ _ rfl w3.heap.size _ M rfl T7.out N ⟨N.toArray⟩ rfl rfl hMl8 hs7 ?_)
          intro w9 gg gcap r9 g9
          have R9 := Lib.hid (R7.out.grew T7.out (by have := HS.out; omega) g9)
          have P9 := Lib.hid (P7.out.grew g9 (own_ne T7.out (by have := HS.out; omega)))
          have Z9 := Lib.hid (cs_grew Z7.out g9 (own_ne T7.out (by have := HS.out; have := HG.out; omega)))
          have B9 := Lib.hid (g9.below w.heap.size w (by have := HS.out; have := HG.out; omega) B7.out B7.out.size)
          have HB9 := Lib.hid (Nat.le_trans hs7 g9.size)
          have T9 := Lib.hid r9
          clear r9 g9 R7 P7 Z7 B7 T7 hs7
          go_wp2
          go_roundw
          case rel => exact ⟨k + 1, M ++ [N], y2, _, by omega, by rw [List.length_append]; simp; omega, by go_num, rfl, HT2, HO2, R9, T9, P9, Z9, B9, HB9⟩
          case measure => simp [intOf]; omega
      · have hkn : k = n := by omega
        have HE : Hid (∃ y, paG Q [] r0 = some y ∧ OkX y ∧ RulB g wo y) := Lib.hid ⟨y, by rw [HT.out, List.drop_eq_nil_of_le (by rw [HN.out]; omega), paG], HO.out, R.out⟩
        clear HT
        go_wp2
        go_meet
        exact ⟨HE, Z, B⟩
  case rest =>
  obtain ⟨w4, rfl⟩ : ∃ x : World, x = wc := ⟨_, rfl⟩
  obtain ⟨HE, Z4, B4⟩ := hcut
  rename_i hK
  exact hK _ _ (paT Q x c w w4 g TT HH HE Z4 B4 HG _ _ _ _ _ _ _ _ _ _ _ _ _ _ _ _ _ _ _ _ _ _ _ _ _ _ _ _ _ _ _ _ _ _ _ _ _ _ _ _ _ _ _ _ _ _ _ _ _ _ _ _)
end Rcp
end Go.Proofs.YtbeefhmnoihmcaaGreatDoor
