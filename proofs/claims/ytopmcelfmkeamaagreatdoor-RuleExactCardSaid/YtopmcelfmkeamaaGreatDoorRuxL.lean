/-
  RuleExact. (Written by gen/gen_ruxl.py.)
-/
import Derived.Test.YtopmcelfmkeamaaGreatDoorRuxP
import Derived.Test.YtopmcelfmkeamaaGreatDoorRuxV
import Derived.Test.YtopmcelfmkeamaaGreatDoorRulW
import Derived.Test.YtopmcelfmkeamaaGreatDoorMrgF
namespace Go.Proofs.YtopmcelfmkeamaaGreatDoor
open Go.RowKit
namespace Rul
open Sol Clk Cel
open Opn (TxtV lst)
set_option maxHeartbeats 6400000 in
set_option maxRecDepth 100000 in
theorem rprule_len (a : Option Addr) (n cp : Nat) (w : World) (_hn : n ≤ 1000000) (h : n ≠ 10) :
    Calls Tryz.prog 10 #[.slice a n cp] w fun e w' => e = .returned (.tuple #[RV.zero.val, .int .i64 6]) ∧ Below w.heap.size w w' := by
  have x1 : ((n : Int) == 10) = false := beq_eq_false_iff_ne.2 (by omega)
  have x2 : ((n : Int) != 10) = true := bne_iff_ne.2 (by omega)
  clear h
  go_enter Tryz.func10, Tryz.ntmps10
  go_upto_region 2 with fail
  go_wp2
  exact bodyPost_ret (v := .tuple #[.agg #[.string ⟨#[]⟩, .int .i64 0, .int .i64 0, .int .i64 0, .int .i64 0, .int .i64 0, .int .i64 0, .int .i64 0, .int .i64 0, .int .i64 0, .string ⟨#[]⟩], .int .i64 6]) (by simp (maxDischargeDepth := 9) [results, Tryz.results10, go_sem]) rfl ⟨rfl, by repeat (first | with_reducible exact Below.refl _ _ | with_reducible refine Below.setCell ?_ (by exact Nat.le_refl _) _ | refine Below.alloc ?_ (by simp) _)⟩
theorem rprule_to (v : Value) (L : List (List UInt8)) (c : Int) (r : RV) (w : World) (hv : TxtV w v L) (h8 : ∀ t ∈ L, t.length ≤ 1000) (hL : L.length ≤ 1000000) (h : Hid (ruP L = (c, r))) :
    Calls Tryz.prog 10 #[v] w fun e w' => e = .returned (.tuple #[r.val, .int .i64 c]) ∧ Below w.heap.size w w' := by
  by_cases hl : L.length = 10
  · match L, hl, hv, h8, h with
    | [f0, f1, f2, f3, f4, f5, f6, f7, f8, f9], _, hv, h8, h =>
      obtain ⟨b, off, cp, rfl, hb, hc⟩ := hv.form (by simp)
      exact rprule10 b off cp f0 f1 f2 f3 f4 f5 f6 f7 f8 f9 c r w hb (hc 0 (by simp)) (h8 _ (by simp)) (hc 1 (by simp)) (h8 _ (by simp)) (hc 2 (by simp)) (h8 _ (by simp)) (hc 3 (by simp)) (h8 _ (by simp)) (hc 4 (by simp)) (h8 _ (by simp)) (hc 5 (by simp)) (h8 _ (by simp)) (hc 6 (by simp)) (h8 _ (by simp)) (hc 7 (by simp)) (h8 _ (by simp)) (hc 8 (by simp)) (h8 _ (by simp)) (hc 9 (by simp)) (h8 _ (by simp)) h
  · obtain ⟨a, cp, rfl⟩ := hv.slice
    have e := h.out
    rw [ruP, ruX_len hl] at e
    obtain ⟨rfl, rfl⟩ := Prod.mk.inj (show ((6 : Int), RV.zero) = (c, r) from e)
    exact rprule_len a L.length cp w hL hl
theorem ruE_10 {r : RV} (h : chkB r = false) : ruE r = 10 := (rt_no h).2
theorem ruE_0 {r : RV} (h : chkB r = true) : ruE r = 0 := (rt_yes h).2
theorem texts_b (v u : Value) (L : List (List UInt8)) (w : World) (hv : TxtV w v L) (hu : TxtV w u L) (hL : L.length ≤ 1000000) :
    Calls Tryz.prog 15 #[v, u] w fun e w' => e = .returned (.bool true) ∧ Below w.heap.size w w' :=
  (Opn.texts_any v u L L w hv hu hL hL).mono fun _ _ ⟨b', he, hb, m, hw⟩ => ⟨by rw [he, hb.out, decide_eq_true rfl], by rw [hw]; exact ⟨rfl, rfl, rfl, Nat.le_refl _, fun _ _ => rfl⟩⟩
set_option maxHeartbeats 12800000 in
set_option maxRecDepth 100000 in
theorem rex_go (nm lt : List UInt8) (fr tu mo k v d n c sv : Int) (A : Option Addr) (N cp : Nat) (ls : Nat → ByteArray) (s : ByteArray) (w : World) (hp : Pow w) (hm : Wrd.MaxL w) (m0 : nm.length ≤ maxLen) (m1 : lt.length ≤ maxLen) (hs : s.size ≤ maxLen) (hN : N ≤ maxLen) (hl : Opn.Strs A N ls w) :
    Calls Tryz.prog 3 #[.agg #[.string ⟨nm.toArray⟩, .int .i64 fr, .int .i64 tu, .int .i64 mo, .int .i64 k, .int .i64 v, .int .i64 d, .int .i64 n, .int .i64 c, .int .i64 sv, .string ⟨lt.toArray⟩], .slice A N cp, .string s] w fun e w' => e = .returned (.bool true) ∧ Below w.heap.size w w' := by
  have HP := Lib.hid hp
  have HM := Lib.hid hm
  have HL := Lib.hid hl
  have HN := Lib.hid hN
  unfold maxLen at m0 m1 hs
  clear hp hm hl hN
  have zn : (⟨nm.toArray⟩ : ByteArray).size = nm.length := rfl
  have zl : (⟨lt.toArray⟩ : ByteArray).size = lt.length := rfl
  go_enter Tryz.func3, Tryz.ntmps3
  go_upto_region 0 with fail
  go_cut [3] (fun p w1 => p = .pointer (some ⟨w.heap.size, 0, none⟩) ∧ Hid (Cs w.heap.size w1 [.string ⟨nm.toArray⟩, .int .i64 fr, .int .i64 tu, .int .i64 mo, .int .i64 k, .int .i64 v, .int .i64 d, .int .i64 n, .int .i64 c, .int .i64 sv, .string ⟨lt.toArray⟩]) ∧ Hid (Below w.heap.size w w1))
  case first =>
    go_wp2
    go_meet
    exact ⟨rfl, Lib.hid (Cs.new w _ _), Lib.hid ((Below.refl w.heap.size w).alloc (Nat.le_refl _) _)⟩
  case rest =>
  obtain ⟨w1, rfl⟩ : ∃ x : World, x = wc := ⟨_, rfl⟩
  obtain ⟨rfl, C1, B1⟩ := hcut
  have c0 := (C1.out.2 0 _ rfl).1
  have c10 := (C1.out.2 10 _ rfl).1
  by_cases e1 : 200 < nm.length
  · go_wp2
    go_ret
    exact ⟨rfl, B1.out⟩
  by_cases e2 : 200 < lt.length
  · go_wp2
    go_ret
    exact ⟨rfl, B1.out⟩
  by_cases e3 : 200 < s.size
  · go_wp2
    go_ret
    exact ⟨rfl, B1.out⟩
  go_wp2_with fail
  refine (Opn.heavy_to A N cp ls _ HN.out (HL.out.below B1.out)).mono ?_
  rintro e w2 ⟨hb, rfl, hhb, m2⟩
  have C2 := Lib.hid (C1.out.below m2)
  have B2 := Lib.hid (bstep B1.out m2)
  clear C1 B1 m2 c0 c10
  cases hb with
  | true =>
    go_wp2
    go_ret
    exact ⟨rfl, B2.out⟩
  | false =>
  obtain ⟨n60, h800⟩ := hhb.out rfl
  clear hhb
  obtain ⟨L, hLL⟩ : ∃ L, lst ls N = L := ⟨_, rfl⟩
  have hlen : L.length = N := by rw [← hLL, Opn.lst_len]
  have h8 : ∀ t ∈ L, t.length ≤ 1000 := by
    intro t ht
    obtain ⟨j, hj, rfl⟩ := List.mem_iff_getElem.1 ht
    have hjN : j < N := by rw [← hlen]; exact hj
    have := h800 j hjN
    subst hLL
    rw [Opn.lst_at]
    have e : (ls j).data.toList.length = (ls j).size := by simp
    omega
  have H8 := Lib.hid h8
  have HLEN : Hid (L.length ≤ 1000000) := Lib.hid (by omega)
  have TV : Hid (TxtV w (.slice A N cp) L) := Lib.hid (by rw [← hLL]; exact TxtV.of_strs HL.out)
  obtain ⟨pc, ⟨pn, p1, p2, p3, p4, p5, p6, p7, p8, p9, pl⟩, hpr⟩ : ∃ a b, ruP L = (a, b) := ⟨_, _, rfl⟩
  have HPR := Lib.hid hpr
  have HLL := Lib.hid hLL
  have H800 := Lib.hid h800
  have Z1 : Hid (nm.length ≤ 200) := Lib.hid (by omega)
  have Z2 : Hid (lt.length ≤ 200) := Lib.hid (by omega)
  have Z3 : Hid (s.size ≤ 200) := Lib.hid (by omega)
  clear hpr hLL h800 h8 hlen
  go_wp2_with fail
  refine (Opn.twint_to A N cp ls _ n60 (HL.out.below B2.out)).mono ?_
  rintro e w3 ⟨tv, rfl, ht3, m3⟩
  rw [HLL.out] at ht3
  have T3 := Lib.hid ht3
  have C3 := Lib.hid (C2.out.below m3)
  have B3 := Lib.hid (bstep B2.out m3)
  clear C2 B2 m3 ht3
  go_upto_region 4 with fail
  go_cut [8, 9] (fun x y w4 => BlkIs w3.heap.size w4 x [.string ⟨pn.toArray⟩, .int .i64 p1, .int .i64 p2, .int .i64 p3, .int .i64 p4, .int .i64 p5, .int .i64 p6, .int .i64 p7, .int .i64 p8, .int .i64 p9, .string ⟨pl.toArray⟩] ∧ y = .int .i64 pc ∧ Hid (TxtV w4 tv L) ∧ Hid (Cs w.heap.size w4 [.string ⟨nm.toArray⟩, .int .i64 fr, .int .i64 tu, .int .i64 mo, .int .i64 k, .int .i64 v, .int .i64 d, .int .i64 n, .int .i64 c, .int .i64 sv, .string ⟨lt.toArray⟩]) ∧ Hid (Below w.heap.size w w4))
  case first =>
    go_wp2_with fail
    refine (rparse_to tv L pc ⟨pn, p1, p2, p3, p4, p5, p6, p7, p8, p9, pl⟩ _ (HM.out.stays B3.out) T3.out H8.out HLEN.out HPR).mono ?_
    rintro e w4 ⟨rfl, m4⟩
    simp only [RV.val]
    have hz := m4.size
    go_wp2
    go_meet
    have M5 := m4.alloc m4.size (Obj.cells #[.string ⟨pn.toArray⟩, .int .i64 p1, .int .i64 p2, .int .i64 p3, .int .i64 p4, .int .i64 p5, .int .i64 p6, .int .i64 p7, .int .i64 p8, .int .i64 p9, .string ⟨pl.toArray⟩] 27)
    exact ⟨BlkIs.newer hz _ _, rfl, Lib.hid (T3.out.below M5), Lib.hid (C3.out.below M5), Lib.hid (bstep B3.out M5)⟩
  case rest =>
  obtain ⟨w4, rfl⟩ : ∃ x : World, x = wc := ⟨_, rfl⟩
  obtain ⟨⟨gp, rfl, gp1, hpp⟩, rfl, T4, C4, B4⟩ := hcut
  have hg0 := C3.out.1
  have D1 : Hid (gp ≠ w.heap.size) := Lib.hid (by omega)
  have P4 := Lib.hid hpp
  clear hpp T3 C3 B3 hg0 gp1
  obtain ⟨X, hX⟩ : ∃ X, ruT ⟨nm, fr, tu, mo, k, v, d, n, c, sv, lt⟩ = X := ⟨_, rfl⟩
  obtain ⟨E, hE⟩ : ∃ E, ruE ⟨nm, fr, tu, mo, k, v, d, n, c, sv, lt⟩ = E := ⟨_, rfl⟩
  have HX := Lib.hid (And.intro hX hE)
  clear hX hE
  obtain ⟨⟨z0, z1, z2, z3, z4, z5, z6, z7, z8, z9, z10⟩, _⟩ := cells11 C4.out
  go_wp2_with fail
  refine (rtext_to nm lt fr tu mo k v d n c sv X E _ (HP.out.stays B4.out) (by have := Z1.out; omega) (by have := Z2.out; omega) HX).mono ?_
  rintro e w5 ⟨rfl, m5⟩
  have T5 := Lib.hid (T4.out.below m5)
  have C5 := Lib.hid (C4.out.below m5)
  have P5 := Lib.hid (P4.out.below m5)
  have B5 := Lib.hid (bstep B4.out m5)
  clear T4 C4 P4 B4 m5 z0 z1 z2 z3 z4 z5 z6 z7 z8 z9 z10
  go_upto_region 6 with fail
  go_cut [12, 13] (fun x y w6 => BlkIs w5.heap.size w6 x [.string ⟨pn.toArray⟩, .int .i64 p1, .int .i64 p2, .int .i64 p3, .int .i64 p4, .int .i64 p5, .int .i64 p6, .int .i64 p7, .int .i64 p8, .int .i64 p9, .string ⟨pl.toArray⟩] ∧ y = .int .i64 pc ∧ Hid (TxtV w6 tv L) ∧ Hid (Cs w.heap.size w6 [.string ⟨nm.toArray⟩, .int .i64 fr, .int .i64 tu, .int .i64 mo, .int .i64 k, .int .i64 v, .int .i64 d, .int .i64 n, .int .i64 c, .int .i64 sv, .string ⟨lt.toArray⟩]) ∧ Hid (Cs gp w6 [.string ⟨pn.toArray⟩, .int .i64 p1, .int .i64 p2, .int .i64 p3, .int .i64 p4, .int .i64 p5, .int .i64 p6, .int .i64 p7, .int .i64 p8, .int .i64 p9, .string ⟨pl.toArray⟩]) ∧ Hid (Below w.heap.size w w6))
  case first =>
    go_wp2_with fail
    refine (rprule_to _ L pc ⟨pn, p1, p2, p3, p4, p5, p6, p7, p8, p9, pl⟩ _ (TV.out.below B5.out) H8.out HLEN.out HPR).mono ?_
    rintro e w6 ⟨rfl, m6⟩
    simp only [RV.val]
    have hz := m6.size
    go_wp2
    go_meet
    have M7 := m6.alloc m6.size (Obj.cells #[.string ⟨pn.toArray⟩, .int .i64 p1, .int .i64 p2, .int .i64 p3, .int .i64 p4, .int .i64 p5, .int .i64 p6, .int .i64 p7, .int .i64 p8, .int .i64 p9, .string ⟨pl.toArray⟩] 27)
    exact ⟨BlkIs.newer hz _ _, rfl, Lib.hid (T5.out.below M7), Lib.hid (C5.out.below M7), Lib.hid (P5.out.below M7), Lib.hid (bstep B5.out M7)⟩
  case rest =>
  obtain ⟨w6, rfl⟩ : ∃ x : World, x = wc := ⟨_, rfl⟩
  obtain ⟨⟨gq, rfl, gq1, hqq⟩, rfl, T6, C6, P6, B6⟩ := hcut
  have Q6 := Lib.hid hqq
  clear hqq T5 C5 P5 B5 gq1
  obtain ⟨S, hS⟩ : ∃ S, s.data.toList = S := ⟨_, rfl⟩
  have HS := Lib.hid hS
  obtain ⟨b1, hb1⟩ : ∃ b, nameB S = b := ⟨_, rfl⟩
  obtain ⟨b2, hb2⟩ : ∃ b, Fm.letB S = b := ⟨_, rfl⟩
  have HB1 := Lib.hid hb1
  have HB2 := Lib.hid hb2
  clear hS hb1 hb2
  go_upto_region 7 with fail
  go_cut [77] (fun x w7 => x = .bool false ∧ Hid (Cs w.heap.size w7 [.string ⟨nm.toArray⟩, .int .i64 fr, .int .i64 tu, .int .i64 mo, .int .i64 k, .int .i64 v, .int .i64 d, .int .i64 n, .int .i64 c, .int .i64 sv, .string ⟨lt.toArray⟩]) ∧ Hid (Below w.heap.size w w7))
  case first =>
    obtain ⟨⟨z0, z1, z2, z3, z4, z5, z6, z7, z8, z9, z10⟩, _⟩ := cells11 P6.out
    obtain ⟨⟨u0, u1, u2, u3, u4, u5, u6_, u7, u8, u9, u10⟩, _⟩ := cells11 Q6.out
    go_wp2_with fail
    refine (nam_to s S b1 _ (by omega) HS HB1).mono ?_
    rintro e x1 ⟨rfl, rfl⟩
    go_wp2_with fail
    refine (rnam_to s S b1 _ (by have := Z3.out; omega) HS HB1).mono ?_
    rintro e x1 ⟨rfl, rfl⟩
    cases b1
    all_goals
      go_wp2_with fail
      refine (let2_to s S b2 _ (by omega) HS HB2).mono ?_
      rintro e x1 ⟨rfl, rfl⟩
      go_wp2_with fail
      refine (Fm.rlet_to s S b2 _ (by have := Z3.out; omega) HS HB2).mono ?_
      rintro e x1 ⟨rfl, rfl⟩
      cases b2
    all_goals
      go_wp2_with fail
      refine (texts_b tv _ L _ T6.out (TV.out.below B6.out) HLEN.out).mono ?_
      rintro e w7 ⟨rfl, m7⟩
      go_wp2
      go_meet
      exact ⟨rfl, Lib.hid (C6.out.below m7), Lib.hid (bstep B6.out m7)⟩
  case rest =>
  obtain ⟨w7, rfl⟩ : ∃ x : World, x = wc := ⟨_, rfl⟩
  obtain ⟨rfl, C7, B7⟩ := hcut
  clear T6 C6 P6 Q6 B6 HS HB1 HB2
  obtain ⟨⟨z0, z1, z2, z3, z4, z5, z6, z7, z8, z9, z10⟩, _⟩ := cells11 C7.out
  obtain ⟨ck, hck⟩ : ∃ b, chkB ⟨nm, fr, tu, mo, k, v, d, n, c, sv, lt⟩ = b := ⟨_, rfl⟩
  have HCK := Lib.hid hck
  clear hck
  go_wp2_with fail
  refine (rrule_to nm lt fr tu mo k v d n c sv ck _ (by have := Z1.out; omega) (by have := Z2.out; omega) HCK).mono ?_
  rintro e w8 ⟨rfl, m8⟩
  clear z0 z1 z2 z3 z4 z5 z6 z7 z8 z9 z10
  have C8 := Lib.hid (C7.out.below m8)
  have B8 := Lib.hid (bstep B7.out m8)
  clear m8 C7 B7
  obtain ⟨⟨z0, z1, z2, z3, z4, z5, z6, z7, z8, z9, z10⟩, _⟩ := cells11 C8.out
  cases ck with
  | false =>
    obtain ⟨hx1, hx2⟩ := rt_no HCK.out
    have e1 : E = 10 := by rw [← HX.out.2, hx2]
    have e2 : X = [] := by rw [← HX.out.1, hx1]
    subst e1 e2
    go_wp2_with fail
    refine (rchk_to nm lt fr tu mo k v d n c sv 10 _ (by have := Z1.out; omega) (by have := Z2.out; omega) (Lib.hid HX.out.2)).mono ?_
    rintro e w9 ⟨rfl, m9⟩
    have B9 := Lib.hid (bstep B8.out m9)
    clear m9
    go_wp2_with fail
    refine (wakes9_any _ (HP.out.stays B9.out) (HM.out.stays B9.out)).mono ?_
    rintro e w10 ⟨rfl, m10⟩
    go_wp2
    go_ret
    exact ⟨rfl, bstep B9.out m10⟩
  | true =>
    obtain ⟨hx1, hx2⟩ := rt_yes HCK.out
    have e1 : E = 0 := by rw [← HX.out.2, hx2]
    have HXT : Hid (spJ (ruF ⟨nm, fr, tu, mo, k, v, d, n, c, sv, lt⟩) = X) := Lib.hid (by rw [← HX.out.1, hx1])
    subst e1
    go_wp2_with fail
    refine (rchk_to nm lt fr tu mo k v d n c sv 0 _ (by have := Z1.out; omega) (by have := Z2.out; omega) (Lib.hid HX.out.2)).mono ?_
    rintro e w9 ⟨rfl, m9⟩
    clear z0 z1 z2 z3 z4 z5 z6 z7 z8 z9 z10
    have C9 := Lib.hid (C8.out.below m9)
    have B9 := Lib.hid (bstep B8.out m9)
    clear m9 C8 B8
    obtain ⟨⟨z0, z1, z2, z3, z4, z5, z6, z7, z8, z9, z10⟩, _⟩ := cells11 C9.out
    go_wp2_with fail
    refine (rrtext_to nm lt fr tu mo k v d n c sv X _ HCK HXT).mono ?_
    rintro e w10 ⟨rfl, m10⟩
    have B10 := Lib.hid (bstep B9.out m10)
    clear m10
    go_wp2_with fail
    refine (wakes9_any _ (HP.out.stays B10.out) (HM.out.stays B10.out)).mono ?_
    rintro e w11 ⟨rfl, m11⟩
    go_wp2
    go_ret
    exact ⟨rfl, bstep B10.out m11⟩
end Rul
end Go.Proofs.YtopmcelfmkeamaaGreatDoor
