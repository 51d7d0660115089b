/-
  Contracts of package zone: parse and Era of whatever fields. (Written by gen/gen_zonq.py.)
-/
import Derived.Test.YthefgagmjamdkaaGreatDoorZonP4
import Derived.Test.YthefgagmjamdkaaGreatDoorZonP5
import Derived.Test.YthefgagmjamdkaaGreatDoorZonP6
import Derived.Test.YthefgagmjamdkaaGreatDoorZonP7
import Derived.Test.YthefgagmjamdkaaGreatDoorMrgF
namespace Go.Proofs.YthefgagmjamdkaaGreatDoor
open Go.RowKit
namespace Zon
open Sol Clk Cel Rul
open Opn (TxtV)
theorem erX_len {L : List (List UInt8)} (h : L.length ≤ 2 ∨ 7 < L.length) : erX L = (6, EV.zero) := by
  match L, h with
  | [], _ => rfl
  | [_], _ => rfl
  | [_, _], _ => rfl
  | [_, _, _], h => exact absurd h (by simp)
  | _ :: _ :: _ :: _ :: Q, h => rw [erX, if_pos (by simp only [List.length_cons] at h ⊢; omega)]
theorem erX_bd {L : List (List UInt8)} {r : EV} (h : erX L = (0, r)) (h8 : ∀ t ∈ L, t.length ≤ 1000) : r.ru.length ≤ 1000 ∧ r.fm.length ≤ 1000 := by
  have sv : ∀ S : List UInt8, S.length ≤ 1000 → (svP S).2.2.length ≤ 1000 := by
    intro S hS
    unfold svP
    split
    · simp
    · split
      · simp
      · exact hS
  match L, h, h8 with
  | [], h, _ => exact absurd (Prod.mk.inj (show ((6 : Int), EV.zero) = (0, r) from h)).1 (by decide)
  | [_], h, _ => exact absurd (Prod.mk.inj (show ((6 : Int), EV.zero) = (0, r) from h)).1 (by decide)
  | [_, _], h, _ => exact absurd (Prod.mk.inj (show ((6 : Int), EV.zero) = (0, r) from h)).1 (by decide)
  | f0 :: f1 :: f2 :: R, h, h8 =>
    have s1 := sv f1 (h8 _ (by simp))
    have s2 := h8 f2 (by simp)
    match R, h with
    | [], h =>
      rw [erX] at h
      repeat' split at h
      all_goals
        obtain ⟨h1, h2⟩ := Prod.mk.inj h
        first
          | exact absurd h1 (by decide)
          | exact absurd h1 (by assumption)
          | (subst h2; exact ⟨s1, s2⟩)
    | f3 :: Q, h =>
      rw [erX] at h
      repeat' split at h
      all_goals
        obtain ⟨h1, h2⟩ := Prod.mk.inj h
        first
          | exact absurd h1 (by decide)
          | exact absurd h1 (by assumption)
          | (subst h2; exact ⟨s1, s2⟩)
theorem zparse_to (v : Value) (L : List (List UInt8)) (c : Int) (r : EV) (w : World) (hm : Wrd.MaxL w) (hv : TxtV w v L) (h8 : ∀ t ∈ L, t.length ≤ 1000) (hL : L.length ≤ 1000000) (h : Hid (erX L = (c, r))) :
    Calls Tryz.prog 20 #[v] w fun e w' => ∃ x : EV, e = .returned (.tuple #[x.val, .int .i64 c]) ∧ (c = 0 → x = r) ∧ Below w.heap.size w w' := by
  have hml : 0 < w.heap.size := by obtain ⟨_, h1, _⟩ := hm; exact h1
  by_cases hlo : L.length ≤ 2
  · obtain ⟨a, cp, rfl⟩ := hv.slice
    have e := h.out
    rw [erX_len (Or.inl hlo)] at e
    obtain ⟨rfl, rfl⟩ := Prod.mk.inj e
    exact zp_lo a L.length cp _ w hlo
  by_cases hhi : 7 < L.length
  · obtain ⟨a, cp, rfl⟩ := hv.slice
    have e := h.out
    rw [erX_len (Or.inr hhi)] at e
    obtain ⟨rfl, rfl⟩ := Prod.mk.inj e
    exact zp_hi a L.length cp _ w hhi hL
  match L, hlo, hhi, hv, h8, h with
  | [], hlo, _, _, _, _ => exact absurd (show ([] : List (List UInt8)).length ≤ 2 by simp) hlo
  | [_], hlo, _, _, _, _ => exact absurd (by simp) hlo
  | [_, _], hlo, _, _, _, _ => exact absurd (by simp) hlo
  | [f0, f1, f2], _, _, hv, h8, h =>
    obtain ⟨b, off, cp, rfl, hb, hc⟩ := hv.form (by simp)
    exact zp3 b off cp f0 f1 f2 c r w hb (hc 0 (by simp)) (h8 _ (by simp)) (hc 1 (by simp)) (h8 _ (by simp)) (hc 2 (by simp)) (h8 _ (by simp)) h
  | [f0, f1, f2, f3], _, _, hv, h8, h =>
    obtain ⟨b, off, cp, rfl, hb, hc⟩ := hv.form (by simp)
    exact zp4 b off cp f0 f1 f2 f3 c r w hm hml hb (hc 0 (by simp)) (h8 _ (by simp)) (hc 1 (by simp)) (h8 _ (by simp)) (hc 2 (by simp)) (h8 _ (by simp)) (hc 3 (by simp)) (h8 _ (by simp)) h
  | [f0, f1, f2, f3, f4], _, _, hv, h8, h =>
    obtain ⟨b, off, cp, rfl, hb, hc⟩ := hv.form (by simp)
    exact zp5 b off cp f0 f1 f2 f3 f4 c r w hm hml hb (hc 0 (by simp)) (h8 _ (by simp)) (hc 1 (by simp)) (h8 _ (by simp)) (hc 2 (by simp)) (h8 _ (by simp)) (hc 3 (by simp)) (h8 _ (by simp)) (hc 4 (by simp)) (h8 _ (by simp)) h
  | [f0, f1, f2, f3, f4, f5], _, _, hv, h8, h =>
    obtain ⟨b, off, cp, rfl, hb, hc⟩ := hv.form (by simp)
    exact zp6 b off cp f0 f1 f2 f3 f4 f5 c r w hm hml hb (hc 0 (by simp)) (h8 _ (by simp)) (hc 1 (by simp)) (h8 _ (by simp)) (hc 2 (by simp)) (h8 _ (by simp)) (hc 3 (by simp)) (h8 _ (by simp)) (hc 4 (by simp)) (h8 _ (by simp)) (hc 5 (by simp)) (h8 _ (by simp)) h
  | [f0, f1, f2, f3, f4, f5, f6], _, _, hv, h8, h =>
    obtain ⟨b, off, cp, rfl, hb, hc⟩ := hv.form (by simp)
    exact zp7 b off cp f0 f1 f2 f3 f4 f5 f6 c r w hm hml hb (hc 0 (by simp)) (h8 _ (by simp)) (hc 1 (by simp)) (h8 _ (by simp)) (hc 2 (by simp)) (h8 _ (by simp)) (hc 3 (by simp)) (h8 _ (by simp)) (hc 4 (by simp)) (h8 _ (by simp)) (hc 5 (by simp)) (h8 _ (by simp)) (hc 6 (by simp)) (h8 _ (by simp)) h
  | _ :: _ :: _ :: _ :: _ :: _ :: _ :: _ :: _, _, hhi, _, _, _ => exact absurd (by simp only [List.length_cons]; omega) hhi
set_option maxHeartbeats 12800000 in
set_option maxRecDepth 100000 in
theorem era_to (v : Value) (L : List (List UInt8)) (c : Int) (r : EV) (w : World) (hA : Civ.Ahead w) (hm : Wrd.MaxL w) (hv : TxtV w v L) (h8 : ∀ t ∈ L, t.length ≤ 1000) (hL : L.length ≤ 1000000) (h : Hid (erP L = (c, r))) :
    Calls Tryz.prog 9 #[v] w fun e w' => e = .returned (.tuple #[r.val, .int .i64 c]) ∧ Below w.heap.size w w' := by
  obtain ⟨c1, r1, hx⟩ : ∃ a b, erX L = (a, b) := ⟨_, _, rfl⟩
  have HX := Lib.hid hx
  have HH : (if c1 ≠ 0 then (c1, EV.zero) else if rgB r1 = true then (0, r1) else (11, EV.zero)) = (c, r) := by
    have := h.out
    rw [erP, hx] at this
    exact this
  have HP := Lib.hid (fun (W : World) (hb : Below w.heap.size w W) => zparse_to v L c1 r1 W (hm.stays hb) (hv.below hb) h8 hL HX)
  have HB := fun (e : c1 = 0) => erX_bd (r := r1) (by rw [hx, e]) h8
  have HAH := Lib.hid hA
  have HM := Lib.hid hm
  clear h hx hA hm hv HX h8 hL
  by_cases e0 : c1 = 0
  case neg =>
    rw [if_pos e0] at HH
    obtain ⟨rfl, rfl⟩ := Prod.mk.inj HH
    have x1 : (c1 == 0) = false := beq_eq_false_iff_ne.2 e0
    have x2 : (c1 != 0) = true := bne_iff_ne.2 e0
    clear HH HB e0
    go_enter Tryz.func9, Tryz.ntmps9
    go_wp2_with fail
    refine (HP.out _ ((Below.refl _ _).alloc (Nat.le_refl _) _)).mono ?_
    rintro e w1 ⟨⟨st, kd, sv, ru, fm, un, yr, mo, k, v, d, n, ak⟩, rfl, hx, hb⟩
    have C1 := Lib.hid (Cs.below (Cs.new w [.int .i64 0, .int .i64 0, .int .i64 0, .string ⟨#[]⟩, .string ⟨#[]⟩, .bool false, .int .i64 0, .int .i64 0, .int .i64 0, .int .i64 0, .int .i64 0, .int .i64 0, .int .i64 0] 30) hb)
    have B1 := Lib.hid (bstep ((Below.refl w.heap.size w).alloc (Nat.le_refl _) _) hb)
    clear hx hb
    have CA := Lib.hid (C1.out.alloc (Obj.cells #[.int .i64 st, .int .i64 kd, .int .i64 sv, .string ⟨ru.toArray⟩, .string ⟨fm.toArray⟩, .bool un, .int .i64 yr, .int .i64 mo, .int .i64 k, .int .i64 v, .int .i64 d, .int .i64 n, .int .i64 ak] 30))
    have g1 : w.heap.size ≠ w1.heap.size := by have := C1.out.1; omega
    have g2 : w1.heap.size ≠ w.heap.size := by have := C1.out.1; omega
    have z0 := (CA.out.2 0 _ rfl).1
    have y0 := (CA.out.2 0 _ rfl).2
    have z1 := (CA.out.2 1 _ rfl).1
    have y1 := (CA.out.2 1 _ rfl).2
    have z2 := (CA.out.2 2 _ rfl).1
    have y2 := (CA.out.2 2 _ rfl).2
    have z3 := (CA.out.2 3 _ rfl).1
    have y3 := (CA.out.2 3 _ rfl).2
    have z4 := (CA.out.2 4 _ rfl).1
    have y4 := (CA.out.2 4 _ rfl).2
    have z5 := (CA.out.2 5 _ rfl).1
    have y5 := (CA.out.2 5 _ rfl).2
    have z6 := (CA.out.2 6 _ rfl).1
    have y6 := (CA.out.2 6 _ rfl).2
    have z7 := (CA.out.2 7 _ rfl).1
    have y7 := (CA.out.2 7 _ rfl).2
    have z8 := (CA.out.2 8 _ rfl).1
    have y8 := (CA.out.2 8 _ rfl).2
    have z9 := (CA.out.2 9 _ rfl).1
    have y9 := (CA.out.2 9 _ rfl).2
    have z10 := (CA.out.2 10 _ rfl).1
    have y10 := (CA.out.2 10 _ rfl).2
    have z11 := (CA.out.2 11 _ rfl).1
    have y11 := (CA.out.2 11 _ rfl).2
    have z12 := (CA.out.2 12 _ rfl).1
    have y12 := (CA.out.2 12 _ rfl).2
    simp only [EV.val]
    go_wp2
    exact bodyPost_ret (v := .tuple #[.agg #[.int .i64 0, .int .i64 0, .int .i64 0, .string ⟨#[]⟩, .string ⟨#[]⟩, .bool false, .int .i64 0, .int .i64 0, .int .i64 0, .int .i64 0, .int .i64 0, .int .i64 0, .int .i64 0], .int .i64 c1]) (by simp (maxDischargeDepth := 9) [results, Tryz.results9, go_sem, z0, z1, z2, z3, z4, z5, z6, z7, z8, z9, z10, z11, z12]) rfl ⟨rfl, by repeat (first | with_reducible exact B1.out | with_reducible refine Below.setCell ?_ (by exact Nat.le_refl _) _ | with_reducible refine Below.alloc ?_ (by exact B1.out.size) _)⟩
  subst e0
  rw [if_neg (fun h => h rfl)] at HH
  obtain ⟨l1, l2⟩ := HB rfl
  clear HB
  obtain ⟨st, kd, sv, ru, fm, un, yr, mo, k, v, d, n, ak⟩ := r1
  have l1 : ru.length ≤ 1000 := l1
  have l2 : fm.length ≤ 1000 := l2
  cases hc : rgB ⟨st, kd, sv, ru, fm, un, yr, mo, k, v, d, n, ak⟩ with
  | false =>
    rw [hc, if_neg (by decide)] at HH
    obtain ⟨rfl, rfl⟩ := Prod.mk.inj HH
    have HE := Lib.hid hc
    clear HH hc
    go_enter Tryz.func9, Tryz.ntmps9
    go_wp2_with fail
    refine (HP.out _ ((Below.refl _ _).alloc (Nat.le_refl _) _)).mono ?_
    rintro e w1 ⟨x, rfl, hx, hb⟩
    obtain rfl := hx (by first | rfl | trivial)
    have C1 := Lib.hid (Cs.below (Cs.new w [.int .i64 0, .int .i64 0, .int .i64 0, .string ⟨#[]⟩, .string ⟨#[]⟩, .bool false, .int .i64 0, .int .i64 0, .int .i64 0, .int .i64 0, .int .i64 0, .int .i64 0, .int .i64 0] 30) hb)
    have B1 := Lib.hid (bstep ((Below.refl w.heap.size w).alloc (Nat.le_refl _) _) hb)
    clear hx hb
    simp only [EV.val]
    go_wp2_with fail
    refine (isr_to st kd sv ru fm un yr mo k v d n ak false _ (HAH.out.stays (B1.out.alloc B1.out.size _)) (HM.out.stays (B1.out.alloc B1.out.size _)) (by omega) (by omega) HE).mono ?_
    rintro e w2 ⟨rfl, hb⟩
    have C2 := Lib.hid ((C1.out.alloc _).below hb)
    have B2 := Lib.hid (bstep (B1.out.alloc B1.out.size _) hb)
    have E2 := Lib.hid (Cs.below (Cs.new w1 [.int .i64 st, .int .i64 kd, .int .i64 sv, .string ⟨ru.toArray⟩, .string ⟨fm.toArray⟩, .bool un, .int .i64 yr, .int .i64 mo, .int .i64 k, .int .i64 v, .int .i64 d, .int .i64 n, .int .i64 ak] 30) hb)
    have u0 := (E2.out.2 0 _ rfl).1
    have u1 := (E2.out.2 1 _ rfl).1
    have u2 := (E2.out.2 2 _ rfl).1
    have u3 := (E2.out.2 3 _ rfl).1
    have u4 := (E2.out.2 4 _ rfl).1
    have u5 := (E2.out.2 5 _ rfl).1
    have u6 := (E2.out.2 6 _ rfl).1
    have u7 := (E2.out.2 7 _ rfl).1
    have u8 := (E2.out.2 8 _ rfl).1
    have u9 := (E2.out.2 9 _ rfl).1
    have u10 := (E2.out.2 10 _ rfl).1
    have u11 := (E2.out.2 11 _ rfl).1
    have u12 := (E2.out.2 12 _ rfl).1
    have g1 : w.heap.size ≠ w1.heap.size := by have := C1.out.1; omega
    have g2 : w1.heap.size ≠ w.heap.size := by have := C1.out.1; omega
    clear hb C1 B1
    have z0 := (C2.out.2 0 _ rfl).1
    have y0 := (C2.out.2 0 _ rfl).2
    have z1 := (C2.out.2 1 _ rfl).1
    have y1 := (C2.out.2 1 _ rfl).2
    have z2 := (C2.out.2 2 _ rfl).1
    have y2 := (C2.out.2 2 _ rfl).2
    have z3 := (C2.out.2 3 _ rfl).1
    have y3 := (C2.out.2 3 _ rfl).2
    have z4 := (C2.out.2 4 _ rfl).1
    have y4 := (C2.out.2 4 _ rfl).2
    have z5 := (C2.out.2 5 _ rfl).1
    have y5 := (C2.out.2 5 _ rfl).2
    have z6 := (C2.out.2 6 _ rfl).1
    have y6 := (C2.out.2 6 _ rfl).2
    have z7 := (C2.out.2 7 _ rfl).1
    have y7 := (C2.out.2 7 _ rfl).2
    have z8 := (C2.out.2 8 _ rfl).1
    have y8 := (C2.out.2 8 _ rfl).2
    have z9 := (C2.out.2 9 _ rfl).1
    have y9 := (C2.out.2 9 _ rfl).2
    have z10 := (C2.out.2 10 _ rfl).1
    have y10 := (C2.out.2 10 _ rfl).2
    have z11 := (C2.out.2 11 _ rfl).1
    have y11 := (C2.out.2 11 _ rfl).2
    have z12 := (C2.out.2 12 _ rfl).1
    have y12 := (C2.out.2 12 _ rfl).2
    go_wp2
    exact bodyPost_ret (v := .tuple #[.agg #[.int .i64 0, .int .i64 0, .int .i64 0, .string ⟨#[]⟩, .string ⟨#[]⟩, .bool false, .int .i64 0, .int .i64 0, .int .i64 0, .int .i64 0, .int .i64 0, .int .i64 0, .int .i64 0], .int .i64 11]) (by simp (maxDischargeDepth := 9) [results, Tryz.results9, go_sem, z0, z1, z2, z3, z4, z5, z6, z7, z8, z9, z10, z11, z12]) rfl ⟨rfl, by repeat (first | with_reducible exact B2.out | with_reducible refine Below.setCell ?_ (by exact Nat.le_refl _) _)⟩
  | true =>
    rw [hc, if_pos rfl] at HH
    obtain ⟨rfl, rfl⟩ := Prod.mk.inj HH
    have HE := Lib.hid hc
    clear HH hc
    go_enter Tryz.func9, Tryz.ntmps9
    go_wp2_with fail
    refine (HP.out _ ((Below.refl _ _).alloc (Nat.le_refl _) _)).mono ?_
    rintro e w1 ⟨x, rfl, hx, hb⟩
    obtain rfl := hx (by first | rfl | trivial)
    have C1 := Lib.hid (Cs.below (Cs.new w [.int .i64 0, .int .i64 0, .int .i64 0, .string ⟨#[]⟩, .string ⟨#[]⟩, .bool false, .int .i64 0, .int .i64 0, .int .i64 0, .int .i64 0, .int .i64 0, .int .i64 0, .int .i64 0] 30) hb)
    have B1 := Lib.hid (bstep ((Below.refl w.heap.size w).alloc (Nat.le_refl _) _) hb)
    clear hx hb
    simp only [EV.val]
    go_wp2_with fail
    refine (isr_to st kd sv ru fm un yr mo k v d n ak true _ (HAH.out.stays (B1.out.alloc B1.out.size _)) (HM.out.stays (B1.out.alloc B1.out.size _)) (by omega) (by omega) HE).mono ?_
    rintro e w2 ⟨rfl, hb⟩
    have C2 := Lib.hid ((C1.out.alloc _).below hb)
    have B2 := Lib.hid (bstep (B1.out.alloc B1.out.size _) hb)
    have E2 := Lib.hid (Cs.below (Cs.new w1 [.int .i64 st, .int .i64 kd, .int .i64 sv, .string ⟨ru.toArray⟩, .string ⟨fm.toArray⟩, .bool un, .int .i64 yr, .int .i64 mo, .int .i64 k, .int .i64 v, .int .i64 d, .int .i64 n, .int .i64 ak] 30) hb)
    have u0 := (E2.out.2 0 _ rfl).1
    have u1 := (E2.out.2 1 _ rfl).1
    have u2 := (E2.out.2 2 _ rfl).1
    have u3 := (E2.out.2 3 _ rfl).1
    have u4 := (E2.out.2 4 _ rfl).1
    have u5 := (E2.out.2 5 _ rfl).1
    have u6 := (E2.out.2 6 _ rfl).1
    have u7 := (E2.out.2 7 _ rfl).1
    have u8 := (E2.out.2 8 _ rfl).1
    have u9 := (E2.out.2 9 _ rfl).1
    have u10 := (E2.out.2 10 _ rfl).1
    have u11 := (E2.out.2 11 _ rfl).1
    have u12 := (E2.out.2 12 _ rfl).1
    have g1 : w.heap.size ≠ w1.heap.size := by have := C1.out.1; omega
    have g2 : w1.heap.size ≠ w.heap.size := by have := C1.out.1; omega
    clear hb C1 B1
    have z0 := (C2.out.2 0 _ rfl).1
    have y0 := (C2.out.2 0 _ rfl).2
    have z1 := (C2.out.2 1 _ rfl).1
    have y1 := (C2.out.2 1 _ rfl).2
    have z2 := (C2.out.2 2 _ rfl).1
    have y2 := (C2.out.2 2 _ rfl).2
    have z3 := (C2.out.2 3 _ rfl).1
    have y3 := (C2.out.2 3 _ rfl).2
    have z4 := (C2.out.2 4 _ rfl).1
    have y4 := (C2.out.2 4 _ rfl).2
    have z5 := (C2.out.2 5 _ rfl).1
    have y5 := (C2.out.2 5 _ rfl).2
    have z6 := (C2.out.2 6 _ rfl).1
    have y6 := (C2.out.2 6 _ rfl).2
    have z7 := (C2.out.2 7 _ rfl).1
    have y7 := (C2.out.2 7 _ rfl).2
    have z8 := (C2.out.2 8 _ rfl).1
    have y8 := (C2.out.2 8 _ rfl).2
    have z9 := (C2.out.2 9 _ rfl).1
    have y9 := (C2.out.2 9 _ rfl).2
    have z10 := (C2.out.2 10 _ rfl).1
    have y10 := (C2.out.2 10 _ rfl).2
    have z11 := (C2.out.2 11 _ rfl).1
    have y11 := (C2.out.2 11 _ rfl).2
    have z12 := (C2.out.2 12 _ rfl).1
    have y12 := (C2.out.2 12 _ rfl).2
    go_wp2
    exact bodyPost_ret (v := .tuple #[.agg #[.int .i64 st, .int .i64 kd, .int .i64 sv, .string ⟨ru.toArray⟩, .string ⟨fm.toArray⟩, .bool un, .int .i64 yr, .int .i64 mo, .int .i64 k, .int .i64 v, .int .i64 d, .int .i64 n, .int .i64 ak], .int .i64 0]) (by simp (maxDischargeDepth := 9) [results, Tryz.results9, go_sem, z0, z1, z2, z3, z4, z5, z6, z7, z8, z9, z10, z11, z12]) rfl ⟨rfl, by repeat (first | with_reducible exact B2.out | with_reducible refine Below.setCell ?_ (by exact Nat.le_refl _) _)⟩
end Zon
end Go.Proofs.YthefgagmjamdkaaGreatDoor
