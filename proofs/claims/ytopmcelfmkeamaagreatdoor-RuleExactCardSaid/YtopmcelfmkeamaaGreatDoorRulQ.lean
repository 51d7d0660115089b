/-
  Contracts of package rule: parse and Parse of whatever fields.
-/
import Derived.Test.YtopmcelfmkeamaaGreatDoorRulP
import Derived.Test.YtopmcelfmkeamaaGreatDoorBdJ
import Derived.Test.YtopmcelfmkeamaaGreatDoorMrgF
namespace Go.Proofs.YtopmcelfmkeamaaGreatDoor
open Go.RowKit
namespace Rul
open Sol Clk Cel
open Opn (TxtV)
theorem ruX_len {L : List (List UInt8)} (h : L.length ≠ 10) : ruX L = (6, RV.zero) := by
  unfold ruX
  split
  · exact absurd rfl h
  · rfl
def zcells : List Value := [.string ⟨#[]⟩, .int .i64 0, .int .i64 0, .int .i64 0, .int .i64 0, .int .i64 0, .int .i64 0, .int .i64 0, .int .i64 0, .int .i64 0, .string ⟨#[]⟩]
set_option maxHeartbeats 6400000 in
set_option maxRecDepth 100000 in
theorem parse_len (a : Option Addr) (n cp : Nat) (w : World) (_hn : n ≤ 1000000) (h : n ≠ 10) :
    Calls Tryz.prog 32 #[.slice a n cp] w fun e w' => ∃ x : RV, e = .returned (.tuple #[x.val, .int .i64 6]) ∧ ((6 : Int) = 0 → x = RV.zero) ∧ Below w.heap.size w w' := by
  have x1 : ((n : Int) == 10) = false := beq_eq_false_iff_ne.2 (by omega)
  have x2 : ((n : Int) != 10) = true := bne_iff_ne.2 (by omega)
  clear h
  have C1 : Cs w.heap.size (w.alloc (Obj.cells #[.string ⟨#[]⟩, .int .i64 0, .int .i64 0, .int .i64 0, .int .i64 0, .int .i64 0, .int .i64 0, .int .i64 0, .int .i64 0, .int .i64 0, .string ⟨#[]⟩] 27)) [.string ⟨#[]⟩, .int .i64 0, .int .i64 0, .int .i64 0, .int .i64 0, .int .i64 0, .int .i64 0, .int .i64 0, .int .i64 0, .int .i64 0, .string ⟨#[]⟩] := Cs.new _ _ _
  have z0 := (C1.2 0 _ rfl).1
  have y0 := (C1.2 0 _ rfl).2
  have z1 := (C1.2 1 _ rfl).1
  have y1 := (C1.2 1 _ rfl).2
  have z2 := (C1.2 2 _ rfl).1
  have y2 := (C1.2 2 _ rfl).2
  have z3 := (C1.2 3 _ rfl).1
  have y3 := (C1.2 3 _ rfl).2
  have z4 := (C1.2 4 _ rfl).1
  have y4 := (C1.2 4 _ rfl).2
  have z5 := (C1.2 5 _ rfl).1
  have y5 := (C1.2 5 _ rfl).2
  have z6 := (C1.2 6 _ rfl).1
  have y6 := (C1.2 6 _ rfl).2
  have z7 := (C1.2 7 _ rfl).1
  have y7 := (C1.2 7 _ rfl).2
  have z8 := (C1.2 8 _ rfl).1
  have y8 := (C1.2 8 _ rfl).2
  have z9 := (C1.2 9 _ rfl).1
  have y9 := (C1.2 9 _ rfl).2
  have z10 := (C1.2 10 _ rfl).1
  have y10 := (C1.2 10 _ rfl).2
  go_enter Tryz.func32, Tryz.ntmps32
  go_wp2
  exact bodyPost_ret (v := .tuple #[.agg #[.string ⟨#[]⟩, .int .i64 0, .int .i64 0, .int .i64 0, .int .i64 0, .int .i64 0, .int .i64 0, .int .i64 0, .int .i64 0, .int .i64 0, .string ⟨#[]⟩], .int .i64 6]) (by simp [results, Tryz.results32, go_sem, z0, z1, z2, z3, z4, z5, z6, z7, z8, z9, z10]) rfl ⟨⟨[], 0, 0, 0, 0, 0, 0, 0, 0, 0, []⟩, rfl, fun h => absurd h (by decide), by repeat (first | with_reducible exact Below.refl _ _ | with_reducible refine Below.setCell ?_ (by exact Nat.le_refl _) _ | with_reducible refine Below.alloc ?_ (by exact Nat.le_refl _) _)⟩
theorem parse_to (v : Value) (L : List (List UInt8)) (c : Int) (r : RV) (w : World) (hm : Wrd.MaxL w) (hv : TxtV w v L) (h8 : ∀ t ∈ L, t.length ≤ 1000) (hL : L.length ≤ 1000000) (h : Hid (ruX L = (c, r))) :
    Calls Tryz.prog 32 #[v] w fun e w' => ∃ x : RV, e = .returned (.tuple #[x.val, .int .i64 c]) ∧ (c = 0 → x = r) ∧ Below w.heap.size w w' := by
  by_cases hl : L.length = 10
  · match L, hl, hv, h8, h with
    | [f0, f1, f2, f3, f4, f5, f6, f7, f8, f9], _, hv, h8, h =>
      obtain ⟨b, off, cp, rfl, hb, hc⟩ := hv.form (by simp)
      exact parse10 b off cp f0 f1 f2 f3 f4 f5 f6 f7 f8 f9 c r w hm hb (hc 0 (by simp)) (h8 _ (by simp)) (hc 1 (by simp)) (h8 _ (by simp)) (hc 2 (by simp)) (h8 _ (by simp)) (hc 3 (by simp)) (h8 _ (by simp)) (hc 4 (by simp)) (h8 _ (by simp)) (hc 5 (by simp)) (h8 _ (by simp)) (hc 6 (by simp)) (h8 _ (by simp)) (hc 7 (by simp)) (h8 _ (by simp)) (hc 8 (by simp)) (h8 _ (by simp)) (hc 9 (by simp)) (h8 _ (by simp)) h
  · obtain ⟨a, cp, rfl⟩ := hv.slice
    have e := h.out
    rw [ruX_len hl] at e
    obtain ⟨rfl, rfl⟩ := Prod.mk.inj e
    exact parse_len a L.length cp w hL hl
theorem ruX_bd {L : List (List UInt8)} {r : RV} (h : ruX L = (0, r)) (h8 : ∀ t ∈ L, t.length ≤ 1000) : r.nm.length ≤ 1000 ∧ r.lt.length ≤ 1000 := by
  unfold ruX at h
  split at h
  · repeat' split at h
    all_goals
      obtain ⟨h1, h2⟩ := Prod.mk.inj h
      first
        | exact absurd h1 (by decide)
        | exact absurd h1 (by assumption)
        | (subst h2
           refine ⟨h8 _ (by simp), ?_⟩
           first | (show (0 : Nat) ≤ 1000; omega) | exact h8 _ (by simp) | (show (if _ then _ else _ : List UInt8).length ≤ 1000; split; simp; exact h8 _ (by simp)))
  · exact absurd (Prod.mk.inj h).1 (by decide)
set_option maxHeartbeats 6400000 in
set_option maxRecDepth 100000 in
theorem rparse_to (v : Value) (L : List (List UInt8)) (c : Int) (r : RV) (w : World) (hm : Wrd.MaxL w) (hv : TxtV w v L) (h8 : ∀ t ∈ L, t.length ≤ 1000) (hL : L.length ≤ 1000000) (h : Hid (ruP L = (c, r))) :
    Calls Tryz.prog 8 #[v] w fun e w' => e = .returned (.tuple #[r.val, .int .i64 c]) ∧ Below w.heap.size w w' := by
  obtain ⟨c1, r1, hx⟩ : ∃ a b, ruX L = (a, b) := ⟨_, _, rfl⟩
  have HX := Lib.hid hx
  have HH : (if c1 ≠ 0 then (c1, RV.zero) else if chkB r1 = true then (0, r1) else (10, RV.zero)) = (c, r) := by
    have := h.out
    rw [ruP, hx] at this
    exact this
  have HP := Lib.hid (fun (W : World) (hb : Below w.heap.size w W) => parse_to v L c1 r1 W (hm.stays hb) (hv.below hb) h8 hL HX)
  have HB := fun (e : c1 = 0) => ruX_bd (r := r1) (by rw [hx, e]) h8
  clear h hx hm hv HX h8 hL
  by_cases e0 : c1 = 0
  case neg =>
    rw [if_pos e0] at HH
    obtain ⟨rfl, rfl⟩ := Prod.mk.inj HH
    have x1 : (c1 == 0) = false := beq_eq_false_iff_ne.2 e0
    have x2 : (c1 != 0) = true := bne_iff_ne.2 e0
    clear HH HB e0
    go_enter Tryz.func8, Tryz.ntmps8
    go_wp2_with fail
    refine (HP.out _ ((Below.refl _ _).alloc (Nat.le_refl _) _)).mono ?_
    rintro e w1 ⟨⟨nm, fr, tu, mo, k, kv, d, n, cc, sv, lt⟩, rfl, hx, hb⟩
    have C1 := Lib.hid (Cs.below (Cs.new w [.string ⟨#[]⟩, .int .i64 0, .int .i64 0, .int .i64 0, .int .i64 0, .int .i64 0, .int .i64 0, .int .i64 0, .int .i64 0, .int .i64 0, .string ⟨#[]⟩] 27) hb)
    have B1 := Lib.hid (bstep ((Below.refl w.heap.size w).alloc (Nat.le_refl _) _) hb)
    clear hx hb
    have CA := Lib.hid (C1.out.alloc (Obj.cells #[.string ⟨nm.toArray⟩, .int .i64 fr, .int .i64 tu, .int .i64 mo, .int .i64 k, .int .i64 kv, .int .i64 d, .int .i64 n, .int .i64 cc, .int .i64 sv, .string ⟨lt.toArray⟩] 27))
    have g1 : w.heap.size ≠ w1.heap.size := by have := C1.out.1; omega
    have g2 : w1.heap.size ≠ w.heap.size := by have := C1.out.1; omega
    have z0 := (CA.out.2 0 _ rfl).1
    have y0 := (CA.out.2 0 _ rfl).2
    have z1 := (CA.out.2 1 _ rfl).1
    have y1 := (CA.out.2 1 _ rfl).2
    have z2 := (CA.out.2 2 _ rfl).1
    have y2 := (CA.out.2 2 _ rfl).2
    have z3 := (CA.out.2 3 _ rfl).1
    have y3 := (CA.out.2 3 _ rfl).2
    have z4 := (CA.out.2 4 _ rfl).1
    have y4 := (CA.out.2 4 _ rfl).2
    have z5 := (CA.out.2 5 _ rfl).1
    have y5 := (CA.out.2 5 _ rfl).2
    have z6 := (CA.out.2 6 _ rfl).1
    have y6 := (CA.out.2 6 _ rfl).2
    have z7 := (CA.out.2 7 _ rfl).1
    have y7 := (CA.out.2 7 _ rfl).2
    have z8 := (CA.out.2 8 _ rfl).1
    have y8 := (CA.out.2 8 _ rfl).2
    have z9 := (CA.out.2 9 _ rfl).1
    have y9 := (CA.out.2 9 _ rfl).2
    have z10 := (CA.out.2 10 _ rfl).1
    have y10 := (CA.out.2 10 _ rfl).2
    simp only [RV.val]
    go_wp2
    exact bodyPost_ret (v := .tuple #[.agg #[.string ⟨#[]⟩, .int .i64 0, .int .i64 0, .int .i64 0, .int .i64 0, .int .i64 0, .int .i64 0, .int .i64 0, .int .i64 0, .int .i64 0, .string ⟨#[]⟩], .int .i64 c1]) (by simp (maxDischargeDepth := 9) [results, Tryz.results8, go_sem, z0, z1, z2, z3, z4, z5, z6, z7, z8, z9, z10]) rfl ⟨rfl, by repeat (first | with_reducible exact B1.out | with_reducible refine Below.setCell ?_ (by exact Nat.le_refl _) _ | with_reducible refine Below.alloc ?_ (by exact B1.out.size) _)⟩
  subst e0
  rw [if_neg (fun h => h rfl)] at HH
  obtain ⟨l1, l2⟩ := HB rfl
  clear HB
  obtain ⟨nm, fr, tu, mo, k, kv, d, n, cc, sv, lt⟩ := r1
  have l1 : nm.length ≤ 1000 := l1
  have l2 : lt.length ≤ 1000 := l2
  cases hc : chkB ⟨nm, fr, tu, mo, k, kv, d, n, cc, sv, lt⟩ with
  | false =>
    rw [hc, if_neg (by decide)] at HH
    obtain ⟨rfl, rfl⟩ := Prod.mk.inj HH
    have HE : Hid (ruE ⟨nm, fr, tu, mo, k, kv, d, n, cc, sv, lt⟩ = 10) := Lib.hid (by rw [ruE, if_neg (by rw [hc]; decide)])
    clear HH hc
    go_enter Tryz.func8, Tryz.ntmps8
    go_wp2_with fail
    refine (HP.out _ ((Below.refl _ _).alloc (Nat.le_refl _) _)).mono ?_
    rintro e w1 ⟨x, rfl, hx, hb⟩
    obtain rfl := hx (by first | rfl | trivial)
    have C1 := Lib.hid (Cs.below (Cs.new w [.string ⟨#[]⟩, .int .i64 0, .int .i64 0, .int .i64 0, .int .i64 0, .int .i64 0, .int .i64 0, .int .i64 0, .int .i64 0, .int .i64 0, .string ⟨#[]⟩] 27) hb)
    have B1 := Lib.hid (bstep ((Below.refl w.heap.size w).alloc (Nat.le_refl _) _) hb)
    clear hx hb
    simp only [RV.val]
    go_wp2_with fail
    refine (rchk_to nm lt fr tu mo k kv d n cc sv 10 _ (by omega) (by omega) HE).mono ?_
    rintro e w2 ⟨rfl, hb⟩
    have C2 := Lib.hid ((C1.out.alloc _).below hb)
    have B2 := Lib.hid (bstep (B1.out.alloc B1.out.size _) hb)
    have E2 := Lib.hid (Cs.below (Cs.new w1 [.string ⟨nm.toArray⟩, .int .i64 fr, .int .i64 tu, .int .i64 mo, .int .i64 k, .int .i64 kv, .int .i64 d, .int .i64 n, .int .i64 cc, .int .i64 sv, .string ⟨lt.toArray⟩] 27) hb)
    have u0 := (E2.out.2 0 _ rfl).1
    have u1 := (E2.out.2 1 _ rfl).1
    have u2 := (E2.out.2 2 _ rfl).1
    have u3 := (E2.out.2 3 _ rfl).1
    have u4 := (E2.out.2 4 _ rfl).1
    have u5 := (E2.out.2 5 _ rfl).1
    have u6 := (E2.out.2 6 _ rfl).1
    have u7 := (E2.out.2 7 _ rfl).1
    have u8 := (E2.out.2 8 _ rfl).1
    have u9 := (E2.out.2 9 _ rfl).1
    have u10 := (E2.out.2 10 _ rfl).1
    have g1 : w.heap.size ≠ w1.heap.size := by have := C1.out.1; omega
    have g2 : w1.heap.size ≠ w.heap.size := by have := C1.out.1; omega
    clear hb C1 B1
    have z0 := (C2.out.2 0 _ rfl).1
    have y0 := (C2.out.2 0 _ rfl).2
    have z1 := (C2.out.2 1 _ rfl).1
    have y1 := (C2.out.2 1 _ rfl).2
    have z2 := (C2.out.2 2 _ rfl).1
    have y2 := (C2.out.2 2 _ rfl).2
    have z3 := (C2.out.2 3 _ rfl).1
    have y3 := (C2.out.2 3 _ rfl).2
    have z4 := (C2.out.2 4 _ rfl).1
    have y4 := (C2.out.2 4 _ rfl).2
    have z5 := (C2.out.2 5 _ rfl).1
    have y5 := (C2.out.2 5 _ rfl).2
    have z6 := (C2.out.2 6 _ rfl).1
    have y6 := (C2.out.2 6 _ rfl).2
    have z7 := (C2.out.2 7 _ rfl).1
    have y7 := (C2.out.2 7 _ rfl).2
    have z8 := (C2.out.2 8 _ rfl).1
    have y8 := (C2.out.2 8 _ rfl).2
    have z9 := (C2.out.2 9 _ rfl).1
    have y9 := (C2.out.2 9 _ rfl).2
    have z10 := (C2.out.2 10 _ rfl).1
    have y10 := (C2.out.2 10 _ rfl).2
    go_wp2
    exact bodyPost_ret (v := .tuple #[.agg #[.string ⟨#[]⟩, .int .i64 0, .int .i64 0, .int .i64 0, .int .i64 0, .int .i64 0, .int .i64 0, .int .i64 0, .int .i64 0, .int .i64 0, .string ⟨#[]⟩], .int .i64 10]) (by simp (maxDischargeDepth := 9) [results, Tryz.results8, go_sem, z0, z1, z2, z3, z4, z5, z6, z7, z8, z9, z10]) rfl ⟨rfl, by repeat (first | with_reducible exact B2.out | with_reducible refine Below.setCell ?_ (by exact Nat.le_refl _) _)⟩
  | true =>
    rw [hc, if_pos rfl] at HH
    obtain ⟨rfl, rfl⟩ := Prod.mk.inj HH
    have HE : Hid (ruE ⟨nm, fr, tu, mo, k, kv, d, n, cc, sv, lt⟩ = 0) := Lib.hid (by rw [ruE, if_pos hc])
    clear HH hc
    go_enter Tryz.func8, Tryz.ntmps8
    go_wp2_with fail
    refine (HP.out _ ((Below.refl _ _).alloc (Nat.le_refl _) _)).mono ?_
    rintro e w1 ⟨x, rfl, hx, hb⟩
    obtain rfl := hx (by first | rfl | trivial)
    have C1 := Lib.hid (Cs.below (Cs.new w [.string ⟨#[]⟩, .int .i64 0, .int .i64 0, .int .i64 0, .int .i64 0, .int .i64 0, .int .i64 0, .int .i64 0, .int .i64 0, .int .i64 0, .string ⟨#[]⟩] 27) hb)
    have B1 := Lib.hid (bstep ((Below.refl w.heap.size w).alloc (Nat.le_refl _) _) hb)
    clear hx hb
    simp only [RV.val]
    go_wp2_with fail
    refine (rchk_to nm lt fr tu mo k kv d n cc sv 0 _ (by omega) (by omega) HE).mono ?_
    rintro e w2 ⟨rfl, hb⟩
    have C2 := Lib.hid ((C1.out.alloc _).below hb)
    have B2 := Lib.hid (bstep (B1.out.alloc B1.out.size _) hb)
    have E2 := Lib.hid (Cs.below (Cs.new w1 [.string ⟨nm.toArray⟩, .int .i64 fr, .int .i64 tu, .int .i64 mo, .int .i64 k, .int .i64 kv, .int .i64 d, .int .i64 n, .int .i64 cc, .int .i64 sv, .string ⟨lt.toArray⟩] 27) hb)
    have u0 := (E2.out.2 0 _ rfl).1
    have u1 := (E2.out.2 1 _ rfl).1
    have u2 := (E2.out.2 2 _ rfl).1
    have u3 := (E2.out.2 3 _ rfl).1
    have u4 := (E2.out.2 4 _ rfl).1
    have u5 := (E2.out.2 5 _ rfl).1
    have u6 := (E2.out.2 6 _ rfl).1
    have u7 := (E2.out.2 7 _ rfl).1
    have u8 := (E2.out.2 8 _ rfl).1
    have u9 := (E2.out.2 9 _ rfl).1
    have u10 := (E2.out.2 10 _ rfl).1
    have g1 : w.heap.size ≠ w1.heap.size := by have := C1.out.1; omega
    have g2 : w1.heap.size ≠ w.heap.size := by have := C1.out.1; omega
    clear hb C1 B1
    have z0 := (C2.out.2 0 _ rfl).1
    have y0 := (C2.out.2 0 _ rfl).2
    have z1 := (C2.out.2 1 _ rfl).1
    have y1 := (C2.out.2 1 _ rfl).2
    have z2 := (C2.out.2 2 _ rfl).1
    have y2 := (C2.out.2 2 _ rfl).2
    have z3 := (C2.out.2 3 _ rfl).1
    have y3 := (C2.out.2 3 _ rfl).2
    have z4 := (C2.out.2 4 _ rfl).1
    have y4 := (C2.out.2 4 _ rfl).2
    have z5 := (C2.out.2 5 _ rfl).1
    have y5 := (C2.out.2 5 _ rfl).2
    have z6 := (C2.out.2 6 _ rfl).1
    have y6 := (C2.out.2 6 _ rfl).2
    have z7 := (C2.out.2 7 _ rfl).1
    have y7 := (C2.out.2 7 _ rfl).2
    have z8 := (C2.out.2 8 _ rfl).1
    have y8 := (C2.out.2 8 _ rfl).2
    have z9 := (C2.out.2 9 _ rfl).1
    have y9 := (C2.out.2 9 _ rfl).2
    have z10 := (C2.out.2 10 _ rfl).1
    have y10 := (C2.out.2 10 _ rfl).2
    go_wp2
    exact bodyPost_ret (v := .tuple #[.agg #[.string ⟨nm.toArray⟩, .int .i64 fr, .int .i64 tu, .int .i64 mo, .int .i64 k, .int .i64 kv, .int .i64 d, .int .i64 n, .int .i64 cc, .int .i64 sv, .string ⟨lt.toArray⟩], .int .i64 0]) (by simp (maxDischargeDepth := 9) [results, Tryz.results8, go_sem, z0, z1, z2, z3, z4, z5, z6, z7, z8, z9, z10]) rfl ⟨rfl, by repeat (first | with_reducible exact B2.out | with_reducible refine Below.setCell ?_ (by exact Nat.le_refl _) _)⟩
end Rul
end Go.Proofs.YtopmcelfmkeamaaGreatDoor
