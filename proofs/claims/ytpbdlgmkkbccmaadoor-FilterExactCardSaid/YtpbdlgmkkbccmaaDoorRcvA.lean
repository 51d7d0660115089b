/-
  Recurrence rules as values: slices of numbers and of weekdays, wherever they came from; the laws' Ints over any two.
-/
import Derived.Test.YtpbdlgmkkbccmaaDoorAppX
import Derived.Test.YtpbdlgmkkbccmaaDoorCel
import Derived.Deep.QuietTactic
namespace Go.Proofs.YtpbdlgmkkbccmaaDoor
open Go.RowKit
namespace Rcv
open Cel
open Ap (RowI)
/-- The value reads as the numbers L. -/
def IntV (w : World) (v : Value) (L : List Int) : Prop := ∃ a n c, v = .slice a n c ∧ n = L.length ∧ ∀ (j : Nat) (hj : j < L.length), ∃ b off, a = some ⟨b, off, none⟩ ∧ b < w.heap.size ∧ w.cell? ⟨b, off + j, none⟩ = some (.int .i64 L[j])
theorem IntV.below {w w' : World} {v : Value} {L : List Int} (h : IntV w v L) (hb : Below w.heap.size w w') : IntV w' v L := by
  obtain ⟨a, n, c, hv, hn, hc⟩ := h
  refine ⟨a, n, c, hv, hn, fun j hj => ?_⟩
  obtain ⟨b, off, ha, hl, hcell⟩ := hc j hj
  exact ⟨b, off, ha, Nat.lt_of_lt_of_le hl hb.size, (hb.cell (p := ⟨b, off + j, none⟩) hl).trans hcell⟩
theorem IntV.form {w : World} {v : Value} {L : List Int} (h : IntV w v L) (h0 : 0 < L.length) : ∃ b off c, v = .slice (some ⟨b, off, none⟩) L.length c ∧ b < w.heap.size ∧ ∀ (j : Nat) (hj : j < L.length), w.cell? ⟨b, off + j, none⟩ = some (.int .i64 L[j]) := by
  obtain ⟨a, n, c, hv, rfl, hc⟩ := h
  obtain ⟨b, off, rfl, hl, _⟩ := hc 0 h0
  refine ⟨b, off, c, hv, hl, fun j hj => ?_⟩
  obtain ⟨b', off', e, _, h2⟩ := hc j hj
  injection e with e
  injection e with e1 e2
  subst e1 e2
  exact h2
theorem IntV.nil {w : World} {v : Value} (h : IntV w v []) : ∃ a c, v = .slice a 0 c := by
  obtain ⟨a, n, c, hv, hn, _⟩ := h
  exact ⟨a, c, by rw [hv, hn]; rfl⟩
theorem IntV.slice {w : World} {v : Value} {L : List Int} (h : IntV w v L) : ∃ a c, v = .slice a L.length c := by
  obtain ⟨a, n, c, hv, rfl, _⟩ := h
  exact ⟨a, c, hv⟩
theorem IntV.none (w : World) : IntV w (.slice none 0 0) [] := ⟨_, _, _, rfl, rfl, fun j hj => by simp at hj⟩
theorem IntV.drew {w : World} {v : Value} {L : List Int} (h : IntV w v L) (m : Nat) : IntV (w.drewN m) v L := h
/-- The value reads as the weekdays L. -/
def DayV (w : World) (v : Value) (L : List (Int × Int)) : Prop := ∃ a n c, v = .slice a n c ∧ n = L.length ∧ ∀ (j : Nat) (hj : j < L.length), ∃ b off, a = some ⟨b, off, none⟩ ∧ b < w.heap.size ∧ w.cell? ⟨b, off + j * 2, none⟩ = some (.int .i64 (L[j]).1) ∧ w.cell? ⟨b, off + j * 2 + 1, none⟩ = some (.int .i64 (L[j]).2)
theorem DayV.below {w w' : World} {v : Value} {L : List (Int × Int)} (h : DayV w v L) (hb : Below w.heap.size w w') : DayV w' v L := by
  obtain ⟨a, n, c, hv, hn, hc⟩ := h
  refine ⟨a, n, c, hv, hn, fun j hj => ?_⟩
  obtain ⟨b, off, ha, hl, h1, h2⟩ := hc j hj
  exact ⟨b, off, ha, Nat.lt_of_lt_of_le hl hb.size, (hb.cell (p := ⟨b, off + j * 2, none⟩) hl).trans h1, (hb.cell (p := ⟨b, off + j * 2 + 1, none⟩) hl).trans h2⟩
theorem DayV.form {w : World} {v : Value} {L : List (Int × Int)} (h : DayV w v L) (h0 : 0 < L.length) : ∃ b off c, v = .slice (some ⟨b, off, none⟩) L.length c ∧ b < w.heap.size ∧ ∀ (j : Nat) (hj : j < L.length), w.cell? ⟨b, off + j * 2, none⟩ = some (.int .i64 (L[j]).1) ∧ w.cell? ⟨b, off + j * 2 + 1, none⟩ = some (.int .i64 (L[j]).2) := by
  obtain ⟨a, n, c, hv, rfl, hc⟩ := h
  obtain ⟨b, off, rfl, hl, _⟩ := hc 0 h0
  refine ⟨b, off, c, hv, hl, fun j hj => ?_⟩
  obtain ⟨b', off', e, _, h1, h2⟩ := hc j hj
  injection e with e
  injection e with e1 e2
  subst e1 e2
  exact ⟨h1, h2⟩
theorem DayV.nil {w : World} {v : Value} (h : DayV w v []) : ∃ a c, v = .slice a 0 c := by
  obtain ⟨a, n, c, hv, hn, _⟩ := h
  exact ⟨a, c, by rw [hv, hn]; rfl⟩
theorem DayV.slice {w : World} {v : Value} {L : List (Int × Int)} (h : DayV w v L) : ∃ a c, v = .slice a L.length c := by
  obtain ⟨a, n, c, hv, rfl, _⟩ := h
  exact ⟨a, c, hv⟩
theorem DayV.none (w : World) : DayV w (.slice none 0 0) [] := ⟨_, _, _, rfl, rfl, fun j hj => by simp at hj⟩
theorem IntV.of_row {B : Nat} {w : World} {v : Value} {L : List Int} (h : RowI B w v L) : IntV w v L := by
  by_cases h0 : L.length = 0
  · have hL : L = [] := List.length_eq_zero_iff.1 h0
    subst hL
    obtain ⟨A, c, rfl⟩ := h.forms
    exact ⟨_, _, _, rfl, rfl, fun j hj => by simp at hj⟩
  · obtain ⟨g, c, rfl, _, hl, hc, _⟩ := h.form (by omega)
    exact ⟨_, _, _, rfl, rfl, fun j hj => ⟨g, 0, rfl, hl, by rw [Nat.zero_add]; exact hc j hj⟩⟩
theorem int_one {w : World} {g : Nat} {n : Int} (h : Cs g w [.int .i64 n]) : IntV w (.slice (some ⟨g, 0, none⟩) 1 1) [n] := by
  refine ⟨_, _, _, rfl, rfl, fun j hj => ?_⟩
  have : j = 0 := by simpa using hj
  subst this
  exact ⟨g, 0, rfl, h.1, (h.2 0 _ rfl).1⟩
theorem day_one {w : World} {g : Nat} {n v : Int} (h : Cs g w [.int .i64 n, .int .i64 v]) : DayV w (.slice (some ⟨g, 0, none⟩) 1 1) [(n, v)] := by
  refine ⟨_, _, _, rfl, rfl, fun j hj => ?_⟩
  have : j = 0 := by simpa using hj
  subst this
  exact ⟨g, 0, rfl, h.1, (h.2 0 _ rfl).1, (h.2 1 _ rfl).1⟩
set_option maxHeartbeats 3200000 in
set_option maxRecDepth 100000 in
theorem ints_any (v u : Value) (L M : List Int) (w : World) (hv : IntV w v L) (hu : IntV w u M) (hL : L.length ≤ 1000000) (hM : M.length ≤ 1000000) :
    Calls Tryd.prog 24 #[v, u] w fun e w' => ∃ b, e = .returned (.bool b) ∧ Hid (b = decide (L = M)) ∧ ∃ m, w' = w.drewN m := by
  by_cases hlen : L.length = M.length
  · by_cases h0 : L.length = 0
    · have e1 : L = [] := List.length_eq_zero_iff.1 h0
      have e2 : M = [] := List.length_eq_zero_iff.1 (by omega)
      subst e1 e2
      obtain ⟨a, c, rfl⟩ := hv.nil
      obtain ⟨a2, c2, rfl⟩ := hu.nil
      clear hv hu hlen h0 hL hM
      go_enter Tryd.func24, Tryd.ntmps24
      go_wp2_with fail
      go_loopw [5] (fun iv wr => iv = .int .i64 0 ∧ wr = w) (fun _ _ => 0)
      case atStart => exact ⟨rfl, rfl⟩
      case round =>
        obtain ⟨rfl, rfl⟩ := hrel
        go_wp2
        go_ret
        exact ⟨true, rfl, Lib.hid (by simp), 0, rfl⟩
    · obtain ⟨b1, o1, c1, rfl, _, k1⟩ := hv.form (by omega)
      obtain ⟨b2, o2, c2, rfl, _, k2⟩ := hu.form (by omega)
      obtain ⟨n, hn⟩ : ∃ n, L.length = n := ⟨_, rfl⟩
      have K1 : Hid (∀ (j : Nat) (hj : j < L.length), w.cell? ⟨b1, o1 + j, Option.none⟩ = some (.int .i64 L[j])) := Lib.hid k1
      have K2 : Hid (∀ (j : Nat) (hj : j < M.length), w.cell? ⟨b2, o2 + j, Option.none⟩ = some (.int .i64 M[j])) := Lib.hid k2
      have HN := Lib.hid hn
      have HM : Hid (M.length = n) := Lib.hid (hlen ▸ hn)
      rw [← hlen, hn]
      rw [hn] at hL
      clear k1 k2 hv hu h0 hM hlen hn
      go_enter Tryd.func24, Tryd.ntmps24
      go_wp2_with fail
      go_loopw [5] (fun iv wr => ∃ k : Nat, k ≤ n ∧ iv = .int .i64 k ∧ Hid (L.take k = M.take k) ∧ ∃ m, wr = w.drewN m) (fun iv _ => n - (intOf iv).toNat)
      case atStart => exact ⟨0, Nat.zero_le _, rfl, Lib.hid rfl, 0, rfl⟩
      case round =>
        obtain ⟨k, hk, rfl, hT, m, rfl⟩ := hrel
        by_cases hlt : k < n
        · have h1L : k < L.length := by rw [HN.out]; exact hlt
          have h1M : k < M.length := by rw [HM.out]; exact hlt
          have g1 := K1.out k h1L
          have g2 := K2.out k h1M
          by_cases he : L[k] = M[k]
          · have HT : Hid (L.take (k + 1) = M.take (k + 1)) := Lib.hid (by rw [List.take_succ_eq_append_getElem h1L, List.take_succ_eq_append_getElem h1M, hT.out, he])
            rw [← he] at g2
            obtain ⟨X, hX⟩ : ∃ X : Int, L[k] = X := ⟨_, rfl⟩
            rw [hX] at g1 g2
            clear he h1L h1M hX
            go_wp2_with fail
            go_quiet (fail)
            go_wp2
            go_roundw
            case rel => exact ⟨k + 1, by omega, by go_num, HT, m + nq, by first | rfl | rw [World.drewN_drewN]⟩
            case measure => simp [intOf]; omega
          · have HF : Hid (decide (L = M) = false) := Lib.hid (decide_eq_false (fun e => he (by subst e; rfl)))
            obtain ⟨X, hX⟩ : ∃ X : Int, L[k] = X := ⟨_, rfl⟩
            obtain ⟨Y, hY⟩ : ∃ Y : Int, M[k] = Y := ⟨_, rfl⟩
            rw [hX] at g1 he
            rw [hY] at g2 he
            have hb1 : (X == Y) = false := beq_eq_false_iff_ne.2 he
            have hb2 : (X != Y) = true := by rw [bne, hb1]; rfl
            clear he h1L h1M hX hY
            go_wp2_with fail
            go_quiet (fail)
            go_wp2
            go_ret
            exact ⟨false, rfl, Lib.hid HF.out.symm, m + nq, by first | rfl | rw [World.drewN_drewN]⟩
        · have hkn : k = n := by omega
          subst hkn
          have HF : Hid (decide (L = M) = true) := Lib.hid (decide_eq_true (by have := hT.out; rwa [List.take_of_length_le (by rw [HN.out]; exact Nat.le_refl _), List.take_of_length_le (by rw [HM.out]; exact Nat.le_refl _)] at this))
          go_wp2
          go_ret
          exact ⟨true, rfl, Lib.hid HF.out.symm, _, rfl⟩
  · obtain ⟨a, c, rfl⟩ := hv.slice
    obtain ⟨a2, c2, rfl⟩ := hu.slice
    have HF : Hid (decide (L = M) = false) := Lib.hid (decide_eq_false (fun e => hlen (by rw [e])))
    obtain ⟨n, hn⟩ : ∃ n, L.length = n := ⟨_, rfl⟩
    obtain ⟨n2, hn2⟩ : ∃ n2, M.length = n2 := ⟨_, rfl⟩
    rw [hn] at hL hlen ⊢
    rw [hn2] at hM hlen ⊢
    have hne : ((n : Int) == (n2 : Int)) = false := beq_eq_false_iff_ne.2 (by omega)
    have hne2 : ((n : Int) != (n2 : Int)) = true := by rw [bne, hne]; rfl
    clear hv hu hn hn2
    go_enter Tryd.func24, Tryd.ntmps24
    go_wp2
    go_ret
    exact ⟨false, rfl, Lib.hid HF.out.symm, 0, rfl⟩
/-! ### Recurrence rules -/
structure CV where
  fq : Int
  iv : Int
  ct : Int
  un : Bool
  ua : Int
  ut : Bool
  sc : List Int
  mi : List Int
  hr : List Int
  dy : List (Int × Int)
  md : List Int
  yd : List Int
  wn : List Int
  mo : List Int
  sp : List Int
  wk : Int
def CV.zero : CV := ⟨0, 0, 0, false, 0, false, [], [], [], [], [], [], [], [], [], 0⟩
def aggR (r : CV) (s6 s7 s8 s9 s10 s11 s12 s13 s14 : Value) : Value := .agg #[.int .i64 r.fq, .int .i64 r.iv, .int .i64 r.ct, .bool r.un, .int .i64 r.ua, .bool r.ut, s6, s7, s8, s9, s10, s11, s12, s13, s14, .int .i64 r.wk]
structure LisV (w : World) (r : CV) (s6 s7 s8 s9 s10 s11 s12 s13 s14 : Value) : Prop where
  h6 : IntV w s6 r.sc
  h7 : IntV w s7 r.mi
  h8 : IntV w s8 r.hr
  h9 : DayV w s9 r.dy
  h10 : IntV w s10 r.md
  h11 : IntV w s11 r.yd
  h12 : IntV w s12 r.wn
  h13 : IntV w s13 r.mo
  h14 : IntV w s14 r.sp
theorem LisV.below {w w' : World} {r : CV} {s6 s7 s8 s9 s10 s11 s12 s13 s14 : Value} (h : LisV w r s6 s7 s8 s9 s10 s11 s12 s13 s14) (hb : Below w.heap.size w w') : LisV w' r s6 s7 s8 s9 s10 s11 s12 s13 s14 :=
  ⟨h.h6.below hb, h.h7.below hb, h.h8.below hb, h.h9.below hb, h.h10.below hb, h.h11.below hb, h.h12.below hb, h.h13.below hb, h.h14.below hb⟩
/-- A value reads as a rule. -/
def RecV (w : World) (v : Value) (r : CV) : Prop := ∃ s6 s7 s8 s9 s10 s11 s12 s13 s14, v = aggR r s6 s7 s8 s9 s10 s11 s12 s13 s14 ∧ LisV w r s6 s7 s8 s9 s10 s11 s12 s13 s14
theorem RecV.below {w w' : World} {v : Value} {r : CV} (h : RecV w v r) (hb : Below w.heap.size w w') : RecV w' v r := by
  obtain ⟨s6, s7, s8, s9, s10, s11, s12, s13, s14, e, h⟩ := h
  exact ⟨_, _, _, _, _, _, _, _, _, e, h.below hb⟩
structure SmlC (r : CV) : Prop where
  l6 : r.sc.length ≤ 1000000
  l7 : r.mi.length ≤ 1000000
  l8 : r.hr.length ≤ 1000000
  l9 : r.dy.length ≤ 1000000
  l10 : r.md.length ≤ 1000000
  l11 : r.yd.length ≤ 1000000
  l12 : r.wn.length ≤ 1000000
  l13 : r.mo.length ≤ 1000000
  l14 : r.sp.length ≤ 1000000
end Rcv
end Go.Proofs.YtpbdlgmkkbccmaaDoor
