/-
  recur.appendDays: the part of weekdays, at the end of a row of texts. (Written by gen/gen_rctb.py.)
-/
import Derived.Test.YtbeefhmnoihmcaaGreatDoorRctA
import Derived.Test.YtbeefhmnoihmcaaGreatDoorHeldR
namespace Go.Proofs.YtbeefhmnoihmcaaGreatDoor
open Go.RowKit
namespace Rct
open Cel
open Rcp
open Ap (Grew)
open Rcv (IntV DayV)
/-- A weekday's text. -/
def dyT (d : Int × Int) : List UInt8 := (if d.1 = 0 then [] else Lib.itoa d.1) ++ dayL.getD d.2.toNat []
def adX (Ls : List (List UInt8)) (L : List (Int × Int)) : List (List UInt8) := if L = [] then Ls else Ls ++ [[66, 89, 68, 65, 89, 61] ++ Lib.join (L.map dyT) [44]]
theorem day_bd (k : Nat) : (dayL.getD k []).length ≤ 2 := by
  by_cases h : k < 7
  · have : k = 0 ∨ k = 1 ∨ k = 2 ∨ k = 3 ∨ k = 4 ∨ k = 5 ∨ k = 6 := by omega
    rcases this with rfl | rfl | rfl | rfl | rfl | rfl | rfl <;> decide
  · rw [List.getD_eq_getElem?_getD, List.getElem?_eq_none (by simp [dayL]; omega)]; simp
theorem day_cell {w : World} (h : DayT w) (a : Nat) (ha : a < 7) : w.cell? ⟨1, a, none⟩ = some (.string ⟨(dayL.getD a []).toArray⟩) := by
  have q := h.2 a (.string ⟨(dayL.getD a []).toArray⟩) (by
    rw [List.getElem?_map, List.getElem?_eq_getElem (show a < dayL.length from ha), List.getD_eq_getElem?_getD, List.getElem?_eq_getElem (show a < dayL.length from ha)]
    rfl)
  rwa [Nat.zero_add] at q
set_option maxHeartbeats 12800000 in
set_option maxRecDepth 100000 in
theorem ad_to (lv : Value) (Ls : List (List UInt8)) (v : Value) (L : List (Int × Int)) (B : Nat) (w : World) (hp : Pow w) (hD : DayT w) (hr : RowT B w lv Ls) (hB : B ≤ w.heap.size) (hn : Ls.length ≤ 100) (hv : DayV w v L) (hL : L.length ≤ 1000) (hb : Hid (∀ d ∈ L, -1000000 ≤ d.1 ∧ d.1 ≤ 1000000 ∧ 0 ≤ d.2 ∧ d.2 ≤ 6)) :
    Calls Tryz.prog 20 #[lv, v] w fun e w' => ∃ v', e = .returned v' ∧ Hid (RowT B w' v' (adX Ls L)) ∧ Still B w w' := by
  by_cases h0 : L.length = 0
  · have e1 : L = [] := List.length_eq_zero_iff.1 h0
    subst e1
    obtain ⟨q, c, rfl⟩ := hv.nil
    have HR := Lib.hid hr
    clear hv h0 hL hp hb hr hD
    go_enter Tryz.func20, Tryz.ntmps20
    go_wp2
    go_ret
    exact ⟨_, rfl, Lib.hid (by rw [adX, if_pos rfl]; exact HR.out), fun _ _ _ _ h => h⟩
  · obtain ⟨b1, o1, c1, rfl, hb1, k1⟩ := hv.form (by omega)
    obtain ⟨n, hn'⟩ : ∃ n, L.length = n := ⟨_, rfl⟩
    have K1 : Hid (∀ (j : Nat) (hj : j < L.length), w.cell? ⟨b1, o1 + j * 2, Option.none⟩ = some (.int .i64 L[j].1) ∧ w.cell? ⟨b1, o1 + j * 2 + 1, Option.none⟩ = some (.int .i64 L[j].2)) := Lib.hid k1
    have HN := Lib.hid hn'
    have HB1 := Lib.hid hb1
    have HP := Lib.hid hp
    have HD := Lib.hid hD
    have HR := Lib.hid hr
    rw [hn'] at hL h0 ⊢
    have n0 : ((n : Int) == 0) = false := beq_eq_false_iff_ne.2 (by omega)
    obtain ⟨i0, hi, hz0, hz1, hz2⟩ := info_parts infoT
    obtain ⟨M, hM⟩ : ∃ M, madeCells (Value.string ⟨#[]⟩).cells n = M := ⟨_, rfl⟩
    have HM : Hid (∀ j, j < n → M[j]? = some (.string ⟨#[]⟩)) := Lib.hid (fun j hj => by
      rw [← hM]; unfold madeCells
      rw [Array.getElem?_map, Array.getElem?_range]
      simp [hj, Value.cells, Nat.mod_one])
    have hmk : (Instr.makeSlice 49 (.int .i64 n) (.int .i64 n)).run Tryz.prog w = .ok (.slice (some ⟨w.heap.size, 0, Option.none⟩) n n) (w.alloc (.cells M 9)) := by
      have h := run_make (P := Tryz.prog) w 49 9 i0 (.string ⟨#[]⟩) (by kernel_rfl) hi hz0 .i64 .i64 (n : Int) (n : Int) (by omega) (by omega) (by rw [hz2]; omega) (by omega)
      rw [hz1, Int.toNat_natCast, Nat.mul_one, hM] at h
      exact h
    clear k1 hv hn' hb1 hp hr hM hD
    go_enter Tryz.func20, Tryz.ntmps20
    go_upto_region 3 with fail
    go_cut [5] (fun p w1 => p = .slice (some ⟨w.heap.size, 0, none⟩) n n ∧ Hid (TxR w.heap.size w1 n (fun _ => [])) ∧ Hid (RowT B w1 lv Ls) ∧ Hid (Below w.heap.size w w1))
    case first =>
      go_wp2
      go_meet
      refine ⟨rfl, Lib.hid ⟨by simp, fun j hj => ⟨?_, by rw [World.frozen?_alloc_new]⟩⟩, Lib.hid (HR.out.below ((Below.refl _ _).alloc (Nat.le_refl _) _)), Lib.hid ((Below.refl _ _).alloc (Nat.le_refl _) _)⟩
      rw [World.cell?_alloc_new]
      exact HM.out j hj
    case rest =>
    obtain ⟨w1, rfl⟩ : ∃ x : World, x = wc := ⟨_, rfl⟩
    obtain ⟨rfl, T1, R1, B1⟩ := hcut
    have HO := Lib.hid (own_old HR.out)
    clear hmk HM
    go_wp2_with fail
    go_loopw [17] (fun iv wr => ∃ k : Nat, k ≤ n ∧ iv = .int .i64 k ∧ Hid (TxR w.heap.size wr n (fun j => if j < k then dyT (L.getD j (0, 0)) else [])) ∧ Hid (RowT B wr lv Ls) ∧ Hid (Below w.heap.size w wr)) (fun iv _ => n - (intOf iv).toNat)
    case atStart => exact ⟨0, Nat.zero_le _, rfl, Lib.hid (T1.out.like (fun j _ => by simp)), R1, B1⟩
    case round =>
      obtain ⟨k, hk, rfl, T2, R2, B2⟩ := hrel
      obtain ⟨wo, rfl⟩ : ∃ wo : World, wo = wr := ⟨_, rfl⟩
      by_cases hlt : k < n
      · have h1L : k < L.length := by rw [HN.out]; exact hlt
        have g1 := (B2.out.cell (p := ⟨b1, o1 + k * 2, Option.none⟩) HB1.out).trans (K1.out k h1L).1
        have g2 := (B2.out.cell (p := ⟨b1, o1 + k * 2 + 1, Option.none⟩) HB1.out).trans (K1.out k h1L).2
        have hbd := hb.out _ (List.getElem_mem h1L)
        obtain ⟨X, hX⟩ : ∃ X : Int, L[k].1 = X := ⟨_, rfl⟩
        obtain ⟨Y, hY⟩ : ∃ Y : Int, L[k].2 = Y := ⟨_, rfl⟩
        have HX : Hid (L.getD k (0, 0) = (X, Y)) := Lib.hid (by rw [List.getD_eq_getElem?_getD, List.getElem?_eq_getElem h1L]; exact Prod.ext hX hY)
        rw [hX] at g1 hbd
        rw [hY] at g2 hbd
        obtain ⟨a, ha⟩ : ∃ a : Nat, Y = (a : Int) := ⟨Y.toNat, by omega⟩
        subst ha
        have ha7 : a < 7 := by omega
        have ai : (a : Int) < 7 := by omega
        have hbx : Hid (-9223372036854775808 ≤ X ∧ X ≤ 9223372036854775807) := Lib.hid (by omega)
        obtain ⟨Dw, hDw⟩ : ∃ D, dayL.getD a [] = D := ⟨_, rfl⟩
        have HDw := Lib.hid hDw
        have dwl : Dw.length ≤ 2 := by rw [← hDw]; exact day_bd a
        clear hX hY h1L hbd hDw
        go_upto_region 6 with fail
        go_cut [6, 7] from 18 to 43 (fun i p w5 => i = .int .i64 k ∧ p = .pointer (some ⟨wo.heap.size, 0, none⟩) ∧ Hid (Cs wo.heap.size w5 [.int .i64 X, .int .i64 a]) ∧ Hid (TxR w.heap.size w5 n (fun j => if j < k then dyT (L.getD j (0, 0)) else [])) ∧ Hid (RowT B w5 lv Ls) ∧ Hid (Below w.heap.size w w5))
        case first =>
          go_wp2
          go_meet
          exact ⟨rfl, rfl, Lib.hid (Cs.new wo _ _), Lib.hid (T2.out.below ((Below.refl _ _).alloc (Nat.le_refl _) _)), Lib.hid (R2.out.below ((Below.refl _ _).alloc (Nat.le_refl _) _)), Lib.hid (B2.out.alloc B2.out.size _)⟩
        case rest =>
        obtain ⟨w5, rfl⟩ : ∃ x : World, x = wc := ⟨_, rfl⟩
        obtain ⟨rfl, rfl, C5, T5, R5, B5⟩ := hcut
        obtain ⟨p, hp⟩ : ∃ p, wo.heap.size = p := ⟨_, rfl⟩
        have HNE : Hid (w.heap.size ≠ p) := Lib.hid (by have := T2.out.1; omega)
        rw [hp] at C5 ⊢
        clear hp T2 R2 B2 g1 g2
        have c1 := (C5.out.2 1 _ rfl).1
        have dc : w5.cell? ⟨1, a, Option.none⟩ = some (.string ⟨Dw.toArray⟩) := by rw [← HDw.out]; exact day_cell (StrT.below HD.out B5.out) a ha7
        have t1 := (T5.out.2 k hlt).1
        have t2 := (T5.out.2 k hlt).2
        go_upto_region 7 with fail
        go_cut [] from 22 to 43 (fun w7 => Hid (Cs p w7 [.int .i64 X, .int .i64 a]) ∧ Hid (TxR w.heap.size w7 n (fun j => if j = k then Dw else if j < k then dyT (L.getD j (0, 0)) else [])) ∧ Hid (RowT B w7 lv Ls) ∧ Hid (Below w.heap.size w w7))
        case first =>
          go_wp2
          go_meet
          exact ⟨Lib.hid (C5.out.other HNE.out _), Lib.hid (T5.out.set hlt Dw), Lib.hid (own_out R5.out HO.out _), Lib.hid (B5.out.setCell (Nat.le_refl _) _)⟩
        case rest =>
        obtain ⟨w7, rfl⟩ : ∃ x : World, x = wc := ⟨_, rfl⟩
        obtain ⟨C7, T7, R7, B7⟩ := hcut
        clear C5 T5 R5 B5 c1 dc t1 t2
        have c0 := (C7.out.2 0 _ rfl).1
        by_cases x0 : X = 0
        · have e0 : (X != 0) = false := by rw [x0]; rfl
          have T8 : Hid (TxR w.heap.size w7 n (fun j => if j < k + 1 then dyT (L.getD j (0, 0)) else [])) := Lib.hid (T7.out.like (fun j _ => by
            by_cases e : j = k
            · subst e
              rw [if_pos rfl, if_pos (by omega), HX.out, dyT, if_pos x0]
              exact HDw.out.symm
            · rw [if_neg e]
              by_cases e2 : j < k
              · rw [if_pos e2, if_pos (by omega)]
              · rw [if_neg e2, if_neg (by omega)]))
          clear HX T7 x0 HDw
          go_wp2
          go_roundw
          case rel => exact ⟨k + 1, by omega, by go_num, T8, R7, B7⟩
          case measure => simp [intOf]; omega
        · have e0 : (X != 0) = true := by rw [bne, beq_eq_false_iff_ne.2 x0]; rfl
          obtain ⟨T, hT⟩ : ∃ T, Lib.itoa X = T := ⟨_, rfl⟩
          have HT := Lib.hid hT
          have tl : T.length ≤ 21 := by rw [← hT]; exact Lib.itoa_length_le X hbx.out.1 hbx.out.2
          have q1 : ¬ 9223372036854775807 < T.length + Dw.length := by omega
          have HPd := Lib.hid (show Pow w7.drew from (HP.out.stays B7.out).drewN 1)
          have f2 := (T7.out.2 k hlt)
          have Sd : Hid (w7.drew.cell? ⟨p, 0, Option.none⟩ = some (.int .i64 X) ∧ w7.drew.cell? ⟨w.heap.size, k, Option.none⟩ = some (.string ⟨Dw.toArray⟩) ∧ w7.drew.frozen? ⟨w.heap.size, k, Option.none⟩ = false) := Lib.hid ⟨c0, by have e : w7.cell? ⟨w.heap.size, k, Option.none⟩ = some (.string ⟨(if k = k then Dw else if k < k then dyT (L.getD k (0, 0)) else []).toArray⟩) := f2.1; rw [if_pos rfl] at e; exact e, f2.2⟩
          have PL : Hid (p < w7.drew.heap.size ∧ w.heap.size < w7.drew.heap.size) := Lib.hid ⟨C7.out.1, T7.out.1⟩
          clear f2 hT
          go_upto_region 9 with fail
          refine Hr.Walk.region (R := fun up x => up.getD 11 false = false → x.cell? ⟨p, 0, Option.none⟩ = some (.int .i64 X) ∧ x.cell? ⟨w.heap.size, k, Option.none⟩ = some (.string ⟨Dw.toArray⟩) ∧ x.frozen? ⟨w.heap.size, k, Option.none⟩ = false) (by kernel_rfl) ?_
          refine Hr.Walk.take (i := 0) (v := ?v0) (fun x => x.cell? ⟨p, 0, Option.none⟩ = some (.int .i64 X) ∧ x.cell? ⟨w.heap.size, k, Option.none⟩ = some (.string ⟨Dw.toArray⟩) ∧ x.frozen? ⟨w.heap.size, k, Option.none⟩ = false) (fun up => up.getD 11 false = false) rfl (by kernel_rfl) (by kernel_rfl) (by kernel_rfl) (fun _ _ _ h => h) (Hr.keepI (s := 11) rfl (by kernel_rfl)) (fun _ _ hu hr => hr hu) (fun up y => Hr.keepR (s := 11) (i := 0) (S := fun x => x.cell? ⟨p, 0, Option.none⟩ = some (.int .i64 X) ∧ x.cell? ⟨w.heap.size, k, Option.none⟩ = some (.string ⟨Dw.toArray⟩) ∧ x.frozen? ⟨w.heap.size, k, Option.none⟩ = false) (by decide) up y) rfl (Or.inl ⟨by rfl, ?hy0⟩) Sd.out (fun _ => Sd.out) ?rest0
          case hy0 => intro x hx; have e0 := hx.1; have e1 := hx.2.1; clear hx; go_simp; try with_reducible rfl
          refine Hr.Walk.take (i := 1) (v := ?v1) (fun x => x.cell? ⟨p, 0, Option.none⟩ = some (.int .i64 X) ∧ x.cell? ⟨w.heap.size, k, Option.none⟩ = some (.string ⟨Dw.toArray⟩) ∧ x.frozen? ⟨w.heap.size, k, Option.none⟩ = false) (fun up => up.getD 11 false = false) rfl (by kernel_rfl) (by kernel_rfl) (by kernel_rfl) (fun _ _ _ h => h) (Hr.keepI (s := 11) rfl (by kernel_rfl)) (fun _ _ hu hr => hr hu) (fun up y => Hr.keepR (s := 11) (i := 1) (S := fun x => x.cell? ⟨p, 0, Option.none⟩ = some (.int .i64 X) ∧ x.cell? ⟨w.heap.size, k, Option.none⟩ = some (.string ⟨Dw.toArray⟩) ∧ x.frozen? ⟨w.heap.size, k, Option.none⟩ = false) (by decide) up y) rfl (Or.inl ⟨by rfl, ?hy1⟩) Sd.out (fun _ => Sd.out) ?rest1
          case hy1 => intro x hx; have e0 := hx.1; have e1 := hx.2.1; clear hx; go_simp; try with_reducible rfl
          refine Hr.Walk.take (i := 2) (v := ?v2) (fun x => x.cell? ⟨p, 0, Option.none⟩ = some (.int .i64 X) ∧ x.cell? ⟨w.heap.size, k, Option.none⟩ = some (.string ⟨Dw.toArray⟩) ∧ x.frozen? ⟨w.heap.size, k, Option.none⟩ = false) (fun up => up.getD 11 false = false) rfl (by kernel_rfl) (by kernel_rfl) (by kernel_rfl) (fun _ _ _ h => h) (Hr.keepI (s := 11) rfl (by kernel_rfl)) (fun _ _ hu hr => hr hu) (fun up y => Hr.keepR (s := 11) (i := 2) (S := fun x => x.cell? ⟨p, 0, Option.none⟩ = some (.int .i64 X) ∧ x.cell? ⟨w.heap.size, k, Option.none⟩ = some (.string ⟨Dw.toArray⟩) ∧ x.frozen? ⟨w.heap.size, k, Option.none⟩ = false) (by decide) up y) rfl (Or.inl ⟨by rfl, ?hy2⟩) Sd.out (fun _ => Sd.out) ?rest2
          case hy2 => intro x hx; have e0 := hx.1; have e1 := hx.2.1; clear hx; go_simp; try with_reducible rfl
          refine Hr.Walk.take (i := 3) (v := ?v3) (fun x => x.cell? ⟨p, 0, Option.none⟩ = some (.int .i64 X) ∧ x.cell? ⟨w.heap.size, k, Option.none⟩ = some (.string ⟨Dw.toArray⟩) ∧ x.frozen? ⟨w.heap.size, k, Option.none⟩ = false) (fun up => up.getD 11 false = false) rfl (by kernel_rfl) (by kernel_rfl) (by kernel_rfl) (fun _ _ _ h => h) (Hr.keepI (s := 11) rfl (by kernel_rfl)) (fun _ _ hu hr => hr hu) (fun up y => Hr.keepR (s := 11) (i := 3) (S := fun x => x.cell? ⟨p, 0, Option.none⟩ = some (.int .i64 X) ∧ x.cell? ⟨w.heap.size, k, Option.none⟩ = some (.string ⟨Dw.toArray⟩) ∧ x.frozen? ⟨w.heap.size, k, Option.none⟩ = false) (by decide) up y) rfl (Or.inl ⟨by rfl, ?hy3⟩) Sd.out (fun _ => Sd.out) ?rest3
          case hy3 => intro x hx; have e0 := hx.1; have e1 := hx.2.1; clear hx; go_simp; try with_reducible rfl
          refine Hr.Walk.take (i := 5) (v := ?v5) (fun x => x.cell? ⟨p, 0, Option.none⟩ = some (.int .i64 X) ∧ x.cell? ⟨w.heap.size, k, Option.none⟩ = some (.string ⟨Dw.toArray⟩) ∧ x.frozen? ⟨w.heap.size, k, Option.none⟩ = false) (fun up => up.getD 11 false = false) rfl (by kernel_rfl) (by kernel_rfl) (by kernel_rfl) (fun _ _ _ h => h) (Hr.keepI (s := 11) rfl (by kernel_rfl)) (fun _ _ hu hr => hr hu) (fun up y => Hr.keepR (s := 11) (i := 5) (S := fun x => x.cell? ⟨p, 0, Option.none⟩ = some (.int .i64 X) ∧ x.cell? ⟨w.heap.size, k, Option.none⟩ = some (.string ⟨Dw.toArray⟩) ∧ x.frozen? ⟨w.heap.size, k, Option.none⟩ = false) (by decide) up y) rfl (Or.inl ⟨by rfl, ?hy5⟩) Sd.out (fun _ => Sd.out) ?rest5
          case hy5 => intro x hx; have e0 := hx.1; have e1 := hx.2.1; clear hx; go_simp; try with_reducible rfl
          refine Hr.Walk.take (i := 6) (v := ?v6) (fun x => x.cell? ⟨p, 0, Option.none⟩ = some (.int .i64 X) ∧ x.cell? ⟨w.heap.size, k, Option.none⟩ = some (.string ⟨Dw.toArray⟩) ∧ x.frozen? ⟨w.heap.size, k, Option.none⟩ = false) (fun up => up.getD 11 false = false) rfl (by kernel_rfl) (by kernel_rfl) (by kernel_rfl) (fun _ _ _ h => h) (Hr.keepI (s := 11) rfl (by kernel_rfl)) (fun _ _ hu hr => hr hu) (fun up y => Hr.keepR (s := 11) (i := 6) (S := fun x => x.cell? ⟨p, 0, Option.none⟩ = some (.int .i64 X) ∧ x.cell? ⟨w.heap.size, k, Option.none⟩ = some (.string ⟨Dw.toArray⟩) ∧ x.frozen? ⟨w.heap.size, k, Option.none⟩ = false) (by decide) up y) rfl (Or.inl ⟨by rfl, ?hy6⟩) Sd.out (fun _ => Sd.out) ?rest6
          case hy6 => intro x hx; have e0 := hx.1; have e1 := hx.2.1; clear hx; go_simp; try with_reducible rfl
          refine Hr.Walk.take (i := 7) (v := ?v7) (fun x => x.cell? ⟨p, 0, Option.none⟩ = some (.int .i64 X) ∧ x.cell? ⟨w.heap.size, k, Option.none⟩ = some (.string ⟨Dw.toArray⟩) ∧ x.frozen? ⟨w.heap.size, k, Option.none⟩ = false) (fun up => up.getD 11 false = false) rfl (by kernel_rfl) (by kernel_rfl) (by kernel_rfl) (fun _ _ _ h => h) (Hr.keepI (s := 11) rfl (by kernel_rfl)) (fun _ _ hu hr => hr hu) (fun up y => Hr.keepR (s := 11) (i := 7) (S := fun x => x.cell? ⟨p, 0, Option.none⟩ = some (.int .i64 X) ∧ x.cell? ⟨w.heap.size, k, Option.none⟩ = some (.string ⟨Dw.toArray⟩) ∧ x.frozen? ⟨w.heap.size, k, Option.none⟩ = false) (by decide) up y) rfl (Or.inl ⟨by rfl, ?hy7⟩) Sd.out (fun _ => Sd.out) ?rest7
          case hy7 => intro x hx; have e0 := hx.1; have e1 := hx.2.1; clear hx; go_simp; try with_reducible rfl
          refine Hr.Walk.take (i := 8) (v := ?v8) (fun x => x.cell? ⟨p, 0, Option.none⟩ = some (.int .i64 X) ∧ x.cell? ⟨w.heap.size, k, Option.none⟩ = some (.string ⟨Dw.toArray⟩) ∧ x.frozen? ⟨w.heap.size, k, Option.none⟩ = false) (fun up => up.getD 11 false = false) rfl (by kernel_rfl) (by kernel_rfl) (by kernel_rfl) (fun _ _ _ h => h) (Hr.keepI (s := 11) rfl (by kernel_rfl)) (fun _ _ hu hr => hr hu) (fun up y => Hr.keepR (s := 11) (i := 8) (S := fun x => x.cell? ⟨p, 0, Option.none⟩ = some (.int .i64 X) ∧ x.cell? ⟨w.heap.size, k, Option.none⟩ = some (.string ⟨Dw.toArray⟩) ∧ x.frozen? ⟨w.heap.size, k, Option.none⟩ = false) (by decide) up y) rfl (Or.inl ⟨by rfl, ?hy8⟩) Sd.out (fun _ => Sd.out) ?rest8
          case hy8 => intro x hx; have e0 := hx.1; have e1 := hx.2.1; clear hx; go_simp; try with_reducible rfl
          refine Hr.Walk.one (i := 4) (by kernel_rfl) rfl (fun K hK => ?_)
          go_simp
          go_at_call 37
          (with_reducible refine (itoa_to X T _ HPd.out hbx.out.1 hbx.out.2 HT).mono ?_)
          rintro e w8 ⟨rfl, k8⟩
          have Sw : Hid (w8.cell? ⟨p, 0, Option.none⟩ = some (.int .i64 X) ∧ w8.cell? ⟨w.heap.size, k, Option.none⟩ = some (.string ⟨Dw.toArray⟩) ∧ w8.frozen? ⟨w.heap.size, k, Option.none⟩ = false) := Lib.hid ⟨(k8.cell (p := ⟨p, 0, Option.none⟩) PL.out.1).trans Sd.out.1, (k8.cell (p := ⟨w.heap.size, k, Option.none⟩) PL.out.2).trans Sd.out.2.1, (k8.frozen (p := ⟨w.heap.size, k, Option.none⟩) PL.out.2).trans Sd.out.2.2⟩
          refine hK.out _ _ (fun _ => Sw.out) ?_
          clear hK K
          refine Hr.Walk.one (i := 9) (by kernel_rfl) rfl (fun K hK => ?_)
          go_simp
          refine hK.out _ _ (fun _ => Sw.out) ?_
          clear hK K
          refine Hr.Walk.one (i := 10) (by kernel_rfl) rfl (fun K hK => ?_)
          go_simp
          refine hK.out _ _ (fun _ => Sw.out) ?_
          clear hK K
          have s0 := Sw.out.2.1
          have s1 := Sw.out.2.2
          refine Hr.Walk.one (i := 11) (by kernel_rfl) rfl (fun K hK => ?_)
          go_simp
          refine hK.out _ _ (fun h => absurd h (by decide)) ?_
          clear hK K
          refine Hr.Walk.done (by kernel_rfl) ?_ _
          have T8 : Hid (TxR w.heap.size (w8.setCell ⟨w.heap.size, k, Option.none⟩ (.string ⟨(T ++ Dw).toArray⟩)) n (fun j => if j < k + 1 then dyT (L.getD j (0, 0)) else [])) := Lib.hid ((((T7.out.below (show Below w7.heap.size w7 w7.drew from (Below.refl _ _).drew)).below k8).set hlt (T ++ Dw)).like (fun j _ => by
            by_cases e : j = k
            · subst e
              rw [if_pos rfl, if_pos (by omega), HX.out, dyT, if_neg x0, HT.out]
              show _ = T ++ dayL.getD a []
              rw [HDw.out]
            · rw [if_neg e, if_neg e]
              by_cases e2 : j < k
              · rw [if_pos e2, if_pos (by omega)]
              · rw [if_neg e2, if_neg (by omega)]))
          have R8 := Lib.hid (own_out (i := k) ((R7.out.below (show Below w7.heap.size w7 w7.drew from (Below.refl _ _).drew)).below k8) HO.out (.string ⟨(T ++ Dw).toArray⟩))
          have B8 := Lib.hid ((bstep (bstep B7.out (show Below w7.heap.size w7 w7.drew from (Below.refl _ _).drew)) k8).setCell (p := ⟨w.heap.size, k, Option.none⟩) (Nat.le_refl _) (.string ⟨(T ++ Dw).toArray⟩))
          have HJ2 : Hid ((⟨T.toArray⟩ : ByteArray) ++ ⟨Dw.toArray⟩ = ⟨(T ++ Dw).toArray⟩) := Lib.hid (ByteArray.ext (by simp))
          rw [HJ2.out]
          clear HX T7 x0 HDw HT k8 Sw
          go_wp2
          go_roundw
          case rel => exact ⟨k + 1, by omega, by go_num, T8, R8, B8⟩
          case measure => simp [intOf]; omega
      · have hkn : k = n := by omega
        subst hkn
        obtain ⟨J, hJ⟩ : ∃ J, Lib.join (L.map dyT) [44] = J := ⟨_, rfl⟩
        have HJ := Lib.hid hJ
        have hJl : J.length ≤ 100000 := by
          have q := join_le 44 23 (L.map dyT) (fun x hx => by
            obtain ⟨z, hz, rfl⟩ := List.mem_map.1 hx
            have a := day_bd z.2.toNat
            have b := Lib.itoa_length_le z.1 (by have := hb.out z hz; omega) (by have := hb.out z hz; omega)
            rw [dyT, List.length_append]
            split
            · rw [List.length_nil]; omega
            · omega)
          rw [hJ, List.length_map, HN.out] at q
          omega
        have T5 : Hid (TxR w.heap.size wo k (fun j => (L.map dyT).getD j [])) := Lib.hid (T2.out.like (fun j hj => by
          have hj2 : j < L.length := by rw [HN.out]; exact hj
          simp [hj, hj2]))
        have hLk : (L.map dyT).length = k := by rw [List.length_map, HN.out]
        clear hJ T2
        go_wp2_with fail
        refine (jn_to 44 w.heap.size k (L.map dyT) J _ T5.out hLk (by omega) HJ (by omega)).mono ?_
        rintro e w3 ⟨rfl, k3⟩
        have R3 := Lib.hid (R2.out.below k3)
        have B3 := Lib.hid (bstep B2.out k3)
        have hB3 : B ≤ w3.heap.size := Nat.le_trans hB B3.out.size
        have hn8 : Ls.length ≤ 100000000 := by omega
        have q2 : ¬ 9223372036854775807 < 6 + J.length := by omega
        have HY : Hid (⟨#[66, 89, 68, 65, 89, 61]⟩ ++ ⟨J.toArray⟩ = (⟨([66, 89, 68, 65, 89, 61] ++ J).toArray⟩ : ByteArray)) := Lib.hid (ByteArray.ext (Array.toList_inj.1 (by simp)))
        have HA : Hid (adX Ls L = Ls ++ [[66, 89, 68, 65, 89, 61] ++ J]) := Lib.hid (by rw [adX, if_neg (fun e => h0 (by rw [← HN.out, e]; rfl)), HJ.out])
        go_wp2_with (at_builtin; refine appT rfl _ _ rfl B lv Ls rfl R3.out ([66, 89, 68, 65, 89, 61] ++ J) _ HY.out rfl hn8 hB3 ?_)
        intro w5 gg gcap r5 g5
        have R5 := Lib.hid (show RowT B w5 _ (adX Ls L) from by rw [HA.out]; exact r5)
        have G5 := Lib.hid g5
        clear r5 g5
        go_wp2
        go_ret
        exact ⟨_, rfl, R5, fun B0 W0 h1 h2 h3 => G5.out.below B0 W0 h1 (h3.trans (B3.out.mono h2)) (Nat.le_trans h2 B3.out.size)⟩
end Rct
end Go.Proofs.YtbeefhmnoihmcaaGreatDoor
