/-
  EncodeSame: a form's day stays in its month in each year just if it is encoded.
-/
import Derived.Test.YtklanblifjgppaaDoorEncS0
import Derived.Test.YtklanblifjgppaaDoorEncWk
import Derived.Test.YtklanblifjgppaaDoorSome7
import Derived.Test.YtklanblifjgppaaDoorRefCiv3
namespace Go.Proofs.YtklanblifjgppaaDoor
open Go.RowKit
namespace Enc
open Wk Civ
theorem resolve_to (y m k v d N E : Int) (w : World) (hA : Ahead w) (h : Hid (resV y m k v d = N ∧ resE y m k v d = E)) :
    Calls Tryd.prog 15 #[.int .i64 y, .int .i64 m, .agg #[.int .i64 k, .int .i64 v, .int .i64 d]] w fun e w' => e = .returned (.tuple #[.int .i64 N, .int .i64 E]) ∧ Below w.heap.size w w' :=
  (resolve_any y m k v d w hA).mono fun _ _ ⟨he, hw⟩ => ⟨by rw [he, h.out.1, h.out.2], hw⟩
theorem rdate_to (n Y M D : Int) (w : World) (h0 : -719528 ≤ n) (h1 : n ≤ 2933262) (h : Hid (dY n = Y ∧ dM n = M ∧ dD n = D)) :
    Calls Tryd.prog 16 #[.int .i64 n] w fun e w' => e = .returned (.agg #[.int .i64 Y, .int .i64 M, .int .i64 D]) ∧ Below w.heap.size w w' :=
  (rdate_any n w h0 h1).mono fun _ _ ⟨he, hw⟩ => ⟨by rw [he, h.out.1, h.out.2.1, h.out.2.2], hw⟩
/-- A form that a call has laid at g. -/
def On3 (g : Nat) (a b c : Int) (w : World) : Prop := g < w.heap.size ∧ w.cell? ⟨g, 0, none⟩ = some (.int .i64 a) ∧ w.cell? ⟨g, 1, none⟩ = some (.int .i64 b) ∧ w.cell? ⟨g, 2, none⟩ = some (.int .i64 c)
theorem On3.new (w : World) (t : TypeId) (a b c : Int) : On3 w.heap.size a b c (w.alloc (Obj.cells #[.int .i64 a, .int .i64 b, .int .i64 c] t)) := by
  refine ⟨by simp, ?_, ?_, ?_⟩ <;> go_simp
theorem On3.below {g : Nat} {a b c : Int} {w w' : World} (h : On3 g a b c w) (hb : Below w.heap.size w w') : On3 g a b c w' := by
  obtain ⟨a0, a1, a2, a3⟩ := h
  have c := fun i => hb.cell (p := ⟨g, i, none⟩) a0
  exact ⟨Nat.lt_of_lt_of_le a0 hb.size, (c 0).trans a1, (c 1).trans a2, (c 2).trans a3⟩
theorem uu (x m : Int) (hm : 0 < m) : ∃ q : Int, (IntKind.u64.wrap x).tmod m = q ∧ IntKind.u64.wrap x % m = q ∧ 0 ≤ q ∧ q < m := by
  have h0 : 0 ≤ IntKind.u64.wrap x := by rw [IntKind.wrap_u64]; omega
  exact ⟨IntKind.u64.wrap x % m, Int.tmod_eq_emod_of_nonneg h0, rfl, Int.emod_nonneg _ (by omega), Int.emod_lt_of_pos _ hm⟩
theorem any_succ (f : Nat → Bool) (i : Nat) : (List.range (i + 1)).any f = ((List.range i).any f || f i) := by
  rw [List.range_succ, List.any_append]; simp
set_option maxHeartbeats 12800000 in
set_option maxRecDepth 100000 in
theorem esame_any (month k v d y : Int) (w : World) (hA : Ahead w) :
    Calls Tryd.prog 5 #[.int .i64 month, .int .i64 k, .int .i64 v, .int .i64 d, .int .i64 y] w fun e w' => e = .returned (.bool true) ∧ Below w.heap.size w w' := by
  have HA := Lib.hid hA
  clear hA
  obtain ⟨m0, e1, e2, m1, m2⟩ := uu month 12 (by decide)
  obtain ⟨y0, e3, e4, y1, y2⟩ := uu y 9990 (by decide)
  obtain ⟨A, hA⟩ : ∃ x, smK k = x := ⟨_, rfl⟩
  obtain ⟨B, hB⟩ : ∃ x, smW k v = x := ⟨_, rfl⟩
  obtain ⟨C, hC⟩ : ∃ x, smD k d = x := ⟨_, rfl⟩
  have hok := sm_ok k v d
  rw [hA, hB, hC] at hok
  have S1 := Lib.hid (And.intro hA (And.intro hB hC))
  have OK := Lib.hid hok
  obtain ⟨c, hc⟩ : ∃ x, enE (1 + m0) A B C = x := ⟨_, rfl⟩
  have HC := Lib.hid hc
  have hcs : (A = 2 ∧ c = 0) ∨ ((A == 2) = false ∧ A ≠ 2 ∧ c = 0) ∨ ((A == 2) = false ∧ (c == 0) = false ∧ (List.range 40).any (smB (1 + m0) A B C) = true) := by
    by_cases h : A = 2
    · exact Or.inl ⟨h, by rw [← hc, enE, if_pos h]⟩
    · by_cases h0 : c = 0
      · exact Or.inr (Or.inl ⟨beq_eq_false_iff_ne.2 h, h, h0⟩)
      · exact Or.inr (Or.inr ⟨beq_eq_false_iff_ne.2 h, beq_eq_false_iff_ne.2 h0, en_out (by omega) hok (by rw [hc]; exact h0)⟩)
  have hcs := Lib.hid hcs
  clear hA hB hC hok hc
  go_enter Tryd.func5, Tryd.ntmps5
  go_wp2_with fail
  refine (some7_to _ _ _ A B C _ S1).mono ?_
  rintro e w1 ⟨rfl, b1⟩
  have o1 := Lib.hid (On3.new w1 37 A B C)
  have b2 : Below w.heap.size w (w1.alloc (Obj.cells #[.int .i64 A, .int .i64 B, .int .i64 C] 37)) := b1.alloc b1.size _
  go_wp2_with fail
  refine (on0_to (1 + m0) A B C c _ (by omega) OK.out HC).mono ?_
  rintro e w2' ⟨r, ⟨rf, ri, rk, pd, nd, cd, pm, nm, cm, po, no, co, rfl⟩, rfl, d2⟩
  have b2' := b2.trans (d2.mono b2.size)
  have o2' := o1.out.below d2
  go_upto_region 4 with fail
  generalize hW : World.alloc _ _ = w2
  have hb2 : Below w2'.heap.size w2' w2 := by
    rw [← hW]
    repeat (first | (with_reducible exact Below.refl _ _) | (with_reducible refine Below.setCell ?_ (Nat.le_refl _) _) | (with_reducible refine Below.alloc ?_ (Nat.le_refl _) _))
  have B2 := Lib.hid (b2'.trans (hb2.mono b2'.size))
  have O2 := Lib.hid (o2'.below hb2)
  obtain ⟨q0, q1, q2, q3⟩ := O2.out
  clear b1 b2 d2 b2' o2' hb2 hW
  rcases hcs.out with ⟨rfl, rfl⟩ | ⟨a2, a3, rfl⟩ | ⟨a2, c0, hany⟩
  · go_wp2_with fail
    refine (wakes24_any _).mono ?_
    rintro e w3 ⟨rfl, d3⟩
    go_wp2
    go_ret
    exact ⟨rfl, B2.out.trans (d3.mono B2.out.size)⟩
  · obtain ⟨r1, r2, r3, r4⟩ := en_in (y := 1 + y0) (month := 1 + m0) (k := A) (v := B) (d := C) (by omega) (by omega) OK.out a3 HC.out
    obtain ⟨N, hN⟩ : ∃ x, resV (1 + y0) (1 + m0) A B C = x := ⟨_, rfl⟩
    rw [hN] at r2 r3 r4
    have RN := Lib.hid (And.intro hN r1)
    obtain ⟨DY, hY⟩ : ∃ x, dY N = x := ⟨_, rfl⟩
    obtain ⟨DD, hD⟩ : ∃ x, dD N = x := ⟨_, rfl⟩
    have RD := Lib.hid (And.intro hY (And.intro r2 hD))
    have hf : ∀ w, (Instr.field 47 (.agg #[.int .i64 DY, .int .i64 (1 + m0), .int .i64 DD]) 1).run Tryd.prog w = .ok (.int .i64 (1 + m0)) w := fun _ => by kernel_rfl
    clear hN r1 r2 hY hD
    go_wp2_with fail
    refine (resolve_to _ _ _ _ _ N 0 _ (HA.out.stays B2.out) RN).mono ?_
    rintro e w3 ⟨rfl, d3⟩
    have B3 := Lib.hid (B2.out.trans (d3.mono B2.out.size))
    clear d3 q0 q1 q2 q3
    go_wp2_with fail
    refine (rdate_to N DY (1 + m0) DD _ r3 r4 RD).mono ?_
    rintro e w4 ⟨rfl, d4⟩
    have B4 := Lib.hid (B3.out.trans (d4.mono B3.out.size))
    clear d4
    go_wp2_with fail
    refine (wakes24_any _).mono ?_
    rintro e w5 ⟨rfl, d5⟩
    go_wp2
    go_ret
    exact ⟨rfl, B4.out.trans (d5.mono B4.out.size)⟩
  · have HANY := Lib.hid hany
    clear hany
    go_wp2
    go_loopw [16, 17] (fun mt iv wr => ∃ i : Nat, i ≤ 40 ∧ iv = .int .i64 i ∧ mt = .bool ((List.range i).any (smB (1 + m0) A B C)) ∧ Below w2.heap.size w2 wr) (fun _ iv _ => 40 - (intOf iv).toNat)
    case atStart => exact ⟨0, by omega, rfl, rfl, Below.refl _ _⟩
    case round =>
      obtain ⟨i, hi, rfl, rfl, hb⟩ := hrel
      have O3 := Lib.hid (O2.out.below hb)
      obtain ⟨p0, p1, p2, p3⟩ := O3.out
      have BR := Lib.hid (B2.out.trans (hb.mono B2.out.size))
      have HB := Lib.hid hb
      clear hb q0 q1 q2 q3
      by_cases hx : i = 40
      · subst hx
        have ha := HANY.out
        rw [ha]
        go_wp2_with fail
        refine (wakes24_any _).mono ?_
        rintro e w5 ⟨rfl, d5⟩
        go_wp2
        go_ret
        exact ⟨rfl, BR.out.trans (d5.mono BR.out.size)⟩
      · have hlt : i < 40 := by omega
        have hS : Hid ((List.range (i + 1)).any (smB (1 + m0) A B C) = ((List.range i).any (smB (1 + m0) A B C) || smB (1 + m0) A B C i)) := Lib.hid (any_succ _ _)
        obtain ⟨t, ht⟩ : ∃ t, (List.range i).any (smB (1 + m0) A B C) = t := ⟨_, rfl⟩
        rw [ht] at hS ⊢
        have nb := res_bd (y := 2000 + (i : Int)) (m := 1 + m0) (k := A) (v := B) (d := C) (by omega)
        have hsm : smB (1 + m0) A B C i = (!(resE (2000 + i) (1 + m0) A B C == 0) || (!(dM (resV (2000 + i) (1 + m0) A B C) == (1 + m0)) || ((1 + m0) == 2 && dD (resV (2000 + i) (1 + m0) A B C) == 29))) := rfl
        obtain ⟨N, hN⟩ : ∃ x, resV (2000 + (i : Int)) (1 + m0) A B C = x := ⟨_, rfl⟩
        obtain ⟨E, hE⟩ : ∃ x, resE (2000 + (i : Int)) (1 + m0) A B C = x := ⟨_, rfl⟩
        have RN := Lib.hid (And.intro hN hE)
        rw [hN] at nb hsm
        rw [hE] at hsm
        obtain ⟨DY, hY⟩ : ∃ x, dY N = x := ⟨_, rfl⟩
        obtain ⟨DM, hM⟩ : ∃ x, dM N = x := ⟨_, rfl⟩
        obtain ⟨DD, hD⟩ : ∃ x, dD N = x := ⟨_, rfl⟩
        have RD := Lib.hid (And.intro hY (And.intro hM hD))
        rw [hM, hD] at hsm
        clear hN hE hY hM hD ht
        have hcase : (t = true ∧ (List.range (i + 1)).any (smB (1 + m0) A B C) = true) ∨ (t = false ∧ (((E == 0) = false ∧ (List.range (i + 1)).any (smB (1 + m0) A B C) = true) ∨ (E = 0 ∧ (((DM == 1 + m0) = false ∧ (List.range (i + 1)).any (smB (1 + m0) A B C) = true) ∨
            (DM = 1 + m0 ∧ (((1 + m0 == 2) = false ∧ (List.range (i + 1)).any (smB (1 + m0) A B C) = false) ∨ ((1 + m0 == 2) = true ∧ (((DD == 29) = false ∧ (List.range (i + 1)).any (smB (1 + m0) A B C) = false) ∨ (DD = 29 ∧ (List.range (i + 1)).any (smB (1 + m0) A B C) = true)))))))))  := by
          rw [hS.out, hsm]
          cases t with
          | true => exact Or.inl ⟨rfl, rfl⟩
          | false =>
            refine Or.inr ⟨rfl, ?_⟩
            by_cases x1 : E = 0
            · refine Or.inr ⟨x1, ?_⟩
              by_cases x2 : DM = 1 + m0
              · refine Or.inr ⟨x2, ?_⟩
                by_cases x3 : 1 + m0 = 2
                · have x4 : m0 = 1 := by omega
                  refine Or.inr ⟨beq_iff_eq.2 x3, ?_⟩
                  by_cases x5 : DD = 29
                  · exact Or.inr ⟨x5, by subst x1 x2 x4 x5; rfl⟩
                  · exact Or.inl ⟨beq_eq_false_iff_ne.2 x5, by subst x1 x2 x4; simp [x5]⟩
                · exact Or.inl ⟨beq_eq_false_iff_ne.2 x3, by subst x1 x2; simp [x3]⟩
              · exact Or.inl ⟨beq_eq_false_iff_ne.2 x2, by subst x1; simp [x2]⟩
            · exact Or.inl ⟨beq_eq_false_iff_ne.2 x1, by simp [x1]⟩
        have hcase := Lib.hid hcase
        clear hsm hS
        obtain ⟨T, hT⟩ : ∃ T, (List.range (i + 1)).any (smB (1 + m0) A B C) = T := ⟨_, rfl⟩
        rw [hT] at hcase
        have HT := Lib.hid hT
        clear hT
        go_wp2_with fail
        refine (resolve_to _ _ _ _ _ N E _ (HA.out.stays BR.out) RN).mono ?_
        rintro e w3 ⟨rfl, d3⟩
        have B3 := Lib.hid (HB.out.trans (d3.mono HB.out.size))
        clear d3 p0 p1 p2 p3
        have f1 : ∀ M : Int, ∀ w, (Instr.field 47 (.agg #[.int .i64 DY, .int .i64 M, .int .i64 DD]) 1).run Tryd.prog w = .ok (.int .i64 M) w := fun _ _ => by kernel_rfl
        have f2 : ∀ M : Int, ∀ w, (Instr.field 47 (.agg #[.int .i64 DY, .int .i64 M, .int .i64 DD]) 2).run Tryd.prog w = .ok (.int .i64 DD) w := fun _ _ => by kernel_rfl
        rcases hcase.out with ⟨rfl, rfl⟩ | ⟨rfl, ⟨c1, rfl⟩ | ⟨rfl, ⟨c2, rfl⟩ | ⟨rfl, ⟨c3, rfl⟩ | ⟨c3, ⟨c4, rfl⟩ | ⟨rfl, rfl⟩⟩⟩⟩⟩
        · skip
          go_wp2
          go_roundw
          case rel => exact ⟨i + 1, by omega, by go_num, by rw [HT.out], B3.out⟩
          case measure => simp [intOf]; omega
        · have c1' : (E != 0) = true := by simp [bne, c1]
          go_wp2
          go_roundw
          case rel => exact ⟨i + 1, by omega, by go_num, by rw [HT.out], B3.out⟩
          case measure => simp [intOf]; omega
        · have c2' : (DM != 1 + m0) = true := by simp [bne, c2]
          go_wp2_with fail
          refine (rdate_to N DY DM DD _ nb.1 nb.2 RD).mono ?_
          rintro e w4 ⟨rfl, d4⟩
          have B4 := Lib.hid (B3.out.trans (d4.mono B3.out.size))
          clear d4
          go_wp2
          go_roundw
          case rel => exact ⟨i + 1, by omega, by go_num, by rw [HT.out], B4.out⟩
          case measure => simp [intOf]; omega
        · have c5 : (1 + m0 != 1 + m0) = false := by simp
          go_wp2_with fail
          refine (rdate_to N DY (1 + m0) DD _ nb.1 nb.2 RD).mono ?_
          rintro e w4 ⟨rfl, d4⟩
          have B4 := Lib.hid (B3.out.trans (d4.mono B3.out.size))
          clear d4
          go_wp2
          go_roundw
          case rel => exact ⟨i + 1, by omega, by go_num, by rw [HT.out], B4.out⟩
          case measure => simp [intOf]; omega
        · have c5 : (1 + m0 != 1 + m0) = false := by simp
          go_wp2_with fail
          refine (rdate_to N DY (1 + m0) DD _ nb.1 nb.2 RD).mono ?_
          rintro e w4 ⟨rfl, d4⟩
          have B4 := Lib.hid (B3.out.trans (d4.mono B3.out.size))
          clear d4
          go_wp2_with fail
          refine (rdate_to N DY (1 + m0) DD _ nb.1 nb.2 RD).mono ?_
          rintro e w5 ⟨rfl, d5⟩
          have B5 := Lib.hid (B4.out.trans (d5.mono B4.out.size))
          clear d5
          go_wp2
          go_roundw
          case rel => exact ⟨i + 1, by omega, by go_num, by rw [HT.out], B5.out⟩
          case measure => simp [intOf]; omega
        · have c5 : (1 + m0 != 1 + m0) = false := by simp
          go_wp2_with fail
          refine (rdate_to N DY (1 + m0) 29 _ nb.1 nb.2 RD).mono ?_
          rintro e w4 ⟨rfl, d4⟩
          have B4 := Lib.hid (B3.out.trans (d4.mono B3.out.size))
          clear d4
          go_wp2_with fail
          refine (rdate_to N DY (1 + m0) 29 _ nb.1 nb.2 RD).mono ?_
          rintro e w5 ⟨rfl, d5⟩
          have B5 := Lib.hid (B4.out.trans (d5.mono B4.out.size))
          clear d5
          go_wp2
          go_roundw
          case rel => exact ⟨i + 1, by omega, by go_num, by rw [HT.out], B5.out⟩
          case measure => simp [intOf]; omega
end Enc
end Go.Proofs.YtklanblifjgppaaDoor
