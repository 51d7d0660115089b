/-
  Several texts in one (RruA, RruB, RruC, RruD).
-/
import Derived.Test.YtpbbnkgfheafpaaGreatDoorBdCl
import Derived.Test.YtpbbnkgfheafpaaGreatDoorShelf
import Derived.Sort.OwnSortedInts
import Derived.Laws.LoneSync
import Derived.Deep.QuietTactic
import Derived.Deep.RegionWith
import Derived.Lib.QuietBelow
import Derived.Deep.DeepCutAuto
import Derived.Deep.MidRow
/-
  Package rrule: rows of numbers sorted and made each once (the library's Sort and Compact); within, orStart.
-/
namespace Go.Proofs.YtpbbnkgfheafpaaGreatDoor
open Go.RowKit Go.Sort
namespace Rru
open Rcv (IntV)
open Ap (RowI)
/-- A list in order. -/
def srt (L : List Int) : List Int := L.mergeSort fun x y => decide (x ≤ y)
theorem srt_len (L : List Int) : (srt L).length = L.length := List.length_mergeSort L
theorem below_grown {w w' : World} {g n : Nat} (h : w.grownBy w' (some g)) (hn : n ≤ g) (hg : g < w.heap.size) : Below n w w' :=
  ⟨h.os, h.tape, h.output, h.size, fun k hk => h.block k (by omega) (by intro e; injection e; omega)⟩
theorem own_take {w : World} {B : Nat} {e : TypeId} {v : Value} {n : Nat} {xs : List Value} {g cap : Nat} (h : w.ownsRow B e 1 v n xs) (hv : v = .slice (some ⟨g, 0, none⟩) n cap) {m : Nat} (hm : m ≤ n) : w.ownsRow B e 1 (.slice (some ⟨g, 0, none⟩) m cap) m (xs.take m) := by
  subst hv
  obtain ⟨hl, h1 | ⟨g', cap', cur, hv, hb, hh, a, b, c, d⟩⟩ := h
  · exact absurd h1.1 (by simp)
  · injection hv with e1 e2 e3
    injection e1 with e1
    injection e1 with e1
    subst e1 e3
    refine ⟨by rw [List.length_take]; omega, .inr ⟨g, cap, cur, rfl, hb, hh, by omega, b, c, ?_⟩⟩
    rw [← d, List.take_take]
    congr 1
    omega
theorem sort_to {B : Nat} {w : World} {v : Value} {L : List Int} (h : RowI B w v L) (hL : L.length ≤ 1000000000) :
    Calls Tryz.prog 63 #[v] w fun e w' => e = .returned (.tuple #[]) ∧ RowI B w' v (srt L) ∧ ∀ n, n ≤ B → Below n w w' := by
  by_cases h0 : L.length = 0
  · obtain rfl : L = [] := List.length_eq_zero_iff.1 h0
    obtain ⟨A, c, rfl⟩ := h.forms
    refine (Tryz.slices_Sort_int_none A c w).mono ?_
    rintro e w' ⟨rfl, rfl⟩
    exact ⟨rfl, by rw [show srt [] = [] from List.length_eq_zero_iff.1 (srt_len [])]; exact h, fun _ _ => Below.refl _ _⟩
  · obtain ⟨g, cap, hv, hB, hg, _, _⟩ := h.form (by omega)
    obtain ⟨hl, h1 | ⟨g', cap', cur, hv', hb, hh, a, b, c, d⟩⟩ := h
    · exact absurd (h1.1.symm.trans hv) (by simp)
    · obtain ⟨rfl, rfl⟩ : g = g' ∧ cap = cap' := by
        have q := hv.symm.trans hv'
        injection q with q1 _ q2
        injection q1 with q1
        injection q1 with q1
        exact ⟨q1, q2⟩
      subst hv
      have H := holds_of_blockI (ss := L) hh (by rw [Nat.mul_one] at d; exact d)
      refine (Tryz.slices_Sort_int g 0 cap L w H hg (by omega)).mono ?_
      rintro e w' ⟨rfl, n, os, rfl⟩
      refine ⟨rfl, ?_, fun m hm => below_grown (grownBy_sortedI _) (by omega) hg⟩
      have r := ownsRow_sortedI (n := n) (os := os) (srt_len L) hb hh a b c
      show World.ownsRow _ _ _ 1 _ (srt L).length ((srt L).map Ap.iv)
      rw [srt_len]
      exact r
theorem compact_to {B : Nat} {w : World} {v : Value} {L : List Int} (h : RowI B w v L) (hL : L.length ≤ 1000000000) :
    Calls Tryz.prog 75 #[v] w fun e w' => ∃ v', e = .returned v' ∧ RowI B w' v' (Lib.compact L) ∧ ∀ n, n ≤ B → Below n w w' := by
  by_cases h0 : L.length = 0
  · obtain rfl : L = [] := List.length_eq_zero_iff.1 h0
    obtain ⟨A, c, rfl⟩ := h.forms
    refine (Tryz.slices_Compact_int_empty A c w).mono ?_
    rintro e w' ⟨rfl, rfl⟩
    exact ⟨_, rfl, h, fun _ _ => Below.refl _ _⟩
  · obtain ⟨g, cap, hv, hB, hg, _, _⟩ := h.form (by omega)
    obtain ⟨hl, h1 | ⟨g', cap', cur, hv', hb, hh, a, b, c, d⟩⟩ := h
    · exact absurd (h1.1.symm.trans hv) (by simp)
    · obtain ⟨rfl, rfl⟩ : g = g' ∧ cap = cap' := by
        have q := hv.symm.trans hv'
        injection q with q1 _ q2
        injection q1 with q1
        injection q1 with q1
        exact ⟨q1, q2⟩
      subst hv
      have H := holds_of_blockI (ss := L) hh (by rw [Nat.mul_one] at d; exact d)
      refine (Tryz.slices_Compact_int g 0 cap L w H (by omega) a).mono ?_
      rintro e w' ⟨rfl, q, rfl⟩
      have hc := Lib.compact_length_le L
      have hlen : (Lib.compact L ++ List.replicate (L.length - (Lib.compact L).length) 0).length = L.length := by simp; omega
      have r := ownsRow_sortedI (n := q) (os := #[]) (ss := L) (ts := Lib.compact L ++ List.replicate (L.length - (Lib.compact L).length) 0) hlen hb hh a b c
      have gb := grownBy_sortedI (w := w) (g := g) (n := q) (os := #[]) (Lib.compact L ++ List.replicate (L.length - (Lib.compact L).length) 0).toArray
      rw [grow_empty] at r gb
      refine ⟨_, rfl, ?_, fun m hm => below_grown gb (by omega) hg⟩
      have t := own_take r rfl hc
      show World.ownsRow _ _ _ 1 _ (Lib.compact L).length ((Lib.compact L).map Ap.iv)
      rw [← List.map_take, List.take_left' rfl] at t
      exact t
theorem getD_at {L : List Int} {j : Nat} (hj : j < L.length) : L.getD j 0 = L[j] := by simp [List.getD, hj]
/-- A list in order, or, of an empty one, a number alone. -/
def orS (L : List Int) (n : Int) : List Int := if L = [] then [n] else srt L
theorem ret_i {a b : Int} (h : a = b) : Ending.returned (.int .i64 a) = .returned (.int .i64 b) := by rw [h]
theorem ret_b {a b : Bool} (h : a = b) : Ending.returned (.bool a) = .returned (.bool b) := by rw [h]
set_option maxHeartbeats 1600000 in
theorem os_to (v : Value) (L : List Int) (n : Int) (w : World) (hv : IntV w v L) (hL : L.length ≤ 1000000) :
    Calls Tryz.prog 49 #[v, .int .i64 n] w fun e w' => ∃ v', e = .returned v' ∧ IntV w' v' (orS L n) ∧ Below w.heap.size w w' := by
  by_cases h0 : L = []
  · subst h0
    obtain ⟨a, c, rfl⟩ := hv.nil
    have C := Lib.hid (Cel.Cs.new w [.int .i64 n] 3)
    clear hv
    go_enter Tryz.func49, Tryz.ntmps49
    go_wp2
    go_ret
    exact ⟨_, rfl, Rcv.int_one C.out, (Below.refl _ _).alloc (Nat.le_refl _) _⟩
  · have hp := Nat.pos_of_ne_zero (mt List.length_eq_zero_iff.1 h0)
    have HO : Hid (orS L n = srt L) := Lib.hid (by rw [orS, if_neg h0])
    obtain ⟨b, o, c, rfl, hb, k⟩ := hv.form hp
    have CL := Lib.hid (fun W (hW : w = W) => Tryz.slices_Clone_int b o L.length c L W (Nat.le_refl _) (by omega) (fun j hj => by rw [← hW, k j hj, getD_at hj]))
    obtain ⟨m, hm⟩ : ∃ m, L.length = m := ⟨_, rfl⟩
    have HM := Lib.hid hm
    rw [hm] at hp CL ⊢
    have z : ((m : Int) == 0) = false := beq_eq_false_iff_ne.2 (by omega)
    have z1 : ¬ m = 0 := by omega
    clear k hv hm hb h0
    go_enter Tryz.func49, Tryz.ntmps49
    go_wp2_with fail
    refine (CL.out _ rfl).mono ?_
    rintro e w2 ⟨v2, rfl, own, -, B2⟩
    have R2 : RowI w.heap.size w2 v2 L := by
      rw [← HM.out] at own
      rw [List.take_length] at own
      exact own
    have B2 := Lib.hid B2
    have R2 := Lib.hid R2
    clear own
    go_wp2_with fail
    refine (sort_to R2.out (by omega)).mono ?_
    rintro e w3 ⟨rfl, R3, k3⟩
    have B3 := Lib.hid (B2.out.trans (k3 _ (Nat.le_refl _)))
    have R3 := Lib.hid R3
    clear k3
    go_wp2
    go_ret
    exact ⟨_, rfl, by rw [HO.out]; exact IntV.of_row R3.out, B3.out⟩
set_option maxHeartbeats 1600000 in
theorem within_to (n : Int) (b : Bool) (w : World) (h : Hid (decide (-4611686018427387904 ≤ n ∧ n ≤ 4611686018427387904) = b)) :
    Calls Tryz.prog 24 #[.int .i64 n] w fun e w' => e = .returned (.bool b) ∧ w' = w := by
  rw [← h.out]
  by_cases h1 : -4611686018427387904 ≤ n
  · by_cases h2 : n ≤ 4611686018427387904
    · rw [decide_eq_true ⟨h1, h2⟩]
      go_enter Tryz.func24, Tryz.ntmps24
      go_wp2
      go_ret
      exact ⟨ret_b (by simp), rfl⟩
    · rw [decide_eq_false (fun q => h2 q.2)]
      go_enter Tryz.func24, Tryz.ntmps24
      go_wp2
      go_ret
      exact ⟨ret_b (by simp), rfl⟩
  · rw [decide_eq_false (fun q => h1 q.1)]
    go_enter Tryz.func24, Tryz.ntmps24
    go_wp2
    go_ret
    exact ⟨ret_b (by simp), rfl⟩
end Rru
end Go.Proofs.YtpbbnkgfheafpaaGreatDoor
/-
  Package rrule: the meter, isFull, take; what a taking leaves.
-/
namespace Go.Proofs.YtpbbnkgfheafpaaGreatDoor
open Go.RowKit
namespace Rru
open Rcv (IntV)
open Ap (RowI Grew)
open Cel
/-- What stands: all but a block and a row that is appended to. -/
structure KP (g : Nat) (v0 : Value) (w0 : World) (v : Value) (w : World) : Prop where
  os : w.os = w0.os
  tape : w.tape = w0.tape
  output : w.output = w0.output
  size : w0.heap.size ≤ w.heap.size
  block : ∀ k, k < w0.heap.size → k ≠ g → some k ≠ v0.ownBlock → w.heap[k]? = w0.heap[k]?
  own : v.ownBlock = v0.ownBlock ∨ ∀ k, v.ownBlock = some k → w0.heap.size ≤ k
theorem KP.refl (g : Nat) (v : Value) (w : World) : KP g v w v w := ⟨rfl, rfl, rfl, Nat.le_refl _, fun _ _ _ _ => rfl, Or.inl rfl⟩
theorem KP.trans {g : Nat} {v0 v1 v2 : Value} {w0 w1 w2 : World} (a : KP g v0 w0 v1 w1) (b : KP g v1 w1 v2 w2) : KP g v0 w0 v2 w2 := by
  refine ⟨b.os.trans a.os, b.tape.trans a.tape, b.output.trans a.output, Nat.le_trans a.size b.size, fun k hk hg h0 => ?_, ?_⟩
  · have h1 : some k ≠ v1.ownBlock := by
      rcases a.own with h | h
      · rw [h]; exact h0
      · intro e
        have := h k e.symm
        omega
    exact (b.block k (Nat.lt_of_lt_of_le hk a.size) hg h1).trans (a.block k hk hg h0)
  · rcases b.own with h | h
    · rw [h]; exact a.own
    · exact Or.inr fun k hk => Nat.le_trans a.size (h k hk)
theorem KP.cell {g : Nat} {v0 v : Value} {w0 w : World} (h : KP g v0 w0 v w) {p : Addr} (hp : p.block < w0.heap.size) (hg : p.block ≠ g) (h0 : some p.block ≠ v0.ownBlock) : w.cell? p = w0.cell? p := World.cell?_of_block (h.block _ hp hg h0)
theorem KP.set {g : Nat} {v : Value} {w : World} (i : Nat) (x : Value) : KP g v w v (w.setCell ⟨g, i, none⟩ x) :=
  ⟨rfl, rfl, rfl, by simp [World.setCell], fun k _ hg _ => Below.heap_setCell _ _ _ _ (by show k ≠ g; exact hg), Or.inl rfl⟩
theorem KP.grew {g B : Nat} {v v' : Value} {w w' : World} (h : Grew B v w w') (hv : v'.ownBlock = v.ownBlock ∨ ∀ k, v'.ownBlock = some k → w.heap.size ≤ k) : KP g v w v' w' :=
  have b := h.below 0 w (Nat.zero_le _) ⟨rfl, rfl, rfl, Nat.le_refl _, fun _ _ => rfl⟩ (Nat.zero_le _)
  ⟨b.os, b.tape, b.output, h.size, fun k hk _ h0 => h.block k hk h0, hv⟩
theorem KP.below {g : Nat} {v : Value} {w w' : World} (h : Below w.heap.size w w') : KP g v w v w' := ⟨h.os, h.tape, h.output, h.size, fun k hk _ _ => h.block k hk, Or.inl rfl⟩
theorem Cs.grew {g B : Nat} {v : Value} {w w' : World} {vs : List Value} (h : Cs g w vs) (k : Grew B v w w') (hne : some g ≠ v.ownBlock) : Cs g w' vs :=
  ⟨Nat.lt_of_lt_of_le h.1 k.size, fun i x hi => ⟨(k.cell (p := ⟨g, i, none⟩) h.1 hne).trans (h.2 i x hi).1, (k.frozen (p := ⟨g, i, none⟩) h.1 hne).trans (h.2 i x hi).2⟩⟩
theorem Cs.kp {g b : Nat} {v0 v : Value} {w w' : World} {vs : List Value} (h : Cs b w vs) (k : KP g v0 w v w') (hg : b ≠ g) (hne : some b ≠ v0.ownBlock) : Cs b w' vs :=
  ⟨Nat.lt_of_lt_of_le h.1 k.size, fun i x hi => ⟨(World.cell?_of_block (a := ⟨b, i, none⟩) (k.block b h.1 hg hne)).trans (h.2 i x hi).1, (World.frozen?_of_block (a := ⟨b, i, none⟩) (k.block b h.1 hg hne)).trans (h.2 i x hi).2⟩⟩
theorem own_ne {B : Nat} {w : World} {v : Value} {L : List Int} (h : RowI B w v L) {g : Nat} (hg : g < B) : some g ≠ v.ownBlock := fun e => by
  have := (World.ownsRow.lt h g e.symm).1
  omega
theorem appIH {w : World} {ops : Array Oper} {rest : List Oper} {o : Oper} {a : Act} {Q : Exit → Act → World → Prop} (hgd : o.guard = none) (s x : Operand)
    (ho : o.op = .call { callee := .builtin .append, args := #[s, x], argTypes := #[26, 26] })
    (B : Nat) (v : Value) (L : List Int) (hs : a.eval s = v) (hown : RowI B w v L) (y : Int)
    (hx : a.eval x = .slice (some ⟨w.heap.size, 0, none⟩) 1 1) (hn : L.length ≤ 100000000) (hB : B ≤ w.heap.size)
    (h : ∀ w' g cap, RowI B w' (.slice (some ⟨g, 0, none⟩) (L.length + 1) cap) (L ++ [y]) → Grew B v w w' → (v.ownBlock = some g ∨ g = w.heap.size + 1) → wpList Tryz.prog ops Q rest (a.put o.dst (.slice (some ⟨g, 0, none⟩) (L.length + 1) cap)) w') :
    wpList Tryz.prog ops Q (o :: rest) a (w.alloc (.cells #[.int .i64 y] 3)) := by
  obtain ⟨i0, hi0, hz0, hz1, hz2⟩ := info_parts Ap.infoI
  refine Ap.appX hgd s x 26 ho B 3 i0 (.int .i64 0) 1 8 (by kernel_rfl) hi0 hz0 hz1 hz2 rfl (by decide) v L.length _ hs hown #[.int .i64 y] 3 rfl (by simp; rfl) hx hn (by decide) hB ?_
  intro w' g cap r3 g3 hat
  refine h w' g cap ?_ g3 hat
  unfold RowI
  rw [List.length_append, List.map_append]
  exact r3
/-- The atomic counter. -/
theorem load_to (g : Nat) (n : Int) (w : World) (hc : w.cell? ⟨g, 0, none⟩ = some (.int .i64 n)) :
    Calls Tryz.prog 34 #[.pointer (some ⟨g, 0, none⟩)] w fun e w' => e = .returned (.int .i64 n) ∧ w' = w := by
  have hl := run_call_load (P := Tryz.prog) Tryz.func56 (by kernel_rfl) (by kernel_rfl) (by kernel_rfl) .i64 (by kernel_rfl) hc
  go_enter Tryz.func34, Tryz.ntmps34
  go_wp2
  go_ret
  exact ⟨rfl, rfl⟩
theorem add_to (g : Nat) (n d s : Int) (w : World) (hc : w.cell? ⟨g, 0, none⟩ = some (.int .i64 n)) (hz : w.frozen? ⟨g, 0, none⟩ = false) (hs : s = n + d) (b1 : -9223372036854775808 ≤ s) (b2 : s ≤ 9223372036854775807) :
    Calls Tryz.prog 54 #[.pointer (some ⟨g, 0, none⟩), .int .i64 d] w fun e w' => e = .returned (.int .i64 s) ∧ w' = w.setCell ⟨g, 0, none⟩ (.int .i64 s) := by
  have hl := run_call_add (P := Tryz.prog) Tryz.func74 (by kernel_rfl) (by kernel_rfl) (by kernel_rfl) .i64 (by kernel_rfl) (x := n) (y := d) (s := s) hc hz (by
    have e : IntKind.i64.wrap (n + d) = s := by rw [← hs]; exact IntWalk.i64_in _ ⟨b1, b2⟩
    simp [Op.intArith, e, go_sem])
  clear hs
  go_enter Tryz.func54, Tryz.ntmps54
  go_wp2
  go_ret
  exact ⟨rfl, rfl⟩
end Rru
end Go.Proofs.YtpbbnkgfheafpaaGreatDoor
/-
  Package rrule: spend, isFull, take.
-/
namespace Go.Proofs.YtpbbnkgfheafpaaGreatDoor
open Go.RowKit
namespace Rru
open Rcv (IntV)
open Ap (RowI Grew)
open Cel
set_option maxHeartbeats 1600000 in
theorem spend_to (g : Nat) (n d f s : Int) (w : World) (c0 : w.cell? ⟨g, 0, none⟩ = some (.int .i64 n)) (z0 : w.frozen? ⟨g, 0, none⟩ = false) (c1 : w.cell? ⟨g, 1, none⟩ = some (.int .i64 f)) (hs : s = n + d) (b1 : -9223372036854775808 ≤ s) (b2 : s ≤ 9223372036854775807) :
    Calls Tryz.prog 31 #[.pointer (some ⟨g, 0, none⟩), .int .i64 d] w fun e w' => e = .returned (.bool (decide (s ≤ f))) ∧ ∃ m, w' = (w.drewN m).setCell ⟨g, 0, none⟩ (.int .i64 s) := by
  have A := Lib.hid (fun m => add_to g n d s (w.drewN m) c0 z0 hs b1 b2)
  clear hs b1 b2
  go_enter Tryz.func31, Tryz.ntmps31
  go_wp2_with fail
  go_region_with ((go_at_call 54; (refine (show Calls _ _ _ w.drew _ from A.out 1).mono ?_); rintro e w2 ⟨rfl, rfl⟩))
  all_goals
    go_wp2
    go_ret
    exact ⟨rfl, _, rfl⟩
set_option maxHeartbeats 1600000 in
theorem full_to (g : Nat) (ct told : Int) (b : Bool) (w : World) (c2 : w.cell? ⟨g, 2, none⟩ = some (.int .i64 ct)) (c21 : w.cell? ⟨g, 21, none⟩ = some (.int .i64 told)) (h : Hid ((decide (0 < ct) && decide (ct ≤ told)) = b)) :
    Calls Tryz.prog 28 #[.pointer (some ⟨g, 0, none⟩)] w fun e w' => e = .returned (.bool b) ∧ Below w.heap.size w w' := by
  rw [← h.out]
  by_cases h1 : 0 < ct
  · rw [decide_eq_true h1, Bool.true_and]
    go_enter Tryz.func28, Tryz.ntmps28
    go_wp2_with fail
    go_quiet (fail)
    go_wp2
    go_ret
    exact ⟨ret_b rfl, ⟨rfl, rfl, rfl, Nat.le_refl _, fun _ _ => rfl⟩⟩
  · rw [decide_eq_false h1, Bool.false_and]
    have d0 : ct ≤ 0 := by omega
    go_enter Tryz.func28, Tryz.ntmps28
    go_wp2_with fail
    have k2 := cell_regrown c2
    clear h c21
    refine wp_region_quiet_below (by kernel_rfl) (by kernel_rfl) ?_
    iterate 8 (quiet_step (skip))
    refine wpQuiet_step (fun K hK => ?_)
    go_simp
    rw [if_neg (show ¬ 0 < ct by omega)]
    generalize hA : (Act.mk _ _) = A
    refine hK _ ?_
    clear hK K
    iterate 10 (refine wpQuiet_step (fun K hK => ?_); subst hA; go_simp; rw [if_neg (show ¬ 0 < ct by omega)]; generalize hA : (Act.mk _ _) = A; refine hK _ ?_; clear hK K)
    subst hA
    iterate 2 (quiet_step (skip))
    refine wpQuiet_nil ?_
    intro w' hw'
    obtain ⟨⟨dq, osq⟩, rfl⟩ := hw'
    go_wp2
    go_ret
    exact ⟨ret_b rfl, below_regrown w dq osq⟩
/-- A gather's cells behind its plan. -/
def gat (ps : List Value) (fr tt : Int) (lv : Value) (told : Int) : List Value := ps ++ [.int .i64 fr, .int .i64 tt, lv, .int .i64 told]
theorem gat_20 {ps : List Value} (hp : ps.length = 18) {fr tt told : Int} {lv v : Value} : (gat ps fr tt lv told).set 20 v = gat ps fr tt v told := by
  rw [gat, gat, List.set_append, if_neg (by omega), hp]
  rfl
theorem gat_21 {ps : List Value} (hp : ps.length = 18) {fr tt told k : Int} {lv : Value} : (gat ps fr tt lv told).set 21 (.int .i64 k) = gat ps fr tt lv k := by
  rw [gat, gat, List.set_append, if_neg (by omega), hp]
  rfl
theorem gat_at {ps : List Value} (hp : ps.length = 18) {fr tt told : Int} {lv : Value} (j : Nat) : (gat ps fr tt lv told)[18 + j]? = [Value.int .i64 fr, .int .i64 tt, lv, .int .i64 told][j]? := by
  rw [gat, List.getElem?_append_right (by omega), hp, Nat.add_sub_cancel_left]
theorem gat_lo {ps : List Value} {fr tt told : Int} {lv v : Value} {j : Nat} (h : ps[j]? = some v) : (gat ps fr tt lv told)[j]? = some v := by
  rw [gat, List.getElem?_append_left (List.getElem?_eq_some_iff.1 h).1]
  exact h
theorem gat_len {ps : List Value} (hp : ps.length = 18) {fr tt told : Int} {lv : Value} : (gat ps fr tt lv told).length = 22 := by simp [gat, hp]
/-- The times that are told, with one more. -/
def tkL (fr tt t : Int) (L : List Int) : List Int := if fr ≤ t ∧ t ≤ tt then L ++ [t] else L
def TakeQ (g B : Nat) (ps : List Value) (fr tt told : Int) (lv : Value) (L : List Int) (w w' : World) : Prop := ∃ lv', Cs g w' (gat ps fr tt lv' told) ∧ RowI B w' lv' L ∧ KP g lv w lv' w' ∧ B ≤ w'.heap.size
set_option maxHeartbeats 3200000 in
theorem take_to (g B : Nat) (ps : List Value) (hp : ps.length = 18) (fr tt told t : Int) (lv : Value) (L : List Int) (w : World) (hg : g < B) (hB : B ≤ w.heap.size) (C : Cs g w (gat ps fr tt lv told)) (R : RowI B w lv L) (hL : L.length ≤ 10000000) (b1 : -9223372036854775808 ≤ told) (b2 : told ≤ 9223372036854775806) :
    Calls Tryz.prog 26 #[.pointer (some ⟨g, 0, none⟩), .int .i64 t] w fun e w' => e = .returned (.tuple #[]) ∧ TakeQ g B ps fr tt (told + 1) lv (tkL fr tt t L) w w' := by
  obtain ⟨L', hL'⟩ : ∃ z, tkL fr tt t L = z := ⟨_, rfl⟩
  have HT := Lib.hid hL'
  rw [hL']
  clear hL'
  have c21 := (C.2 21 _ (gat_at hp 3)).1
  have z21 := (C.2 21 _ (gat_at hp 3)).2
  have C := Lib.hid C
  have R := Lib.hid R
  have HP := Lib.hid hp
  have HB := Lib.hid hB
  have HG := Lib.hid hg
  obtain ⟨AA, cc, rfl⟩ := R.out.forms
  obtain ⟨m, hm⟩ : ∃ m, L.length = m := ⟨_, rfl⟩
  have HM := Lib.hid hm
  have HL := Lib.hid hL
  rw [hm] at C R ⊢
  clear hp hB hg hm hL
  go_enter Tryz.func26, Tryz.ntmps26
  go_upto_region 0 with fail
  go_cut [] (fun wz => Hid (Cs g wz (gat ps fr tt (.slice AA m cc) (told + 1))) ∧ Hid (RowI B wz (.slice AA m cc) L) ∧ Hid (KP g (.slice AA m cc) w (.slice AA m cc) wz) ∧ Hid (B ≤ wz.heap.size))
  case first =>
    go_wp2
    go_meet
    have D := C.out.set 21 (by rw [gat_len HP.out]; decide) (.int .i64 (told + 1))
    rw [gat_21 HP.out] at D
    exact ⟨Lib.hid D, Lib.hid (Rcp.own_cell R.out HG.out _), Lib.hid (KP.set _ _), Lib.hid (by simpa [World.setCell] using HB.out)⟩
  case rest =>
  obtain ⟨w1, rfl⟩ : ∃ x : World, x = wc := ⟨_, rfl⟩
  clear C R HB c21 z21
  obtain ⟨C, R, K, HB⟩ := hcut
  have c18 := (C.out.2 18 _ (gat_at HP.out 0)).1
  have c19 := (C.out.2 19 _ (gat_at HP.out 1)).1
  have c20 := (C.out.2 20 _ (gat_at HP.out 2)).1
  by_cases h1 : fr ≤ t
  case neg =>
    obtain rfl : L = L' := by rw [← HT.out, tkL, if_neg (fun h => h1 h.1)]
    go_wp2
    go_end0
    exact ⟨rfl, _, C.out, R.out, K.out, HB.out⟩
  by_cases h2 : t ≤ tt
  case neg =>
    obtain rfl : L = L' := by rw [← HT.out, tkL, if_neg (fun h => h2 h.2)]
    go_wp2
    go_end0
    exact ⟨rfl, _, C.out, R.out, K.out, HB.out⟩
  obtain rfl : L ++ [t] = L' := by rw [← HT.out, tkL, if_pos ⟨h1, h2⟩]
  have hl : L.length ≤ 100000000 := by have := HL.out; omega
  have hsz := HB.out
  have HN := Lib.hid (own_ne R.out HG.out)
  go_wp2_with (at_builtin; refine appIH rfl _ _ rfl B _ L rfl R.out t rfl hl hsz ?_)
  intro w2 gg gcap r5 g5 hat
  rw [HM.out] at r5 ⊢
  have KG : Hid (KP g (.slice AA m cc) w1 (.slice (some ⟨gg, 0, none⟩) (m + 1) gcap) w2) := Lib.hid (KP.grew g5 (by
    rcases hat with h | h
    · exact Or.inl h.symm
    · exact Or.inr (fun k hk => by
        have e : gg = k := by simpa [Value.ownBlock] using hk
        omega)))
  have C2 := Lib.hid (Cs.grew C.out g5 HN.out)
  have R5 := Lib.hid r5
  have HB2 := Lib.hid (Nat.le_trans HB.out g5.size)
  have z20 := (C2.out.2 20 _ (gat_at HP.out 2)).2
  have y20 := (C2.out.2 20 _ (gat_at HP.out 2)).1
  clear r5 g5 hat C R c18 c19 c20
  go_wp2
  go_end0
  have D := C2.out.set 20 (by rw [gat_len HP.out]; decide) (.slice (some ⟨gg, 0, none⟩) (m + 1) gcap)
  rw [gat_20 HP.out] at D
  exact ⟨rfl, _, D, Rcp.own_cell R5.out HG.out _, (K.out.trans KG.out).trans (KP.set _ _), by simpa [World.setCell] using HB2.out⟩
end Rru
end Go.Proofs.YtpbbnkgfheafpaaGreatDoor
/-
  Package rrule: a struct's load as one step, wherever; mayBe, placesOf.
-/
namespace Go.Proofs.YtpbbnkgfheafpaaGreatDoor
open Go.RowKit
namespace Rru
open Rcv (CV IntV DayV LisV)
open Ap (RowI Grew)
open Cel
theorem range_of {g : Nat} {w : World} {vs us ws : List Value} (C : Cs g w vs) (o : Nat) (h : vs = us ++ ws) (k : Nat) (hk : k ≤ us.length) (ho : o = 0) : w.rangeAt g o (us.take k) := by
  subst ho h
  intro j v hj
  rw [Nat.zero_add]
  refine (C.2 j v ?_).1
  rw [List.getElem?_take] at hj
  split at hj
  · rw [List.getElem?_append_left (by omega)]; exact hj
  · exact absurd hj (by simp)
/-- A struct's load as one step, in a plain region, guarded or not. -/
theorem ldS {P : Program} {ops : Array Oper} {rest : List Oper} {op : Oper} {a : Act} {w : World} {Q : Exit → Act → World → Prop} {g ty : Nat} {d : TypeDesc} {x : Operand} {vs : List Value} (C : w.rangeAt g 0 vs) (ho : op.op = .load ty x) (hu : P.underlying ty = some d) (hd : d.isRow = true) (hi : (P.info? ty).map (·.size) = some vs.length)
    (hw : Region.wanted op (yielded ops a.tmps) = true) (hx : a.eval x = .pointer (some ⟨g, 0, none⟩)) (h : ∀ K : Act → World → Prop, (∀ a w, wpList P ops Q rest a w → K a w) → K (a.put op.dst (.agg vs.toArray)) w) : wpList P ops Q (op :: rest) a w :=
  wpList_step fun K hK => by rw [if_pos hw]; exact wp_load_mid _ x ho g 0 hx vs d C hu hd hi (h K hK)
/-- A struct's store as one step. -/
theorem stS {P : Program} {ops : Array Oper} {rest : List Oper} {op : Oper} {a : Act} {w : World} {Q : Exit → Act → World → Prop} {g ty : Nat} {x y : Operand} {vs us : List Value} (C : Cs g w vs) (hl : us.length = vs.length) (h1 : us.toArray.all (·.oneCell') = true) (ho : op.op = .store ty x y) (hi : (P.info? ty).map (·.size) = some us.length)
    (hw : Region.wanted op (yielded ops a.tmps) = true) (hx : a.eval x = .pointer (some ⟨g, 0, none⟩)) (hy : a.eval y = .agg us.toArray) (h : ∀ K : Act → World → Prop, (∀ a w, wpList P ops Q rest a w → K a w) → K (a.put op.dst undef) (w.setCells g 0 us)) : wpList P ops Q (op :: rest) a w :=
  wpList_step fun K hK => by
    rw [if_pos hw]
    have ht := C.there
    rw [← hl] at ht
    exact wp_store_mid ty x y ho g 0 us.toArray hx hy ht hi h1 (h K hK)
/-- A struct's load in a region that draws its order, walked once. -/
theorem ldQ {P : Program} {ops : Array Oper} {rest : List Oper} {op : Oper} {a : Act} {C : World → Prop} {Q : Act → Prop} {g ty : Nat} {d : TypeDesc} {x : Operand} {vs : List Value} (hc : ∀ w, C w → w.rangeAt g 0 vs) (ho : op.op = .load ty x) (hu : P.underlying ty = some d) (hd : d.isRow = true) (hi : (P.info? ty).map (·.size) = some vs.length)
    (hw : Region.wanted op (yielded ops a.tmps) = true) (hx : a.eval x = .pointer (some ⟨g, 0, none⟩)) (h : wpQuiet P ops C Q rest (a.put op.dst (.agg vs.toArray))) : wpQuiet P ops C Q (op :: rest) a :=
  wpQuiet_step fun K hK => by
    rw [if_pos hw]
    refine ⟨_, fun w hw' => ?_, hK _ h⟩
    unfold Oper.quietAt execOp
    simp only [ho, hx, Instr.loadAt, Instr.sureAddr, Sem.run_bind, Sem.run_pure, Result.andThen_ok, run_loadVar_mid w g 0 ty vs d (hc w hw') hu hd hi]
    exact ⟨rfl, rfl⟩
/-- May a weekday be one of the rule's? -/
def mbB (x : CV) (k : Int) : Bool := decide (x.dy = []) || x.dy.any (fun q => decide (q.2 = k))
theorem any_step {L : List (Int × Int)} {f : Int × Int → Bool} {k : Nat} (hk : k < L.length) : (L.take (k + 1)).any f = ((L.take k).any f || f L[k]) := by
  rw [List.take_succ_eq_append_getElem hk, List.any_append]
  simp
set_option maxHeartbeats 3200000 in
set_option maxRecDepth 100000 in
theorem mb_to (x : CV) (s6 s7 s8 s9 s10 s11 s12 s13 s14 sv : Value) (st k : Int) (b : Bool) (w : World) (hv : DayV w s9 x.dy) (hs : x.dy.length ≤ 1000000) (hb : Hid (mbB x k = b)) :
    Calls Tryz.prog 73 #[.agg #[.int .i64 x.fq, .int .i64 x.iv, .int .i64 x.ct, .bool x.un, .int .i64 x.ua, .bool x.ut, s6, s7, s8, s9, s10, s11, s12, s13, s14, .int .i64 x.wk, .int .i64 st, sv], .int .i64 k] w fun e w' => e = .returned (.bool b) ∧ Below w.heap.size w w' := by
  by_cases h0 : x.dy.length = 0
  · have e : x.dy = [] := List.length_eq_zero_iff.1 h0
    have hB : b = true := by rw [← hb.out, mbB, e]; rfl
    subst hB
    obtain ⟨a9, c9, rfl⟩ := hv.slice
    rw [h0]
    clear hv hb e h0 hs
    go_enter Tryz.func73, Tryz.ntmps73
    go_wp2
    go_ret
    exact ⟨rfl, (Below.refl _ _).alloc (Nat.le_refl _) _⟩
  · obtain ⟨b1, o1, c1, rfl, hb1, k1⟩ := hv.form (by omega)
    have HN0 : x.dy ≠ [] := fun e => h0 (by rw [e]; rfl)
    have HB : Hid (x.dy.any (fun q => decide (q.2 = k)) = b) := Lib.hid (by rw [← hb.out, mbB, decide_eq_false HN0, Bool.false_or])
    have K1 : Hid (∀ (j : Nat) (hj : j < x.dy.length), w.cell? ⟨b1, o1 + j * 2, Option.none⟩ = some (.int .i64 x.dy[j].1) ∧ w.cell? ⟨b1, o1 + j * 2 + 1, Option.none⟩ = some (.int .i64 x.dy[j].2)) := Lib.hid k1
    have HB1 := Lib.hid hb1
    obtain ⟨n, hn⟩ : ∃ n, x.dy.length = n := ⟨_, rfl⟩
    have HN := Lib.hid hn
    have z0 : ((n : Int) == 0) = false := beq_eq_false_iff_ne.2 (by omega)
    have z1 : ¬ n = 0 := by omega
    rw [hn] at hs ⊢
    clear k1 hv hb1 hb HN0 h0 hn
    go_enter Tryz.func73, Tryz.ntmps73
    go_upto_region 0 with fail
    go_cut [2] (fun p wz => p = .pointer (some ⟨w.heap.size, 0, none⟩) ∧ Hid (Cs w.heap.size wz [.int .i64 x.fq, .int .i64 x.iv, .int .i64 x.ct, .bool x.un, .int .i64 x.ua, .bool x.ut, s6, s7, s8, .slice (some ⟨b1, o1, none⟩) n c1, s10, s11, s12, s13, s14, .int .i64 x.wk, .int .i64 st, sv]) ∧ Hid (Below w.heap.size w wz))
    case first =>
      go_wp2
      go_meet
      exact ⟨rfl, Lib.hid (Cs.new w _ _), Lib.hid ((Below.refl _ _).alloc (Nat.le_refl _) _)⟩
    case rest =>
    obtain ⟨w1, rfl⟩ : ∃ x : World, x = wc := ⟨_, rfl⟩
    obtain ⟨rfl, RB, B⟩ := hcut
    have l9 := (RB.out.2 9 _ rfl).1
    go_wp2_with fail
    go_loopw [16] (fun iv wr => ∃ j : Nat, j ≤ n ∧ iv = .int .i64 j ∧ Hid ((x.dy.take j).any (fun q => decide (q.2 = k)) = false) ∧ Hid (Below w.heap.size w wr)) (fun iv _ => n - (intOf iv).toNat)
    case atStart => exact ⟨0, Nat.zero_le _, rfl, Lib.hid (by simp), B⟩
    case round =>
      obtain ⟨j, hj, rfl, HT, B⟩ := hrel
      obtain ⟨wo, rfl⟩ : ∃ wo : World, wo = wr := ⟨_, rfl⟩
      clear l9
      by_cases hlt : j < n
      · have h1L : j < x.dy.length := by rw [HN.out]; exact hlt
        have g1 := (B.out.cell (p := ⟨b1, o1 + j * 2, Option.none⟩) HB1.out).trans (K1.out j h1L).1
        have g2 := (B.out.cell (p := ⟨b1, o1 + j * 2 + 1, Option.none⟩) HB1.out).trans (K1.out j h1L).2
        obtain ⟨X, hX⟩ : ∃ X, x.dy[j].1 = X := ⟨_, rfl⟩
        obtain ⟨V, hV⟩ : ∃ Y, x.dy[j].2 = Y := ⟨_, rfl⟩
        have HXV : Hid (x.dy[j]'h1L = (X, V)) := Lib.hid (by rw [← hX, ← hV])
        have HT2 : Hid ((x.dy.take (j + 1)).any (fun q => decide (q.2 = k)) = decide (V = k)) := Lib.hid (by rw [any_step h1L, HT.out, HXV.out, Bool.false_or])
        have HM : Hid (V = k → b = true) := Lib.hid (fun e => by rw [← HB.out, List.any_eq_true]; exact ⟨x.dy[j]'h1L, List.getElem_mem h1L, by rw [HXV.out]; exact decide_eq_true e⟩)
        rw [hX] at g1
        rw [hV] at g2
        clear hX hV HXV HT h1L
        by_cases v0 : V = k
        · have e1 : (V == k) = true := beq_iff_eq.2 v0
          obtain rfl : b = true := HM.out v0
          clear v0 HM
          go_wp2
          go_ret
          exact ⟨rfl, B.out.alloc B.out.size _⟩
        · have e1 : (V == k) = false := beq_eq_false_iff_ne.2 v0
          have HT3 : Hid ((x.dy.take (j + 1)).any (fun q => decide (q.2 = k)) = false) := Lib.hid (by rw [HT2.out, decide_eq_false v0])
          clear v0 HT2 HM
          go_wp2
          go_roundw
          case rel => exact ⟨j + 1, by omega, by go_num, HT3, Lib.hid (B.out.alloc B.out.size _)⟩
          case measure => simp [intOf]; omega
      · obtain rfl : j = n := by omega
        have hF : b = false := by
          rw [← HB.out]
          have q := HT.out
          rwa [← HN.out, List.take_length] at q
        subst hF
        go_wp2
        go_ret
        exact ⟨rfl, B.out⟩
/-- A place from 0 on, which a number is of so many; those that are there; rising, each once. -/
def plc (c n : Int) : Int := if n < 0 then c + n else n - 1
def plK (N : List Int) (c : Int) : List Int := (N.map (plc c)).filter fun k => decide (0 ≤ k ∧ k < c)
def plL (N : List Int) (c : Int) : List Int := Lib.compact (srt (plK N c))
theorem plK_step {N : List Int} {c : Int} {k : Nat} (hk : k < N.length) : plK (N.take (k + 1)) c = if 0 ≤ plc c N[k] ∧ plc c N[k] < c then plK (N.take k) c ++ [plc c N[k]] else plK (N.take k) c := by
  rw [plK, List.take_succ_eq_append_getElem hk, List.map_append, List.filter_append]
  by_cases h : 0 ≤ plc c N[k] ∧ plc c N[k] < c
  · rw [if_pos h]; simp [plK, h]
  · rw [if_neg h]; simp [plK, h]
theorem plK_len (N : List Int) (c : Int) : (plK N c).length ≤ N.length := by
  rw [plK]
  refine Nat.le_trans (List.length_filter_le _ _) ?_
  simp
set_option maxHeartbeats 3200000 in
set_option maxRecDepth 100000 in
theorem pl_to (v : Value) (N : List Int) (c : Int) (w : World) (hv : IntV w v N) (hN : N.length ≤ 1000000) (hb : ∀ n ∈ N, -1000 ≤ n ∧ n ≤ 1000) (c0 : 0 ≤ c) (c1 : c ≤ 1000000000) :
    Calls Tryz.prog 55 #[v, .int .i64 c] w fun e w' => ∃ v', e = .returned v' ∧ RowI w.heap.size w' v' (plL N c) ∧ Below w.heap.size w w' := by
  obtain ⟨a, cc, rfl⟩ := hv.slice
  have V := Lib.hid hv
  have HB := Lib.hid hb
  obtain ⟨m, hm⟩ : ∃ m, N.length = m := ⟨_, rfl⟩
  have HN := Lib.hid hm
  rw [hm] at V hN ⊢
  clear hv hb hm
  go_enter Tryz.func55, Tryz.ntmps55
  go_wp2_with fail
  go_loopw [5, 11] (fun lv iv wr => ∃ (k : Nat) (l : Value), k ≤ m ∧ l = lv ∧ iv = .int .i64 k ∧ Hid (RowI w.heap.size wr l (plK (N.take k) c)) ∧ Hid (Below w.heap.size w wr)) (fun _ iv _ => m - (intOf iv).toNat)
  case atStart => exact ⟨0, .slice none 0 0, Nat.zero_le _, rfl, rfl, Lib.hid (RowI.nil _ _), Lib.hid (Below.refl _ _)⟩
  case round =>
    obtain ⟨k, l, hk, rfl, rfl, HR, B⟩ := hrel
    obtain ⟨wo, rfl⟩ : ∃ wo : World, wo = wr := ⟨_, rfl⟩
    by_cases hlt : k < m
    · have h1L : k < N.length := by rw [HN.out]; exact hlt
      obtain ⟨b1, o1, c2, hvv, hb1, k1⟩ := V.out.form (by omega)
      injection hvv with e1 e2 e3
      subst e1
      have g1 := (B.out.cell (p := ⟨b1, o1 + k, Option.none⟩) hb1).trans (k1 k h1L)
      obtain ⟨y, hy⟩ : ∃ y, N[k]'h1L = y := ⟨_, rfl⟩
      have yb := HB.out _ (List.getElem_mem h1L)
      rw [hy] at g1 yb
      have r0 : b1 < wo.heap.size := Nat.lt_of_lt_of_le hb1 B.out.size
      have PS := Lib.hid (plK_step (c := c) h1L)
      rw [hy] at PS
      have PL := Lib.hid (Nat.le_trans (plK_len (N.take k) c) (by rw [List.length_take]; omega : (N.take k).length ≤ 1000000))
      obtain ⟨P, hP⟩ : ∃ P, plc c y = P := ⟨_, rfl⟩
      rw [hP] at PS
      obtain ⟨yb1, yb2⟩ := yb
      have hsz := B.out.size
      obtain ⟨Lk, hLk⟩ : ∃ L, plK (N.take k) c = L := ⟨_, rfl⟩
      rw [hLk] at HR PS PL
      have hl : Lk.length ≤ 100000000 := by have := PL.out; omega
      clear e2 e3 hb1 k1 hy h1L hLk PL
      by_cases n0 : y < 0
      · have hPv : P = c + y := by rw [← hP, plc, if_pos n0]
        clear hP
        subst hPv
        by_cases p0 : 0 ≤ c + y
        case neg =>
          have HR2 : Hid (RowI w.heap.size wo l (plK (N.take (k + 1)) c)) := Lib.hid (by rw [PS.out, if_neg (fun h => p0 h.1)]; exact HR.out)
          clear HR PS
          go_wp2
          go_roundw
          case rel => exact ⟨k + 1, l, by omega, rfl, by go_num, HR2, B⟩
          case measure => simp [intOf]; omega
        by_cases p1 : c + y < c
        case neg => omega
        go_wp2_with (at_builtin; refine Ap.appI rfl _ _ rfl w.heap.size _ Lk rfl HR.out (c + y) rfl hl hsz ?_)
        intro wn gg gcap r5 g5
        have B2 := Lib.hid (g5.below w.heap.size w (Nat.le_refl _) B.out hsz)
        have HR2 : Hid (RowI w.heap.size wn (.slice (some ⟨gg, 0, none⟩) (Lk.length + 1) gcap) (plK (N.take (k + 1)) c)) := Lib.hid (by rw [PS.out, if_pos ⟨p0, p1⟩]; exact r5)
        clear g5 r5 HR B PS
        go_wp2
        go_roundw
        case rel => exact ⟨k + 1, _, by omega, rfl, by go_num, HR2, B2⟩
        case measure => simp [intOf]; omega
      · have hPv : P = y - 1 := by rw [← hP, plc, if_neg n0]
        clear hP
        subst hPv
        by_cases p0 : 0 ≤ y - 1
        case neg =>
          have HR2 : Hid (RowI w.heap.size wo l (plK (N.take (k + 1)) c)) := Lib.hid (by rw [PS.out, if_neg (fun h => p0 h.1)]; exact HR.out)
          clear HR PS
          go_wp2
          go_roundw
          case rel => exact ⟨k + 1, l, by omega, rfl, by go_num, HR2, B⟩
          case measure => simp [intOf]; omega
        by_cases p1 : y - 1 < c
        case neg =>
          have HR2 : Hid (RowI w.heap.size wo l (plK (N.take (k + 1)) c)) := Lib.hid (by rw [PS.out, if_neg (fun h => p1 h.2)]; exact HR.out)
          clear HR PS
          go_wp2
          go_roundw
          case rel => exact ⟨k + 1, l, by omega, rfl, by go_num, HR2, B⟩
          case measure => simp [intOf]; omega
        go_wp2_with (at_builtin; refine Ap.appI rfl _ _ rfl w.heap.size _ Lk rfl HR.out (y - 1) rfl hl hsz ?_)
        intro wn gg gcap r5 g5
        have B2 := Lib.hid (g5.below w.heap.size w (Nat.le_refl _) B.out hsz)
        have HR2 : Hid (RowI w.heap.size wn (.slice (some ⟨gg, 0, none⟩) (Lk.length + 1) gcap) (plK (N.take (k + 1)) c)) := Lib.hid (by rw [PS.out, if_pos ⟨p0, p1⟩]; exact r5)
        clear g5 r5 HR B PS
        go_wp2
        go_roundw
        case rel => exact ⟨k + 1, _, by omega, rfl, by go_num, HR2, B2⟩
        case measure => simp [intOf]; omega
    · obtain rfl : k = m := by omega
      have HR2 : Hid (RowI w.heap.size wo l (plK N c)) := Lib.hid (by have q := HR.out; rwa [← HN.out, List.take_length] at q)
      have hlen := Nat.le_trans (plK_len N c) (Nat.le_of_eq HN.out)
      have HL := Lib.hid hlen
      clear HR hlen
      go_wp2_with fail
      refine (sort_to (B := w.heap.size) (v := l) (L := plK N c) HR2.out (by have := HL.out; omega)).mono ?_
      rintro e w3 ⟨rfl, R3, k3⟩
      have B3 := Lib.hid (B.out.trans (k3 _ (Nat.le_refl _)))
      have R3 := Lib.hid R3
      clear k3 HR2 B
      go_wp2_with fail
      refine (compact_to R3.out (by rw [srt_len]; have := HL.out; omega)).mono ?_
      rintro e w4 ⟨v4, rfl, R4, k4⟩
      have B4 := Lib.hid (B3.out.trans (k4 _ (Nat.le_refl _)))
      have R4 := Lib.hid R4
      clear k4 R3 B3
      go_wp2
      go_ret
      exact ⟨_, rfl, R4.out, B4.out⟩
end Rru
end Go.Proofs.YtpbbnkgfheafpaaGreatDoor
