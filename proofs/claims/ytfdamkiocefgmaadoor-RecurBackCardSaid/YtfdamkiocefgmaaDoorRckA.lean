/-
  recur.from: numbers of a span alone, none twice; a table of marks.
-/
import Derived.Test.YtfdamkiocefgmaaDoorRckM
import Derived.Test.YtfdamkiocefgmaaDoorCelR
import Derived.Deep.DeepCutAuto
namespace Go.Proofs.YtfdamkiocefgmaaDoor
open Go.RowKit
namespace Rck
open Cel
open Rcv (CV IntV DayV LisV RecV)
/-- A table of marks: which places are marked. -/
def SeenB (g : Nat) (w : World) (N : Nat) (f : Nat → Bool) : Prop := g < w.heap.size ∧ ∀ i, i < N → w.cell? ⟨g, i, none⟩ = some (.bool (f i)) ∧ w.frozen? ⟨g, i, none⟩ = false
theorem SeenB.new (w : World) (N : Nat) (t : TypeId) : SeenB w.heap.size (w.alloc (Obj.cells (Array.replicate N (.bool false)) t)) N (fun _ => false) := by
  refine ⟨by simp, fun i h => ⟨?_, ?_⟩⟩
  · rw [World.cell?_alloc_at _ _ _ _ rfl, Array.getElem?_replicate, if_pos h]
  · go_simp
theorem SeenB.below {g N : Nat} {w w' : World} {f : Nat → Bool} (h : SeenB g w N f) (hb : Below w.heap.size w w') : SeenB g w' N f :=
  ⟨Nat.lt_of_lt_of_le h.1 hb.size, fun i hi => ⟨(hb.cell (p := ⟨g, i, none⟩) h.1).trans (h.2 i hi).1, (hb.frozen (p := ⟨g, i, none⟩) h.1).trans (h.2 i hi).2⟩⟩
theorem SeenB.like {g N : Nat} {w : World} {f f' : Nat → Bool} (h : SeenB g w N f) (hf : ∀ i, i < N → f i = f' i) : SeenB g w N f' :=
  ⟨h.1, fun i hi => by rw [← hf i hi]; exact h.2 i hi⟩
theorem SeenB.set {g N i : Nat} {w : World} {f : Nat → Bool} (h : SeenB g w N f) (hi : i < N) : SeenB g (w.setCell ⟨g, i, none⟩ (.bool true)) N (fun j => f j || decide (j = i)) := by
  refine ⟨by have := h.1; simpa [World.setCell] using this, fun j hj => ?_⟩
  rw [World.frozen?_setCell]
  refine ⟨?_, (h.2 j hj).2⟩
  by_cases e : j = i
  · subst e
    rw [World.cell?_setCell_same _ _ _ (h.2 j hj).1]
    simp
  · rw [World.cell?_setCell_other _ _ _ _ (fun k => by injection k with _ k _; exact e k.symm), (h.2 j hj).1]
    simp [e]
set_option maxHeartbeats 3200000 in
set_option maxRecDepth 100000 in
theorem frm_to (v : Value) (L : List Int) (a b : Int) (r : Bool) (w : World) (hv : IntV w v L) (hL : L.length ≤ 1000000) (ha : -366 ≤ a) (hb : b ≤ 366) (hr : Hid (frB a b L = r)) :
    Calls Tryd.prog 45 #[v, .int .i64 a, .int .i64 b] w fun e w' => e = .returned (.bool r) ∧ Below w.heap.size w w' := by
  by_cases h0 : L.length = 0
  · have e1 : L = [] := List.length_eq_zero_iff.1 h0
    subst e1
    obtain ⟨q, c, rfl⟩ := hv.nil
    have hr' := hr.out
    rw [frB_nil] at hr'
    subst hr'
    clear hv h0 hL hr ha hb
    go_enter Tryd.func45, Tryd.ntmps45
    go_wp2
    go_ret
    exact ⟨rfl, Below.refl _ _⟩
  · obtain ⟨b1, o1, c1, rfl, hb1, k1⟩ := hv.form (by omega)
    obtain ⟨n, hn⟩ : ∃ n, L.length = n := ⟨_, rfl⟩
    have K1 : Hid (∀ (j : Nat) (hj : j < L.length), w.cell? ⟨b1, o1 + j, Option.none⟩ = some (.int .i64 L[j])) := Lib.hid k1
    have HN := Lib.hid hn
    have HB1 := Lib.hid hb1
    rw [hn] at hL h0 ⊢
    have hne : ((n : Int) == 0) = false := beq_eq_false_iff_ne.2 (by omega)
    clear k1 hv hn hb1
    go_enter Tryd.func45, Tryd.ntmps45
    go_upto_region 3 with fail
    go_cut [7] (fun p w1 => p = .pointer (some ⟨w.heap.size, 0, none⟩) ∧ Hid (SeenB w.heap.size w1 733 (fun _ => false)) ∧ Hid (Below w.heap.size w w1))
    case first =>
      go_wp2
      go_meet
      exact ⟨rfl, Lib.hid (SeenB.new w 733 _), Lib.hid ((Below.refl _ _).alloc (Nat.le_refl _) _)⟩
    case rest =>
    obtain ⟨w1, rfl⟩ : ∃ x : World, x = wc := ⟨_, rfl⟩
    obtain ⟨rfl, T1, B1⟩ := hcut
    go_wp2_with fail
    go_loopw [15] (fun iv wr => ∃ k : Nat, k ≤ n ∧ iv = .int .i64 k ∧ Hid (frB a b (L.take k) = true) ∧ Hid (SeenB w.heap.size wr 733 (fun i => decide ((i : Int) - 366 ∈ L.take k))) ∧ Hid (Below w.heap.size w wr)) (fun iv _ => n - (intOf iv).toNat)
    case atStart => exact ⟨0, Nat.zero_le _, rfl, Lib.hid (by rw [List.take_zero]; exact frB_nil _ _), Lib.hid (T1.out.like (fun i _ => by simp)), B1⟩
    case round =>
      obtain ⟨k, hk, rfl, HT, S, B⟩ := hrel
      obtain ⟨wo, rfl⟩ : ∃ wo : World, wo = wr := ⟨_, rfl⟩
      by_cases hlt : k < n
      · have h1L : k < L.length := by rw [HN.out]; exact hlt
        have g1 := (B.out.cell (p := ⟨b1, o1 + k, Option.none⟩) HB1.out).trans (K1.out k h1L)
        obtain ⟨X, hX⟩ : ∃ X : Int, L[k] = X := ⟨_, rfl⟩
        have HX : Hid (L[k] = X) := Lib.hid hX
        rw [hX] at g1
        clear hX
        by_cases c1 : X < a
        · have hF : r = false := by rw [← hr.out]; exact fr_bad h1L (Or.inl (by rw [HX.out]; exact c1))
          subst hF
          clear HX h1L
          go_wp2
          go_ret
          exact ⟨rfl, B.out⟩
        by_cases c2 : b < X
        · have hF : r = false := by rw [← hr.out]; exact fr_bad h1L (Or.inr (Or.inl (by rw [HX.out]; exact c2)))
          subst hF
          clear HX h1L
          go_wp2
          go_ret
          exact ⟨rfl, B.out⟩
        obtain ⟨i, hi⟩ : ∃ i : Nat, 366 + X = (i : Int) := ⟨(366 + X).toNat, by omega⟩
        have hi2 : i < 733 := by omega
        have s1 : IntKind.i64.wrap (366 + X) = (i : Int) := by rw [hi]; exact IntWalk.i64_in _ (by omega)
        have HI := Lib.hid hi
        have e3 : ((i : Int) - 366) = X := by omega
        have t1 : wo.cell? ⟨w.heap.size, i, Option.none⟩ = some (.bool (decide (X ∈ L.take k))) := by
          have q : wo.cell? ⟨w.heap.size, i, Option.none⟩ = some (.bool (decide ((i : Int) - 366 ∈ L.take k))) := (S.out.2 i hi2).1
          rw [e3] at q
          exact q
        have t2 := (S.out.2 i hi2).2
        by_cases c3 : X ∈ L.take k
        · have hF : r = false := by rw [← hr.out]; exact fr_bad h1L (Or.inr (Or.inr (by rw [HX.out]; exact c3)))
          subst hF
          rw [decide_eq_true c3] at t1
          clear HX h1L c3 hi e3
          go_wp2
          go_ret
          exact ⟨rfl, B.out⟩
        · rw [decide_eq_false c3] at t1
          have HT2 : Hid (frB a b (L.take (k + 1)) = true) := Lib.hid (fr_next h1L HT.out (by rw [HX.out]; omega) (by rw [HX.out]; omega) (by rw [HX.out]; exact c3))
          have S2 : Hid (SeenB w.heap.size (wo.setCell ⟨w.heap.size, i, none⟩ (.bool true)) 733 (fun j => decide ((j : Int) - 366 ∈ L.take (k + 1)))) := Lib.hid ((S.out.set hi2).like (fun j hj => by
            have e := HX.out
            rw [List.take_succ_eq_append_getElem h1L, e]
            have hj : ((j : Int) - 366 = X) ↔ j = i := by have := HI.out; omega
            by_cases q : (j : Int) - 366 ∈ L.take k
            · simp [q]
            · simp [q, hj]))
          clear HX h1L c3 hi e3
          go_wp2
          go_roundw
          case rel => exact ⟨k + 1, by omega, by go_num, HT2, S2, Lib.hid (B.out.setCell (Nat.le_refl _) _)⟩
          case measure => simp [intOf]; omega
      · have hkn : k = n := by omega
        subst hkn
        have hF : r = true := by
          have := HT.out
          rw [List.take_of_length_le (by rw [HN.out]; exact Nat.le_refl _)] at this
          rw [← hr.out]; exact this
        subst hF
        go_wp2
        go_ret
        exact ⟨rfl, B.out⟩
end Rck
end Go.Proofs.YtfdamkiocefgmaaDoor
