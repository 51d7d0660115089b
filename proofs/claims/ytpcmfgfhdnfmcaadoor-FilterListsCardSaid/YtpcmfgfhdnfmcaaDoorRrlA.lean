/-
  The reference's in and list (layer 21): numbers of a span, none twice.
-/
import Derived.Test.YtpcmfgfhdnfmcaaDoorRcvA
import Derived.Deep.DeepCutAuto
import Derived.Lib.QuietBelow
namespace Go.Proofs.YtpcmfgfhdnfmcaaDoor
open Go.RowKit
namespace Rrl
open Cel
open Rcv (CV IntV DayV LisV)
theorem rin_to (n lo hi : Int) (b : Bool) (w : World) (h : decide (lo ≤ n ∧ n ≤ hi) = b) :
    Calls Tryd.prog 42 #[.int .i64 n, .int .i64 lo, .int .i64 hi] w fun e w' => e = .returned (.bool b) ∧ w = w' := by
  go_enter Tryd.func42, Tryd.ntmps42
  by_cases h1 : lo ≤ n
  · by_cases h2 : n ≤ hi
    · obtain rfl : b = true := by rw [← h]; exact decide_eq_true ⟨h1, h2⟩
      go_wp2
      go_ret
      exact ⟨rfl, rfl⟩
    · obtain rfl : b = false := by rw [← h]; exact decide_eq_false (fun q => h2 q.2)
      go_wp2
      go_ret
      exact ⟨rfl, rfl⟩
  · obtain rfl : b = false := by rw [← h]; exact decide_eq_false (fun q => h1 q.1)
    go_wp2
    go_ret
    exact ⟨rfl, rfl⟩
theorem bdrn {n : Nat} {w w' : World} (h : Below n w w') (m : Nat) : Below n w (w'.drewN m) := ⟨h.os, h.tape, h.output, h.size, h.block⟩
def inR (lo hi : Int) (both : Bool) (n : Int) : Bool := decide (lo ≤ n ∧ n ≤ hi) || (both && decide (-hi ≤ n ∧ n ≤ -lo))
def lsR (lo hi : Int) (both : Bool) (L : List Int) : Bool := decide ((∀ n ∈ L, inR lo hi both n = true) ∧ L.Nodup)
theorem ls_nil (lo hi : Int) (both : Bool) : lsR lo hi both [] = true := by simp [lsR]
theorem ls_out {lo hi : Int} {both : Bool} {L : List Int} {k : Nat} (hk : k < L.length) (h : inR lo hi both L[k] = false) : lsR lo hi both L = false := by
  refine decide_eq_false (fun q => ?_)
  have := q.1 _ (List.getElem_mem hk)
  rw [h] at this; cases this
theorem ls_dup {lo hi : Int} {both : Bool} {L : List Int} {j k : Nat} (hk : k < L.length) (hj : j < k) (h : L[j] = L[k]) : lsR lo hi both L = false := by
  refine decide_eq_false (fun q => ?_)
  have := (List.pairwise_iff_getElem.1 q.2) j k (by omega) hk hj
  exact this h
theorem ls_next {lo hi : Int} {both : Bool} {L : List Int} {k : Nat} (hk : k < L.length) (h : lsR lo hi both (L.take k) = true) (h1 : inR lo hi both L[k] = true) (h2 : ∀ (j : Nat) (hj : j < k), L[j] ≠ L[k]) : lsR lo hi both (L.take (k + 1)) = true := by
  have h := of_decide_eq_true h
  rw [List.take_succ_eq_append_getElem hk]
  refine decide_eq_true ⟨fun n hn => ?_, ?_⟩
  · rcases List.mem_append.1 hn with q | q
    · exact h.1 n q
    · rw [List.mem_singleton.1 q]; exact h1
  · rw [List.nodup_append]
    refine ⟨h.2, by simp, fun a ha b hb => ?_⟩
    rw [List.mem_singleton.1 hb]
    obtain ⟨j, hj, rfl⟩ := List.mem_iff_getElem.1 ha
    rw [List.length_take] at hj
    rw [List.getElem_take]
    exact h2 j (by omega)
set_option maxHeartbeats 6400000 in
set_option maxRecDepth 100000 in
theorem rlst_nil (q : Option Addr) (c : Nat) (lo hi : Int) (both : Bool) (w : World) :
    Calls Tryd.prog 43 #[.slice q 0 c, .int .i64 lo, .int .i64 hi, .bool both] w fun e w' => e = .returned (.bool true) ∧ Below w.heap.size w w' := by
  go_enter Tryd.func43, Tryd.ntmps43
  go_wp2_with fail
  go_loopw [9] (fun iv wr => iv = .int .i64 0 ∧ w = wr) (fun _ _ => 0)
  case atStart => exact ⟨rfl, rfl⟩
  case round =>
    obtain ⟨rfl, rfl⟩ := hrel
    go_wp2
    go_ret
    exact ⟨rfl, Below.refl _ _⟩
set_option maxHeartbeats 12800000 in
set_option maxRecDepth 100000 in
theorem rlst_some (b1 o1 n c : Nat) (L : List Int) (lo hi : Int) (both r : Bool) (w : World) (hn : L.length = n) (hb1 : b1 < w.heap.size) (k1 : ∀ (j : Nat) (hj : j < L.length), w.cell? ⟨b1, o1 + j, none⟩ = some (.int .i64 L[j])) (hL : n ≤ 1000000) (h1 : -1000 ≤ lo) (h2 : lo ≤ 1000) (h3 : -1000 ≤ hi) (h4 : hi ≤ 1000) (hr : Hid (lsR lo hi both L = r)) :
    Calls Tryd.prog 43 #[.slice (some ⟨b1, o1, none⟩) n c, .int .i64 lo, .int .i64 hi, .bool both] w fun e w' => e = .returned (.bool r) ∧ Below w.heap.size w w' := by
  have K1 := Lib.hid k1
  have HN := Lib.hid hn
  have HB1 := Lib.hid hb1
  have n1 : IntKind.i64.wrap (-hi) = -hi := IntWalk.i64_in _ (by omega)
  have n2 : IntKind.i64.wrap (-lo) = -lo := IntWalk.i64_in _ (by omega)
  clear k1 hn hb1
  go_enter Tryd.func43, Tryd.ntmps43
  go_wp2_with fail
  go_loopw [9] (fun iv wr => ∃ k : Nat, k ≤ n ∧ iv = .int .i64 k ∧ Hid (lsR lo hi both (L.take k) = true) ∧ Hid (Below w.heap.size w wr)) (fun iv _ => n - (intOf iv).toNat)
  case atStart => exact ⟨0, Nat.zero_le _, rfl, Lib.hid (by rw [List.take_zero]; exact ls_nil _ _ _), Lib.hid (Below.refl _ _)⟩
  case round =>
    obtain ⟨k, hk, rfl, HT, B⟩ := hrel
    obtain ⟨wo, rfl⟩ : ∃ wo : World, wo = wr := ⟨_, rfl⟩
    by_cases hlt : k < n
    case neg =>
      obtain rfl : k = n := by omega
      have hf : lsR lo hi both L = true := by
        have q := HT.out
        rw [← HN.out, List.take_length] at q
        exact q
      have hr' := hr.out
      rw [hf] at hr'
      subst hr'
      go_wp2
      go_ret
      exact ⟨rfl, B.out⟩
    have hkL : k < L.length := by rw [HN.out]; exact hlt
    obtain ⟨X, hX⟩ : ∃ X : Int, L[k] = X := ⟨_, rfl⟩
    have HX := Lib.hid hX
    have g1 : wo.cell? ⟨b1, o1 + k, Option.none⟩ = some (.int .i64 X) := by rw [← hX]; exact (B.out.cell (p := ⟨b1, o1 + k, Option.none⟩) HB1.out).trans (K1.out k hkL)
    clear hX
    obtain ⟨b0, hb0⟩ : ∃ b0, decide (lo ≤ X ∧ X ≤ hi) = b0 := ⟨_, rfl⟩
    obtain ⟨b2, hb2⟩ : ∃ b2, decide (-hi ≤ X ∧ X ≤ -lo) = b2 := ⟨_, rfl⟩
    have HI : Hid (inR lo hi both X = (b0 || (both && b2))) := Lib.hid (by rw [inR, hb0, hb2])
    have HB0 := Lib.hid hb0
    have HB2 := Lib.hid hb2
    clear hb0 hb2
    go_upto_region 4 with fail
    go_cut [39] (fun v wz => v = .bool (!(b0 || (both && b2))) ∧ Hid (Below w.heap.size w wz))
    case first =>
      go_wp2_with fail
      refine (rin_to X lo hi b0 _ HB0.out).mono ?_
      rintro e w2 ⟨rfl, rfl⟩
      cases b0 with
      | true =>
        go_wp2
        go_meet
        exact ⟨by simp, B⟩
      | false =>
        cases both with
        | false =>
          go_wp2
          go_meet
          exact ⟨by simp, B⟩
        | true =>
          go_wp2_with fail
          refine (rin_to X (-hi) (-lo) b2 _ HB2.out).mono ?_
          rintro e w2 ⟨rfl, rfl⟩
          go_wp2
          go_meet
          exact ⟨by simp, B⟩
    case rest =>
    obtain ⟨w2, rfl⟩ : ∃ x : World, x = wc := ⟨_, rfl⟩
    obtain ⟨rfl, B2⟩ := hcut
    clear B g1 HB0 HB2
    obtain ⟨ok, hok⟩ : ∃ ok, (b0 || (both && b2)) = ok := ⟨_, rfl⟩
    rw [hok] at HI ⊢
    clear hok
    cases ok with
    | false =>
      have hf : lsR lo hi both L = false := ls_out hkL (by rw [HX.out]; exact HI.out)
      have hr' := hr.out
      rw [hf] at hr'
      subst hr'
      go_wp2
      go_ret
      exact ⟨rfl, B2.out⟩
    | true =>
    go_wp2_with fail
    go_loopw [10] (fun jv wr => ∃ j : Nat, j ≤ k ∧ jv = .int .i64 j ∧ Hid (∀ (i : Nat) (hi : i < j) (hk : k < L.length) (hj : j ≤ k), L[i] ≠ L[k]) ∧ Hid (Below w.heap.size w wr)) (fun jv _ => k - (intOf jv).toNat)
    case atStart => exact ⟨0, Nat.zero_le _, rfl, Lib.hid (fun i hi => by omega), B2⟩
    case round =>
      obtain ⟨j, hj, rfl, HJ, B3⟩ := hrel
      obtain ⟨w3, rfl⟩ : ∃ wo : World, wo = wr := ⟨_, rfl⟩
      clear B2
      by_cases hjk : j < k
      case neg =>
        obtain rfl : j = k := by omega
        have HN2 : Hid (lsR lo hi both (L.take (j + 1)) = true) := Lib.hid (ls_next hkL HT.out (by rw [HX.out]; exact HI.out) (fun i hi => HJ.out i hi hkL (Nat.le_refl _)))
        go_wp2
        go_roundw
        case rel => exact ⟨j + 1, by omega, by go_num, HN2, B3⟩
        case measure => simp [intOf]; omega
      have hjL : j < L.length := by omega
      obtain ⟨Y, hY⟩ : ∃ Y : Int, L[j] = Y := ⟨_, rfl⟩
      have HY := Lib.hid hY
      have g2 : w3.cell? ⟨b1, o1 + k, Option.none⟩ = some (.int .i64 X) := by have := (B3.out.cell (p := ⟨b1, o1 + k, Option.none⟩) HB1.out).trans (K1.out k hkL); rw [HX.out] at this; exact this
      have g3 : w3.cell? ⟨b1, o1 + j, Option.none⟩ = some (.int .i64 Y) := by have := (B3.out.cell (p := ⟨b1, o1 + j, Option.none⟩) HB1.out).trans (K1.out j hjL); rw [HY.out] at this; exact this
      have jn : j < n := by omega
      clear hY
      go_upto_region 9 with fail
      go_cut [53] (fun v wz => v = .bool (Y == X) ∧ Hid (Below w.heap.size w wz))
      case first =>
        go_quiet (fail)
        go_wp2
        go_meet
        exact ⟨rfl, Lib.hid (bdrn B3.out _)⟩
      case rest =>
      obtain ⟨w4, rfl⟩ : ∃ x : World, x = wc := ⟨_, rfl⟩
      obtain ⟨rfl, B4⟩ := hcut
      clear g2 g3 B3
      by_cases hxy : Y = X
      · have e : (Y == X) = true := beq_iff_eq.2 hxy
        have hf : lsR lo hi both L = false := ls_dup hkL hjk (by rw [HX.out, HY.out]; exact hxy)
        have hr' := hr.out
        rw [hf] at hr'
        subst hr'
        go_wp2
        go_ret
        exact ⟨rfl, B4.out⟩
      · have e : (Y == X) = false := beq_eq_false_iff_ne.2 hxy
        have HJ2 : Hid (∀ (i : Nat) (hi : i < j + 1) (hk : k < L.length) (hj : j + 1 ≤ k), L[i] ≠ L[k]) := Lib.hid (fun i hi hk hj2 => by
          rcases Nat.lt_or_ge i j with q | q
          · exact HJ.out i q hk (by omega)
          · obtain rfl : i = j := by omega
            rw [HX.out, HY.out]; exact hxy)
        clear HJ
        go_wp2
        go_roundw
        case rel => exact ⟨j + 1, by omega, by go_num, HJ2, B4⟩
        case measure => simp [intOf]; omega
theorem rlst_to (v : Value) (L : List Int) (lo hi : Int) (both r : Bool) (w : World) (hv : IntV w v L) (hL : L.length ≤ 1000000) (h1 : -1000 ≤ lo) (h2 : lo ≤ 1000) (h3 : -1000 ≤ hi) (h4 : hi ≤ 1000) (hr : Hid (lsR lo hi both L = r)) :
    Calls Tryd.prog 43 #[v, .int .i64 lo, .int .i64 hi, .bool both] w fun e w' => e = .returned (.bool r) ∧ Below w.heap.size w w' := by
  by_cases h0 : L.length = 0
  · have e1 : L = [] := List.length_eq_zero_iff.1 h0
    subst e1
    obtain ⟨q, c, rfl⟩ := hv.nil
    have hr' := hr.out
    rw [ls_nil] at hr'
    subst hr'
    exact rlst_nil q c lo hi both w
  · obtain ⟨b1, o1, c1, rfl, hb1, k1⟩ := hv.form (by omega)
    exact rlst_some b1 o1 L.length c1 L lo hi both r w rfl hb1 k1 hL h1 h2 h3 h4 hr
end Rrl
end Go.Proofs.YtpcmfgfhdnfmcaaDoor
