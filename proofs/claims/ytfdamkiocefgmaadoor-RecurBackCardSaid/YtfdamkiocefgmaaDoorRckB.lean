/-
  recur.eitherWay: numbers but nought, either way, none twice.
-/
import Derived.Test.YtfdamkiocefgmaaDoorRckA
namespace Go.Proofs.YtfdamkiocefgmaaDoor
open Go.RowKit
namespace Rck
open Cel
open Rcv (CV IntV DayV LisV RecV)
set_option maxHeartbeats 3200000 in
set_option maxRecDepth 100000 in
theorem ew_to (v : Value) (L : List Int) (m : Int) (r : Bool) (w : World) (hv : IntV w v L) (hL : L.length ≤ 1000000) (hm : 0 ≤ m ∧ m ≤ 366) (hr : Hid (eiB m L = r)) :
    Calls Tryd.prog 46 #[v, .int .i64 m] w fun e w' => e = .returned (.bool r) ∧ Below w.heap.size w w' := by
  have s1 : IntKind.i64.wrap (-m) = -m := IntWalk.i64_in _ (by omega)
  have HV := Lib.hid hv
  by_cases h0 : L.length = 0
  · have e1 : L = [] := List.length_eq_zero_iff.1 h0
    subst e1
    obtain ⟨q, c, rfl⟩ := hv.nil
    have HR : Hid (frB (-m) m [] = r) := Lib.hid (by have := hr.out; rwa [ei_all (by simp)] at this)
    clear hv h0 hL hr
    go_enter Tryd.func46, Tryd.ntmps46
    go_wp2_with fail
    go_loopw [9] (fun iv wr => iv = .int .i64 0 ∧ wr = w) (fun _ _ => 0)
    case atStart => exact ⟨rfl, rfl⟩
    case round =>
      obtain ⟨rfl, rfl⟩ := hrel
      go_wp2_with fail
      refine (frm_to _ [] (-m) m r _ HV.out (by simp) (by omega) (by omega) HR).mono ?_
      rintro e w1 ⟨rfl, hB⟩
      go_wp2
      go_ret
      exact ⟨rfl, hB⟩
  · obtain ⟨b1, o1, c1, rfl, hb1, k1⟩ := hv.form (by omega)
    obtain ⟨n, hn⟩ : ∃ n, L.length = n := ⟨_, rfl⟩
    have K1 : Hid (∀ (j : Nat) (hj : j < L.length), w.cell? ⟨b1, o1 + j, Option.none⟩ = some (.int .i64 L[j])) := Lib.hid k1
    have HN := Lib.hid hn
    have HL := Lib.hid hL
    rw [hn] at hL h0 HV ⊢
    clear k1 hv hn hb1
    go_enter Tryd.func46, Tryd.ntmps46
    go_wp2_with fail
    go_loopw [9] (fun iv wr => ∃ k : Nat, k ≤ n ∧ iv = .int .i64 k ∧ Hid (∀ x ∈ L.take k, x ≠ 0) ∧ wr = w) (fun iv _ => n - (intOf iv).toNat)
    case atStart => exact ⟨0, Nat.zero_le _, rfl, Lib.hid (by simp), rfl⟩
    case round =>
      obtain ⟨k, hk, rfl, HT, rfl⟩ := hrel
      by_cases hlt : k < n
      · have h1L : k < L.length := by rw [HN.out]; exact hlt
        have g1 := K1.out k h1L
        obtain ⟨X, hX⟩ : ∃ X : Int, L[k] = X := ⟨_, rfl⟩
        have HX : Hid (L[k] = X) := Lib.hid hX
        rw [hX] at g1
        clear hX
        by_cases c1 : X = 0
        · have hF : r = false := by rw [← hr.out]; exact ei_nought h1L (by rw [HX.out]; exact c1)
          subst hF c1
          clear HX h1L
          go_wp2
          go_ret
          exact ⟨rfl, Below.refl _ _⟩
        · have HT2 : Hid (∀ x ∈ L.take (k + 1), x ≠ 0) := Lib.hid (by
            have e := HX.out
            rw [List.take_succ_eq_append_getElem h1L, e]
            intro x hx
            rcases List.mem_append.1 hx with q | q
            · exact HT.out x q
            · rw [List.mem_singleton.1 q]; exact c1)
          have hne : (X == 0) = false := beq_eq_false_iff_ne.2 c1
          clear HX h1L c1
          go_wp2
          go_roundw
          case rel => exact ⟨k + 1, by omega, by go_num, HT2, by trivial⟩
          case measure => simp [intOf]; omega
      · have hkn : k = n := by omega
        subst hkn
        have HR : Hid (frB (-m) m L = r) := Lib.hid (by
          have := hr.out
          rwa [ei_all (by rw [HN.out]; exact HT.out)] at this)
        go_wp2_with fail
        refine (frm_to _ L (-m) m r _ HV.out HL.out (by omega) (by omega) HR).mono ?_
        rintro e w1 ⟨rfl, hB⟩
        go_wp2
        go_ret
        exact ⟨rfl, hB⟩
end Rck
end Go.Proofs.YtfdamkiocefgmaaDoor
