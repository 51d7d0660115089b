/-
  Contracts of package atform: letter, isKind, within, Check, Utc, Parse, Text.
-/
import Derived.Test.YtklanblifjgppaaDoorAtMath
import Derived.Test.YtklanblifjgppaaDoorClk4
namespace Go.Proofs.YtklanblifjgppaaDoor
open Go.RowKit
namespace Atf
open Sol Clk
theorem kind_any (k : Int) (w : World) :
    Calls Tryd.prog 60 #[.int .i64 k] w fun e w' => e = .returned (.bool (isK k)) ∧ w = w' := by
  have hk : k = 1 ∨ k = 2 ∨ k = 3 ∨ ¬ (k = 1 ∨ k = 2 ∨ k = 3) := by omega
  rcases hk with rfl | rfl | rfl | hk
  · go_enter Tryd.func60, Tryd.ntmps60
    go_wp2
    go_ret
    exact ⟨rfl, rfl⟩
  · go_enter Tryd.func60, Tryd.ntmps60
    go_wp2
    go_ret
    exact ⟨rfl, rfl⟩
  · go_enter Tryd.func60, Tryd.ntmps60
    go_wp2
    go_ret
    exact ⟨rfl, rfl⟩
  · have c1 : (k == 1) = false := beq_eq_false_iff_ne.2 (by omega)
    have c2 : (k == 2) = false := beq_eq_false_iff_ne.2 (by omega)
    have c3 : (k == 3) = false := beq_eq_false_iff_ne.2 (by omega)
    have H : Hid (isK k = false) := Lib.hid (decide_eq_false (by omega))
    clear hk
    go_enter Tryd.func60, Tryd.ntmps60
    go_wp2
    go_ret
    exact ⟨ret_b H.out.symm, rfl⟩
theorem kind_to (k : Int) (b : Bool) (w : World) (h : Hid (isK k = b)) :
    Calls Tryd.prog 60 #[.int .i64 k] w fun e w' => e = .returned (.bool b) ∧ w = w' :=
  (kind_any k w).mono fun _ _ ⟨he, hw⟩ => ⟨by rw [he, h.out], hw⟩
theorem within_to (n m : Int) (b : Bool) (w : World) (m0 : 0 ≤ m) (m1 : m ≤ 4611686018427387904) (h : Hid (decide (-m ≤ n ∧ n ≤ m) = b)) :
    Calls Tryd.prog 61 #[.int .i64 n, .int .i64 m] w fun e w' => e = .returned (.bool b) ∧ w = w' := by
  by_cases h1 : -m ≤ n
  · by_cases h2 : n ≤ m
    · have H : Hid (b = true) := Lib.hid (by rw [← h.out, decide_eq_true ⟨h1, h2⟩])
      go_enter Tryd.func61, Tryd.ntmps61
      go_wp2
      go_ret
      exact ⟨ret_b H.out.symm, rfl⟩
    · have H : Hid (b = false) := Lib.hid (by rw [← h.out, decide_eq_false (fun x => h2 x.2)])
      go_enter Tryd.func61, Tryd.ntmps61
      go_wp2
      go_ret
      exact ⟨ret_b H.out.symm, rfl⟩
  · have H : Hid (b = false) := Lib.hid (by rw [← h.out, decide_eq_false (fun x => h1 x.1)])
    have h2 : n < -m := by omega
    clear h1
    go_enter Tryd.func61, Tryd.ntmps61
    go_wp2
    go_ret
    exact ⟨ret_b H.out.symm, rfl⟩

set_option maxHeartbeats 800000 in
theorem acheck_any (n k : Int) (w : World) :
    Calls Tryd.prog 45 #[.agg #[.int .i64 n, .int .i64 k]] w fun e w' => e = .returned (.int .i64 (atE n k)) ∧ w.alloc (Obj.cells #[.int .i64 n, .int .i64 k] 72) = w' := by
  by_cases h1 : n < -345600
  · have H : Hid (atE n k = 9) := Lib.hid (by rw [atE, atOk, inS, decide_eq_false (by omega)]; rfl)
    go_enter Tryd.func45, Tryd.ntmps45
    go_wp2
    go_ret
    exact ⟨ret_i H.out.symm, rfl⟩
  · by_cases h2 : 345600 < n
    · have H : Hid (atE n k = 9) := Lib.hid (by rw [atE, atOk, inS, decide_eq_false (by omega)]; rfl)
      go_enter Tryd.func45, Tryd.ntmps45
      go_wp2
      go_ret
      exact ⟨ret_i H.out.symm, rfl⟩
    · cases hb : isK k with
      | false =>
        have H : Hid (atE n k = 9) := Lib.hid (by rw [atE, atOk, hb]; simp)
        have HB := Lib.hid hb
        clear hb
        go_enter Tryd.func45, Tryd.ntmps45
        go_wp2_with fail
        refine (kind_to _ _ _ HB).mono ?_
        rintro e w1 ⟨rfl, rfl⟩
        go_wp2
        go_ret
        exact ⟨ret_i H.out.symm, rfl⟩
      | true =>
        have H : Hid (atE n k = 0) := Lib.hid (by rw [atE, atOk, hb, inS, decide_eq_true ⟨by omega, by omega⟩]; rfl)
        have HB := Lib.hid hb
        clear hb
        go_enter Tryd.func45, Tryd.ntmps45
        go_wp2_with fail
        refine (kind_to _ _ _ HB).mono ?_
        rintro e w1 ⟨rfl, rfl⟩
        go_wp2
        go_ret
        exact ⟨ret_i H.out.symm, rfl⟩
theorem acheck_to (n k c : Int) (w : World) (h : Hid (atE n k = c)) :
    Calls Tryd.prog 45 #[.agg #[.int .i64 n, .int .i64 k]] w fun e w' => e = .returned (.int .i64 c) ∧ w.alloc (Obj.cells #[.int .i64 n, .int .i64 k] 72) = w' :=
  (acheck_any n k w).mono fun _ _ ⟨he, hw⟩ => ⟨by rw [he, h.out], hw⟩

set_option maxHeartbeats 1600000 in
theorem utc_any (l k d s : Int) (w : World) (k1 : -9223372036854775808 ≤ k) (k2 : k ≤ 9223372036854775807) :
    Calls Tryd.prog 46 #[.int .i64 l, .int .i64 k, .int .i64 d, .int .i64 s] w fun e w' => e = .returned (.tuple #[.int .i64 (utV l k d s), .bool (utB l k d s)]) ∧ w = w' := by
  have HU : Hid (utB l k d s = (isK k && inB l && inS d && inS s)) := Lib.hid rfl
  have HV : Hid (utB l k d s = false → utV l k d s = 0) := Lib.hid (fun h => by rw [utV, h]; rfl)
  have HW : Hid (utB l k d s = true → utV l k d s = if k = 1 then l - d - s else if k = 2 then l - d else l) := Lib.hid (fun h => by rw [utV, if_pos h])
  have D1 : Hid (decide (-4611686018427387904 ≤ l ∧ l ≤ 4611686018427387904) = inB l) := Lib.hid rfl
  have D2 : Hid (decide (-345600 ≤ d ∧ d ≤ 345600) = inS d) := Lib.hid rfl
  have D3 : Hid (decide (-345600 ≤ s ∧ s ≤ 345600) = inS s) := Lib.hid rfl
  cases hk : isK k with
  | false =>
    have HK := Lib.hid hk
    have H : Hid (utB l k d s = false) := Lib.hid (by rw [HU.out, hk]; rfl)
    clear hk
    go_enter Tryd.func46, Tryd.ntmps46
    go_wp2_with fail
    refine (kind_to _ _ _ HK).mono ?_
    rintro e w1 ⟨rfl, rfl⟩
    go_wp2
    go_ret2
    exact ⟨ret_ib (HV.out H.out).symm H.out.symm, rfl⟩
  | true =>
    have HK := Lib.hid hk
    have hkk : 1 ≤ k ∧ k ≤ 3 := of_decide_eq_true hk
    cases hl : inB l with
    | false =>
      rw [hl] at D1
      have H : Hid (utB l k d s = false) := Lib.hid (by rw [HU.out, hl]; simp)
      clear hk hl
      go_enter Tryd.func46, Tryd.ntmps46
      go_wp2_with fail
      refine (kind_to _ _ _ HK).mono ?_
      rintro e w1 ⟨rfl, rfl⟩
      go_wp2_with fail
      refine (within_to _ _ _ _ (by omega) (by omega) D1).mono ?_
      rintro e w1 ⟨rfl, rfl⟩
      go_wp2
      go_ret2
      exact ⟨ret_ib (HV.out H.out).symm H.out.symm, rfl⟩
    | true =>
      rw [hl] at D1
      have b1 := (inB_iff l).1 hl
      cases hd : inS d with
      | false =>
        rw [hd] at D2
        have H : Hid (utB l k d s = false) := Lib.hid (by rw [HU.out, hd]; simp)
        clear hk hl hd
        go_enter Tryd.func46, Tryd.ntmps46
        go_wp2_with fail
        refine (kind_to _ _ _ HK).mono ?_
        rintro e w1 ⟨rfl, rfl⟩
        go_wp2_with fail
        refine (within_to _ _ _ _ (by omega) (by omega) D1).mono ?_
        rintro e w1 ⟨rfl, rfl⟩
        go_wp2_with fail
        refine (within_to _ _ _ _ (by omega) (by omega) D2).mono ?_
        rintro e w1 ⟨rfl, rfl⟩
        go_wp2
        go_ret2
        exact ⟨ret_ib (HV.out H.out).symm H.out.symm, rfl⟩
      | true =>
        rw [hd] at D2
        have b2 : -345600 ≤ d ∧ d ≤ 345600 := of_decide_eq_true hd
        cases hs : inS s with
        | false =>
          rw [hs] at D3
          have H : Hid (utB l k d s = false) := Lib.hid (by rw [HU.out, hs]; simp)
          clear hk hl hd hs
          go_enter Tryd.func46, Tryd.ntmps46
          go_wp2_with fail
          refine (kind_to _ _ _ HK).mono ?_
          rintro e w1 ⟨rfl, rfl⟩
          go_wp2_with fail
          refine (within_to _ _ _ _ (by omega) (by omega) D1).mono ?_
          rintro e w1 ⟨rfl, rfl⟩
          go_wp2_with fail
          refine (within_to _ _ _ _ (by omega) (by omega) D2).mono ?_
          rintro e w1 ⟨rfl, rfl⟩
          go_wp2_with fail
          refine (within_to _ _ _ _ (by omega) (by omega) D3).mono ?_
          rintro e w1 ⟨rfl, rfl⟩
          go_wp2
          go_ret2
          exact ⟨ret_ib (HV.out H.out).symm H.out.symm, rfl⟩
        | true =>
          rw [hs] at D3
          have b3 : -345600 ≤ s ∧ s ≤ 345600 := of_decide_eq_true hs
          have H : Hid (utB l k d s = true) := Lib.hid (by rw [HU.out, hk, hl, hd, hs]; rfl)
          have HX := Lib.hid (HW.out H.out)
          have hk3 : k = 1 ∨ k = 2 ∨ k = 3 := by omega
          clear hk hl hd hs hkk k1 k2
          rcases hk3 with rfl | rfl | rfl
          all_goals
            go_enter Tryd.func46, Tryd.ntmps46
            go_wp2_with fail
            refine (kind_to _ _ _ HK).mono ?_
            rintro e w1 ⟨rfl, rfl⟩
            go_wp2_with fail
            refine (within_to _ _ _ _ (by omega) (by omega) D1).mono ?_
            rintro e w1 ⟨rfl, rfl⟩
            go_wp2_with fail
            refine (within_to _ _ _ _ (by omega) (by omega) D2).mono ?_
            rintro e w1 ⟨rfl, rfl⟩
            go_wp2_with fail
            refine (within_to _ _ _ _ (by omega) (by omega) D3).mono ?_
            rintro e w1 ⟨rfl, rfl⟩
            go_wp2
            go_ret2
            exact ⟨ret_ib (by rw [HX.out]; rfl) H.out.symm, rfl⟩
theorem utc_to (l k d s v : Int) (b : Bool) (w : World) (k1 : -9223372036854775808 ≤ k) (k2 : k ≤ 9223372036854775807) (h : Hid (utV l k d s = v ∧ utB l k d s = b)) :
    Calls Tryd.prog 46 #[.int .i64 l, .int .i64 k, .int .i64 d, .int .i64 s] w fun e w' => e = .returned (.tuple #[.int .i64 v, .bool b]) ∧ w = w' :=
  (utc_any l k d s w k1 k2).mono fun _ _ ⟨he, hw⟩ => ⟨by rw [he, h.out.1, h.out.2], hw⟩

end Atf
end Go.Proofs.YtklanblifjgppaaDoor
