/-
  recur.endIsRight: a rule says of its end what it has to, and once. (Written by gen/gen_rckh.py.)
-/
import Derived.Test.YtfdamkiocefgmaaDoorRckA
import Derived.Test.YtfdamkiocefgmaaDoorBdF
import Derived.Test.YtfdamkiocefgmaaDoorBdD
namespace Go.Proofs.YtfdamkiocefgmaaDoor
open Go.RowKit
namespace Rck
open Cel
open Rcv (CV IntV DayV LisV RecV)
open Civ (Ahead dY dM dD dnE)
def endB (un : Bool) (ua : Int) (ut : Bool) (ct : Int) : Bool := if un = true then (decide (dnE (ua / 86400) = 0) && decide (1 ≤ dY (ua / 86400)) && decide (dY (ua / 86400) ≤ 9999) && decide (ct = 0)) else (decide (ua = 0) && !ut)
set_option maxHeartbeats 6400000 in
set_option maxRecDepth 100000 in
theorem en_to (v0 v1 ua ct : Int) (un ut r : Bool) (v6 v7 v8 v9 v10 v11 v12 v13 v14 v15 : Value) (w : World) (hA : Ahead w) (hu1 : -9223372036854775808 ≤ ua) (hu2 : ua ≤ 9223372036854775807) (hr : Hid (endB un ua ut ct = r)) :
    Calls Tryd.prog 23 #[.agg #[.int .i64 v0, .int .i64 v1, .int .i64 ct, .bool un, .int .i64 ua, .bool ut, v6, v7, v8, v9, v10, v11, v12, v13, v14, v15]] w fun e w' => e = .returned (.bool r) ∧ Below w.heap.size w w' := by
  have HA := Lib.hid hA
  clear hA
  go_enter Tryd.func23, Tryd.ntmps23
  go_upto_region 0 with fail
  go_cut [1] (fun p w0 => p = .pointer (some ⟨w.heap.size, 0, none⟩) ∧ Hid (Cs w.heap.size w0 [.int .i64 v0, .int .i64 v1, .int .i64 ct, .bool un, .int .i64 ua, .bool ut, v6, v7, v8, v9, v10, v11, v12, v13, v14, v15]) ∧ Hid (Below w.heap.size w w0))
  case first =>
    go_wp2
    go_meet
    exact ⟨rfl, Lib.hid (Cs.new w _ _), Lib.hid ((Below.refl _ _).alloc (Nat.le_refl _) _)⟩
  case rest =>
  obtain ⟨w0, rfl⟩ : ∃ x : World, x = wc := ⟨_, rfl⟩
  obtain ⟨rfl, C, B⟩ := hcut
  have l2 := (C.out.2 2 _ rfl).1
  have l3 := (C.out.2 3 _ rfl).1
  have l4 := (C.out.2 4 _ rfl).1
  have l5 := (C.out.2 5 _ rfl).1
  cases un with
  | false =>
    by_cases z : ua = 0
    · have e : r = !ut := by rw [← hr.out, endB, if_neg (by decide), z]; simp
      subst z e
      clear hr
      cases ut with
      | false =>
        go_wp2
        go_ret
        exact ⟨rfl, B.out⟩
      | true =>
        go_wp2
        go_ret
        exact ⟨rfl, B.out⟩
    · have e : r = false := by rw [← hr.out, endB, if_neg (by decide), decide_eq_false z]; rfl
      have p : (ua == 0) = false := beq_eq_false_iff_ne.2 z
      subst e
      clear hr
      go_wp2
      go_ret
      exact ⟨rfl, B.out⟩
  | true =>
    obtain ⟨d, hd⟩ : ∃ d, ua / 86400 = d := ⟨_, rfl⟩
    obtain ⟨E, hE⟩ : ∃ E, dnE d = E := ⟨_, rfl⟩
    obtain ⟨Y, hY⟩ : ∃ Y, dY d = Y := ⟨_, rfl⟩
    obtain ⟨M, hM⟩ : ∃ M, dM d = M := ⟨_, rfl⟩
    obtain ⟨D, hD⟩ : ∃ D, dD d = D := ⟨_, rfl⟩
    have HR : Hid ((decide (E = 0) && decide (1 ≤ Y) && decide (Y ≤ 9999) && decide (ct = 0)) = r) := Lib.hid (by
      have q := hr.out
      rw [endB, if_pos rfl, hd, hE, hY] at q; exact q)
    have HD := Lib.hid (And.intro hd (And.intro hE (And.intro hY (And.intro hM hD))))
    clear hr hd hE hY hM hD
    go_wp2_with fail
    refine (Clk.csplit_any ua _ hu1 hu2).mono ?_
    rintro e w1 ⟨rfl, m, rfl⟩
    have HA1 := Lib.hid ((HA.out.stays B.out).drewN m)
    rw [HD.out.1]
    go_wp2_with fail
    refine (Civ.date_any d _ HA1.out).mono ?_
    rintro e w2 ⟨rfl, k2⟩
    have C2 := Lib.hid ((C.out.drewN m).below k2)
    have B2 := Lib.hid (bstep (B.out.trans ((show Below w0.heap.size w0 (w0.drewN m) from ⟨rfl, rfl, rfl, Nat.le_refl _, fun _ _ => rfl⟩).mono B.out.size)) k2)
    rw [HD.out.2.1, HD.out.2.2.1, HD.out.2.2.2.1, HD.out.2.2.2.2]
    clear k2 l2 l3 l4 l5 HA1 C B
    have l2 := (C2.out.2 2 _ rfl).1
    have r0 := C2.out.1
    by_cases z : E = 0
    case neg =>
      have e : r = false := by rw [← HR.out, decide_eq_false z]; rfl
      have p : (E == 0) = false := beq_eq_false_iff_ne.2 z
      subst e
      clear HR z
      go_wp2
      go_ret
      exact ⟨rfl, B2.out.alloc B2.out.size _⟩
    subst z
    by_cases y1 : 1 ≤ Y
    case neg =>
      have e : r = false := by rw [← HR.out, decide_eq_false y1]; rfl
      subst e
      clear HR
      go_wp2
      go_ret
      exact ⟨rfl, B2.out.alloc B2.out.size _⟩
    by_cases y2 : Y ≤ 9999
    case neg =>
      have e : r = false := by rw [← HR.out, decide_eq_false y2, Bool.and_false]; rfl
      subst e
      clear HR
      go_wp2
      go_ret
      exact ⟨rfl, B2.out.alloc B2.out.size _⟩
    have e : r = (ct == 0) := by rw [← HR.out, decide_eq_true y1, decide_eq_true y2]; by_cases q : ct = 0 <;> simp [q]
    subst e
    clear HR
    go_wp2
    go_ret
    exact ⟨rfl, B2.out.alloc B2.out.size _⟩
end Rck
end Go.Proofs.YtfdamkiocefgmaaDoor
