/-
  Contracts of package clock, third part: Parse, Split, Join.
-/
import Derived.Test.YtpcnpacllkiieaaGreatDoorClk2
import Derived.Outline
namespace Go.Proofs.YtpcnpacllkiieaaGreatDoor
open Go.RowKit
namespace Clk
open Sol
theorem ret_ii {a a' b b' : Int} (h : a = a') (k : b = b') : Ending.returned (.tuple #[.int .i64 a, .int .i64 b]) = .returned (.tuple #[.int .i64 a', .int .i64 b']) := by rw [h, k]
theorem cut_at (s : ByteArray) (L D : List UInt8) (b : Bool) (w : World) (hL : Hid (s.data.toList = L)) (h : Hid (dg L = D ∧ neg L = b)) :
    Calls Tryz.prog 141 #[.string s, .string ⟨#[45]⟩] w fun e w' => e = .returned (.tuple #[.string ⟨D.toArray⟩, .bool b]) ∧ w = w' :=
  (Tryz.strings_CutPrefix s ⟨#[45]⟩ w).mono fun _ _ ⟨he, hw⟩ => ⟨by rw [he, hL.out, ← h.out.1, ← h.out.2]; rfl, hw.symm⟩
theorem cl_dash : clB [45] = true ∧ clV [45] = 0 ∧ clE [45] = 0 := by decide +kernel
theorem clE_yes {l : List UInt8} (h : clB l = true) : clE l = 0 := by rw [clE, if_pos h]
theorem dg_len (l : List UInt8) : (dg l).length ≤ l.length := by
  unfold dg Lib.trimPrefix
  split
  · rw [List.length_drop]; omega
  · exact Nat.le_refl _

set_option maxHeartbeats 800000 in
theorem cparse_any (s : ByteArray) (L : List UInt8) (w : World) (hs : s.size ≤ maxLen) (hL : Hid (s.data.toList = L)) :
    Calls Tryz.prog 107 #[.string s] w fun e w' => e = .returned (.tuple #[.int .i64 (clV L), .int .i64 (clE L)]) ∧ ∃ n, w' = w.drewN n := by
  unfold maxLen at hs
  by_cases h1 : L = [45]
  · subst h1
    have he : s.toList = [45] := by rw [Lib.toList_data]; exact hL.out
    go_enter Tryz.func107, Tryz.ntmps107
    go_wp2
    go_ret2
    exact ⟨ret_ii cl_dash.2.1.symm cl_dash.2.2.symm, 0, rfl⟩
  · have he : (s.toList == [45]) = false := beq_eq_false_iff_ne.2 (by rw [Lib.toList_data, hL.out]; exact h1)
    have hl := Lib.size_eq s
    rw [hL.out] at hl
    have hdl := dg_len L
    have HB : Hid (clB L = (readB (dg L) && decide (readV (dg L) ≤ 345600))) := Lib.hid (by rw [clB, decide_eq_false h1, Bool.false_or])
    have HV : Hid (clV L = if clB L then (if neg L then -readV (dg L) else readV (dg L)) else 0) := Lib.hid (by rw [clV, if_neg h1])
    have rb := read_bd (l := dg L)
    obtain ⟨D, hD⟩ : ∃ D, dg L = D := ⟨_, rfl⟩
    obtain ⟨ng, hng⟩ : ∃ b, neg L = b := ⟨_, rfl⟩
    rw [hD] at HB HV rb hdl
    rw [hng] at HV
    have C := Lib.hid (And.intro hD hng)
    have MR := Lib.hid (read_any ⟨D.toArray⟩ D w (by show D.length ≤ _; unfold maxLen; omega) (Lib.hid rfl))
    obtain ⟨rv, hrv⟩ : ∃ x, readV D = x := ⟨_, rfl⟩
    obtain ⟨rr, hrr⟩ : ∃ x, readB D = x := ⟨_, rfl⟩
    rw [hrv] at HB HV rb MR
    rw [hrr] at HB MR
    have HN := Lib.hid (fun h => cl_no (l := L) h)
    have HE := Lib.hid (fun h => clE_yes (l := L) h)
    clear hD hng hrv hrr h1 hl
    cases rr with
    | false =>
      have H : Hid (clB L = false) := Lib.hid (by rw [HB.out]; rfl)
      go_enter Tryz.func107, Tryz.ntmps107
      go_wp2_with fail
      refine (cut_at s L D ng _ hL C).mono ?_
      rintro e w1 ⟨rfl, rfl⟩
      go_wp2_with fail
      refine MR.out.mono ?_
      rintro e w1 ⟨rfl, n, rfl⟩
      go_wp2
      go_ret2
      exact ⟨ret_ii (HN.out H.out).1.symm (HN.out H.out).2.symm, _, rfl⟩
    | true =>
      by_cases h2 : rv ≤ 345600
      · have H : Hid (clB L = true) := Lib.hid (by rw [HB.out, decide_eq_true h2]; rfl)
        cases ng with
        | false =>
          have HW : Hid (clV L = rv) := Lib.hid (by rw [HV.out, if_pos H.out]; rfl)
          go_enter Tryz.func107, Tryz.ntmps107
          go_wp2_with fail
          refine (cut_at s L D false _ hL C).mono ?_
          rintro e w1 ⟨rfl, rfl⟩
          go_wp2_with fail
          refine MR.out.mono ?_
          rintro e w1 ⟨rfl, n, rfl⟩
          go_wp2
          go_ret2
          exact ⟨ret_ii HW.out.symm (HE.out H.out).symm, _, rfl⟩
        | true =>
          have HW : Hid (clV L = -rv) := Lib.hid (by rw [HV.out, if_pos H.out, if_pos rfl])
          go_enter Tryz.func107, Tryz.ntmps107
          go_wp2_with fail
          refine (cut_at s L D true _ hL C).mono ?_
          rintro e w1 ⟨rfl, rfl⟩
          go_wp2_with fail
          refine MR.out.mono ?_
          rintro e w1 ⟨rfl, n, rfl⟩
          go_wp2
          go_ret2
          exact ⟨ret_ii HW.out.symm (HE.out H.out).symm, _, rfl⟩
      · have h3 : 345600 < rv := by omega
        have H : Hid (clB L = false) := Lib.hid (by rw [HB.out, decide_eq_false h2]; rfl)
        clear h2
        go_enter Tryz.func107, Tryz.ntmps107
        go_wp2_with fail
        refine (cut_at s L D ng _ hL C).mono ?_
        rintro e w1 ⟨rfl, rfl⟩
        go_wp2_with fail
        refine MR.out.mono ?_
        rintro e w1 ⟨rfl, n, rfl⟩
        go_wp2
        go_ret2
        exact ⟨ret_ii (HN.out H.out).1.symm (HN.out H.out).2.symm, _, rfl⟩

def jnB (d s : Int) : Bool := decide ((-1152921504606846976 ≤ d ∧ d ≤ 1152921504606846976) ∧ (-53375995583651 ≤ d + s / 86400 ∧ d + s / 86400 ≤ 53375995583650) ∧ (-4611686018427387904 ≤ d * 86400 + s ∧ d * 86400 + s ≤ 4611686018427387904))
def jnV (d s : Int) : Int := if jnB d s then d * 86400 + s else 0
theorem ret_ib {a a' : Int} {b b' : Bool} (h : a = a') (k : b = b') : Ending.returned (.tuple #[.int .i64 a, .bool b]) = .returned (.tuple #[.int .i64 a', .bool b']) := by rw [h, k]
theorem jn_no {d s : Int} (h : ¬ ((-1152921504606846976 ≤ d ∧ d ≤ 1152921504606846976) ∧ (-53375995583651 ≤ d + s / 86400 ∧ d + s / 86400 ≤ 53375995583650) ∧ (-4611686018427387904 ≤ d * 86400 + s ∧ d * 86400 + s ≤ 4611686018427387904))) : jnB d s = false ∧ jnV d s = 0 := by
  have e : jnB d s = false := decide_eq_false h
  exact ⟨e, by rw [jnV, e]; rfl⟩
theorem jn_yes {d s : Int} (h : (-1152921504606846976 ≤ d ∧ d ≤ 1152921504606846976) ∧ (-53375995583651 ≤ d + s / 86400 ∧ d + s / 86400 ≤ 53375995583650) ∧ (-4611686018427387904 ≤ d * 86400 + s ∧ d * 86400 + s ≤ 4611686018427387904)) : jnB d s = true ∧ jnV d s = d * 86400 + s := by
  have e : jnB d s = true := decide_eq_true h
  exact ⟨e, by rw [jnV, if_pos e]⟩

end Clk
end Go.Proofs.YtpcnpacllkiieaaGreatDoor
