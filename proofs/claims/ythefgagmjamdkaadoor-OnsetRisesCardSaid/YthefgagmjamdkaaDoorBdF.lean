/-
  Several texts in one (Clk, Clk2, Clk3, Clk4, At, At2).
-/
import Derived.Test.YthefgagmjamdkaaDoorBdA
import Derived.Test.YthefgagmjamdkaaDoorBdC
import Derived.Lib.IndexBytes
import Derived.Deep.DeepCutAuto
import Derived.Outline
/-
  Contracts of package clock: sixtieths, read, Parse.
-/
namespace Go.Proofs.YthefgagmjamdkaaDoor
open Go.RowKit
namespace Clk
open Sol
theorem ret_isb {a a' : Int} {s s' : ByteArray} {b b' : Bool} (h : a = a') (k : s = s') (j : b = b') : Ending.returned (.tuple #[.int .i64 a, .string s, .bool b]) = .returned (.tuple #[.int .i64 a', .string s', .bool b']) := by rw [h, k, j]
def SixNo (w : World) (e : Ending) (w' : World) : Prop := ∃ (v : Int) (r : ByteArray) (n : Nat), e = .returned (.tuple #[.int .i64 v, .string r, .bool false]) ∧ w' = w.drewN n
theorem drop_str (s : ByteArray) (k : Nat) : s.extract k s.size = ⟨(s.data.toList.drop k).toArray⟩ := by
  rw [← Lib.extract_to_end, Lib.mk_data]
theorem sixS_str (s : ByteArray) : (s.extract 1 3).data.toList = sixS s.data.toList := by rw [Lib.extract_data]; rfl
theorem head_str (s : ByteArray) (h : 0 < s.size) : s.data.toList.head? = some s[0] := by
  obtain ⟨⟨l⟩⟩ := s
  cases l with
  | nil => exact absurd h (by decide)
  | cons a r => rfl
theorem sixB_mk {l : List UInt8} {c : UInt8} (h1 : 3 ≤ l.length) (h2 : l.head? = some c) (h3 : c = 58) : sixB l = (parseB (sixS l) && decide (parseV (sixS l) < 60)) := by
  have e : l.isEmpty = false := by cases l with | nil => simp at h1 | cons a r => rfl
  rw [sixB, e, h2, h3]; simp [h1]

theorem sixB_inv {l : List UInt8} (h : sixB l = true) : l = [] ∨ (3 ≤ l.length ∧ l.head? = some 58 ∧ parseB (sixS l) = true ∧ parseV (sixS l) < 60) := by
  unfold sixB at h
  simp at h
  rcases h with h | ⟨⟨⟨h1, h2⟩, h3⟩, h4⟩
  · exact Or.inl h
  · exact Or.inr ⟨h1, h2, h3, h4⟩
theorem parseV_nn (l : List UInt8) : 0 ≤ parseV l ∧ parseV l ≤ 1000000000000000000 := by
  unfold parseV
  split
  · rename_i h
    simp [parseB] at h
    have := digVal_le l (by simpa using h.2) h.1.2
    omega
  · omega
theorem emp_yes {s : ByteArray} (h : s.size = 0) : s.toList.isEmpty = true := by
  rw [Lib.toList_data, List.isEmpty_iff, ← List.length_eq_zero_iff, ← Lib.size_eq]; exact h
theorem emp_no {s : ByteArray} (h : ¬ s.size = 0) : s.toList.isEmpty = false := by
  rw [Lib.toList_data, Bool.eq_false_iff]
  intro e
  rw [List.isEmpty_iff, ← List.length_eq_zero_iff, ← Lib.size_eq] at e
  exact h e
theorem nil_of {s : ByteArray} (h : s.size = 0) : s.data.toList = [] := by rw [← List.length_eq_zero_iff, ← Lib.size_eq]; exact h

theorem sixB_b {l : List UInt8} (h : sixB l = false) (h1 : 3 ≤ l.length) (h2 : l.head? = some 58) : (parseB (sixS l) && decide (parseV (sixS l) < 60)) = false := by
  rw [← sixB_mk h1 h2 rfl]; exact h
end Clk
end Go.Proofs.YthefgagmjamdkaaDoor
/-
  Contracts of package clock, second part: read, Parse.
-/
namespace Go.Proofs.YthefgagmjamdkaaDoor
open Go.RowKit
namespace Clk
open Sol
theorem idx_at (s : ByteArray) (L : List UInt8) (v : Int) (w : World) (hL : Hid (s.data.toList = L)) (hv : Hid (Lib.indexByte L 58 = v)) :
    Calls Tryd.prog 80 #[.string s, .int .u8 58] w fun e w' => e = .returned (.int .i64 v) ∧ w = w' :=
  (Tryd.strings_IndexByte s 58 w).mono fun _ _ ⟨he, hw⟩ => ⟨by rw [he, hL.out]; show Ending.returned (.int .i64 (Lib.indexByte L 58)) = _; rw [hv.out], hw.symm⟩
theorem readV_no {l : List UInt8} (h : readB l = false) : readV l = 0 := by rw [readV, h]; rfl
theorem idx_or (L : List UInt8) (n : Nat) (hn : n = L.length) : (Lib.indexByte L 58 < 0 ∧ (hdL L).length = n) ∨ (Lib.indexByte L 58 = ((hdL L).length : Int) ∧ 0 ≤ Lib.indexByte L 58) := by
  rcases idx_hd L with ⟨a, b, c⟩ | ⟨a, b⟩
  · exact Or.inl ⟨a, by rw [b, hn]⟩
  · exact Or.inr ⟨a, by omega⟩
theorem hd_str {s : ByteArray} {L : List UInt8} (h : s.data.toList = L) : (s.extract 0 (hdL L).length).data.toList = hdL L ∧ (s.extract (hdL L).length s.size).data.toList = tlL L ∧ (hdL L).length ≤ s.size := by
  have e := hd_tl L
  have hl := Lib.size_eq s
  rw [h] at hl
  refine ⟨?_, ?_, ?_⟩
  · rw [Lib.extract_data, h, List.drop_zero, Nat.sub_zero]
    have k : (hdL L ++ tlL L).take (hdL L).length = hdL L := List.take_left
    rw [e] at k; exact k
  · rw [Lib.extract_to_end, h]
    have k : (hdL L ++ tlL L).drop (hdL L).length = tlL L := List.drop_left
    rw [e] at k; exact k
  · rw [hl, ← e, List.length_append]; simp [e]
theorem digs3 {a : List UInt8} (h : parseB a = true) (hl : a.length ≤ 3) : 0 ≤ parseV a ∧ parseV a < 1000 := by
  rw [parseV_yes h]
  simp [parseB] at h
  have := digVal_bd a (by simpa using h.2)
  have h2 : (10 : Int) ^ a.length ≤ 1000 := by
    have : a.length = 0 ∨ a.length = 1 ∨ a.length = 2 ∨ a.length = 3 := by omega
    rcases this with e | e | e | e <;> rw [e] <;> decide
  omega
theorem six_lt {L : List UInt8} (h : sixB L = true) : 0 ≤ sixV L ∧ sixV L < 60 := by
  have p := (parseV_nn (sixS L)).1
  rcases sixB_inv h with rfl | ⟨_, _, _, h4⟩
  · decide
  · exact ⟨p, h4⟩

end Clk
end Go.Proofs.YthefgagmjamdkaaDoor
/-
  Contracts of package clock, third part: Parse, Split, Join.
-/
namespace Go.Proofs.YthefgagmjamdkaaDoor
open Go.RowKit
namespace Clk
open Sol
theorem ret_ii {a a' b b' : Int} (h : a = a') (k : b = b') : Ending.returned (.tuple #[.int .i64 a, .int .i64 b]) = .returned (.tuple #[.int .i64 a', .int .i64 b']) := by rw [h, k]
theorem cl_dash : clB [45] = true ∧ clV [45] = 0 ∧ clE [45] = 0 := by decide +kernel
theorem clE_yes {l : List UInt8} (h : clB l = true) : clE l = 0 := by rw [clE, if_pos h]
theorem dg_len (l : List UInt8) : (dg l).length ≤ l.length := by
  unfold dg Lib.trimPrefix
  split
  · rw [List.length_drop]; omega
  · exact Nat.le_refl _

def jnB (d s : Int) : Bool := decide ((-1152921504606846976 ≤ d ∧ d ≤ 1152921504606846976) ∧ (-53375995583651 ≤ d + s / 86400 ∧ d + s / 86400 ≤ 53375995583650) ∧ (-4611686018427387904 ≤ d * 86400 + s ∧ d * 86400 + s ≤ 4611686018427387904))
def jnV (d s : Int) : Int := if jnB d s then d * 86400 + s else 0
theorem ret_ib {a a' : Int} {b b' : Bool} (h : a = a') (k : b = b') : Ending.returned (.tuple #[.int .i64 a, .bool b]) = .returned (.tuple #[.int .i64 a', .bool b']) := by rw [h, k]
theorem jn_no {d s : Int} (h : ¬ ((-1152921504606846976 ≤ d ∧ d ≤ 1152921504606846976) ∧ (-53375995583651 ≤ d + s / 86400 ∧ d + s / 86400 ≤ 53375995583650) ∧ (-4611686018427387904 ≤ d * 86400 + s ∧ d * 86400 + s ≤ 4611686018427387904))) : jnB d s = false ∧ jnV d s = 0 := by
  have e : jnB d s = false := decide_eq_false h
  exact ⟨e, by rw [jnV, e]; rfl⟩
theorem jn_yes {d s : Int} (h : (-1152921504606846976 ≤ d ∧ d ≤ 1152921504606846976) ∧ (-53375995583651 ≤ d + s / 86400 ∧ d + s / 86400 ≤ 53375995583650) ∧ (-4611686018427387904 ≤ d * 86400 + s ∧ d * 86400 + s ≤ 4611686018427387904)) : jnB d s = true ∧ jnV d s = d * 86400 + s := by
  have e : jnB d s = true := decide_eq_true h
  exact ⟨e, by rw [jnV, if_pos e]⟩

end Clk
end Go.Proofs.YthefgagmjamdkaaDoor
/-
  Contracts of package clock, fourth part: Text; the waking call of its laws.
-/
namespace Go.Proofs.YthefgagmjamdkaaDoor
open Go.RowKit
namespace Clk
open Sol
theorem ret_si {s s' : ByteArray} {a a' : Int} (k : s = s') (h : a = a') : Ending.returned (.tuple #[.string s, .int .i64 a]) = .returned (.tuple #[.string s', .int .i64 a']) := by rw [h, k]
def ctE (n : Int) : Int := if -345600 ≤ n ∧ n ≤ 345600 then 0 else 5
def ctS (n : Int) : List UInt8 := if -345600 ≤ n ∧ n ≤ 345600 then ctL n else []
theorem bytes_eq {s t : ByteArray} (h : s.data.toList = t.data.toList) : s = t := ByteArray.ext (Array.toList_inj.1 h)
theorem ct_in {n : Int} (h : -345600 ≤ n ∧ n ≤ 345600) : ctE n = 0 ∧ ctS n = ctL n := ⟨by rw [ctE, if_pos h], by rw [ctS, if_pos h]⟩
theorem ct_out {n : Int} (h : ¬ (-345600 ≤ n ∧ n ≤ 345600)) : ctE n = 5 ∧ ctS n = [] := ⟨by rw [ctE, if_neg h], by rw [ctS, if_neg h]⟩
theorem ct_pos {m : Int} (h0 : 0 ≤ m) (h1 : m ≤ 345600) : ctE m = 0 ∧ ctS m = body m := by
  obtain ⟨a, b⟩ := ct_in (n := m) (by omega)
  exact ⟨a, by rw [b, ctL, if_neg (by omega)]⟩
theorem ct_neg {m : Int} (h0 : 0 < m) (h1 : m ≤ 345600) : ctE (-m) = 0 ∧ ctS (-m) = 45 :: body m := by
  obtain ⟨a, b⟩ := ct_in (n := -m) (by omega)
  exact ⟨a, by rw [b, ctL, if_pos (by omega), Int.neg_neg]⟩

theorem wk4_0 : (⟨#[45, 49, 58, 51, 48]⟩ : ByteArray).size ≤ maxLen := by show 5 ≤ maxLen; unfold maxLen; omega
theorem wk4_1 : clV [45, 49, 58, 51, 48] = -5400 ∧ clE [45, 49, 58, 51, 48] = 0 := by decide +kernel
theorem wk4_2 : ctS 3661 = [49, 58, 48, 49, 58, 48, 49] ∧ ctE 3661 = 0 := by
  obtain ⟨a, b⟩ := ct_pos (m := 3661) (by decide) (by decide)
  refine ⟨?_, a⟩
  have k1 : textL 1 1 = [49] := by rw [textL, if_neg (by decide), if_pos (by decide), show (1 : Int).toNat = 1 from rfl, Lib.decDigits, dif_pos (by decide)]; rfl
  have k2 : textL 1 2 = [48, 49] := by rw [textL, if_neg (by decide), if_pos (by decide), show (1 : Int).toNat = 1 from rfl, Lib.decDigits, dif_pos (by decide)]; rfl
  rw [b, body, if_neg (by decide), if_neg (by decide), show (3661 : Int) / 3600 = 1 from rfl, show (3661 : Int) / 60 % 60 = 1 from rfl, show (3661 : Int) % 60 = 1 from rfl, k1, k2]; rfl
theorem wk4_3 : jnV 1 (-1) = 86399 ∧ jnB 1 (-1) = true := by decide +kernel

end Clk
end Go.Proofs.YthefgagmjamdkaaDoor
/-
  Contracts of package atform: letter, isKind, within, Check, Utc, Parse, Text.
-/
namespace Go.Proofs.YthefgagmjamdkaaDoor
open Go.RowKit
namespace Atf
open Sol Clk
theorem kind_any (k : Int) (w : World) :
    Calls Tryd.prog 73 #[.int .i64 k] w fun e w' => e = .returned (.bool (isK k)) ∧ w = w' := by
  have hk : k = 1 ∨ k = 2 ∨ k = 3 ∨ ¬ (k = 1 ∨ k = 2 ∨ k = 3) := by omega
  rcases hk with rfl | rfl | rfl | hk
  · go_enter Tryd.func73, Tryd.ntmps73
    go_wp2
    go_ret
    exact ⟨rfl, rfl⟩
  · go_enter Tryd.func73, Tryd.ntmps73
    go_wp2
    go_ret
    exact ⟨rfl, rfl⟩
  · go_enter Tryd.func73, Tryd.ntmps73
    go_wp2
    go_ret
    exact ⟨rfl, rfl⟩
  · have c1 : (k == 1) = false := beq_eq_false_iff_ne.2 (by omega)
    have c2 : (k == 2) = false := beq_eq_false_iff_ne.2 (by omega)
    have c3 : (k == 3) = false := beq_eq_false_iff_ne.2 (by omega)
    have H : Hid (isK k = false) := Lib.hid (decide_eq_false (by omega))
    clear hk
    go_enter Tryd.func73, Tryd.ntmps73
    go_wp2
    go_ret
    exact ⟨ret_b H.out.symm, rfl⟩
theorem kind_to (k : Int) (b : Bool) (w : World) (h : Hid (isK k = b)) :
    Calls Tryd.prog 73 #[.int .i64 k] w fun e w' => e = .returned (.bool b) ∧ w = w' :=
  (kind_any k w).mono fun _ _ ⟨he, hw⟩ => ⟨by rw [he, h.out], hw⟩
set_option maxHeartbeats 800000 in
theorem acheck_any (n k : Int) (w : World) :
    Calls Tryd.prog 55 #[.agg #[.int .i64 n, .int .i64 k]] w fun e w' => e = .returned (.int .i64 (atE n k)) ∧ w.alloc (Obj.cells #[.int .i64 n, .int .i64 k] 41) = w' := by
  by_cases h1 : n < -345600
  · have H : Hid (atE n k = 9) := Lib.hid (by rw [atE, atOk, inS, decide_eq_false (by omega)]; rfl)
    go_enter Tryd.func55, Tryd.ntmps55
    go_wp2
    go_ret
    exact ⟨ret_i H.out.symm, rfl⟩
  · by_cases h2 : 345600 < n
    · have H : Hid (atE n k = 9) := Lib.hid (by rw [atE, atOk, inS, decide_eq_false (by omega)]; rfl)
      go_enter Tryd.func55, Tryd.ntmps55
      go_wp2
      go_ret
      exact ⟨ret_i H.out.symm, rfl⟩
    · cases hb : isK k with
      | false =>
        have H : Hid (atE n k = 9) := Lib.hid (by rw [atE, atOk, hb]; simp)
        have HB := Lib.hid hb
        clear hb
        go_enter Tryd.func55, Tryd.ntmps55
        go_wp2_with fail
        refine (kind_to _ _ _ HB).mono ?_
        rintro e w1 ⟨rfl, rfl⟩
        go_wp2
        go_ret
        exact ⟨ret_i H.out.symm, rfl⟩
      | true =>
        have H : Hid (atE n k = 0) := Lib.hid (by rw [atE, atOk, hb, inS, decide_eq_true ⟨by omega, by omega⟩]; rfl)
        have HB := Lib.hid hb
        clear hb
        go_enter Tryd.func55, Tryd.ntmps55
        go_wp2_with fail
        refine (kind_to _ _ _ HB).mono ?_
        rintro e w1 ⟨rfl, rfl⟩
        go_wp2
        go_ret
        exact ⟨ret_i H.out.symm, rfl⟩
theorem acheck_to (n k c : Int) (w : World) (h : Hid (atE n k = c)) :
    Calls Tryd.prog 55 #[.agg #[.int .i64 n, .int .i64 k]] w fun e w' => e = .returned (.int .i64 c) ∧ w.alloc (Obj.cells #[.int .i64 n, .int .i64 k] 41) = w' :=
  (acheck_any n k w).mono fun _ _ ⟨he, hw⟩ => ⟨by rw [he, h.out], hw⟩

end Atf
end Go.Proofs.YthefgagmjamdkaaDoor
/-
  Contracts of package atform, second part: Parse; the waking call of its laws.
-/
namespace Go.Proofs.YthefgagmjamdkaaDoor
open Go.RowKit
namespace Atf
open Sol Clk
theorem last_str {s : ByteArray} {L : List UInt8} {k : Nat} (hL : s.data.toList = L) (hk : s.size = k + 1) : ∃ (h : k < s.size) (l : List UInt8), L = l ++ [s[k]] ∧ s.extract 0 k = ⟨l.toArray⟩ := by
  have hlen := Lib.size_eq s
  rw [hL] at hlen
  have hne : L ≠ [] := fun e => by
    have h0 : L.length = 0 := by rw [e]; rfl
    omega
  refine ⟨by omega, L.dropLast, ?_, ?_⟩
  · have e := List.dropLast_concat_getLast hne
    have : L.getLast hne = s[k]'(by omega) := by
      subst hL
      rw [List.getLast_eq_getElem]
      have e2 : s.data.toList.length - 1 = k := by omega
      simp only [e2]
      rfl
    rw [← this]; exact e.symm
  · refine bytes_eq ?_
    rw [Lib.extract_data, hL, List.drop_zero, Nat.sub_zero]
    show L.take k = L.dropLast
    rw [List.dropLast_eq_take]
    congr 1; omega
def LtRel (s : ByteArray) (B L : List UInt8) (y : Value) : Prop := ∃ b : Bool, y = .bool b ∧ ((b = false ∧ B = L) ∨ (b = true ∧ ∃ (k : Nat), s.size = k + 1 ∧ s.extract 0 k = ⟨B.toArray⟩))
theorem ret_ai {a a' b b' c c' : Int} (h : a = a') (h2 : b = b') (h3 : c = c') : Ending.returned (.tuple #[.agg #[.int .i64 a, .int .i64 b], .int .i64 c]) = .returned (.tuple #[.agg #[.int .i64 a', .int .i64 b'], .int .i64 c']) := by rw [h, h2, h3]

theorem wk8_1 : apV [49, 58, 48, 48, 117] = 3600 ∧ apKk [49, 58, 48, 48, 117] = 3 ∧ apE [49, 58, 48, 48, 117] = 0 := by decide +kernel
theorem wk8_2 : atT 7200 2 = [50, 115] ∧ atE 7200 2 = 0 := by
  obtain ⟨a, b, _⟩ := at_back (n := 7200) (k := 2) (by decide) (by decide)
  refine ⟨?_, a⟩
  have k1 : textL 2 1 = [50] := by rw [textL, if_neg (by decide), if_pos (by decide), show (2 : Int).toNat = 2 from rfl, Lib.decDigits, dif_pos (by decide)]; rfl
  rw [b, ctL, if_neg (by decide), body, if_pos (by decide), if_pos (by decide), show (7200 : Int) / 3600 = 2 from rfl, k1]; rfl
theorem wk8_3 : utV 10000 1 3600 1800 = 4600 ∧ utB 10000 1 3600 1800 = true := by decide +kernel
theorem wk8_4 : atE 0 0 = 9 := by decide +kernel

end Atf
end Go.Proofs.YthefgagmjamdkaaDoor
