/-
  Several texts in one (Clk, Clk2, Clk3, Clk4, At, At2).
-/
import Derived.Test.YthefgagmjamdkaaGreatDoorBdA
import Derived.Test.YthefgagmjamdkaaGreatDoorBdC
import Derived.Lib.IndexBytes
import Derived.Deep.DeepCutAuto
import Derived.Outline
/-
  Contracts of package clock: sixtieths, read, Parse.
-/
namespace Go.Proofs.YthefgagmjamdkaaGreatDoor
open Go.RowKit
namespace Clk
open Sol
theorem ret_isb {a a' : Int} {s s' : ByteArray} {b b' : Bool} (h : a = a') (k : s = s') (j : b = b') : Ending.returned (.tuple #[.int .i64 a, .string s, .bool b]) = .returned (.tuple #[.int .i64 a', .string s', .bool b']) := by rw [h, k, j]
def SixNo (w : World) (e : Ending) (w' : World) : Prop := ∃ (v : Int) (r : ByteArray) (n : Nat), e = .returned (.tuple #[.int .i64 v, .string r, .bool false]) ∧ w' = w.drewN n
theorem drop_str (s : ByteArray) (k : Nat) : s.extract k s.size = ⟨(s.data.toList.drop k).toArray⟩ := by
  rw [← Lib.extract_to_end, Lib.mk_data]
theorem sixS_str (s : ByteArray) : (s.extract 1 3).data.toList = sixS s.data.toList := by rw [Lib.extract_data]; rfl
theorem head_str (s : ByteArray) (h : 0 < s.size) : s.data.toList.head? = some s[0] := by
  obtain ⟨⟨l⟩⟩ := s
  cases l with
  | nil => exact absurd h (by decide)
  | cons a r => rfl
theorem sixB_mk {l : List UInt8} {c : UInt8} (h1 : 3 ≤ l.length) (h2 : l.head? = some c) (h3 : c = 58) : sixB l = (parseB (sixS l) && decide (parseV (sixS l) < 60)) := by
  have e : l.isEmpty = false := by cases l with | nil => simp at h1 | cons a r => rfl
  rw [sixB, e, h2, h3]; simp [h1]

theorem sixB_inv {l : List UInt8} (h : sixB l = true) : l = [] ∨ (3 ≤ l.length ∧ l.head? = some 58 ∧ parseB (sixS l) = true ∧ parseV (sixS l) < 60) := by
  unfold sixB at h
  simp at h
  rcases h with h | ⟨⟨⟨h1, h2⟩, h3⟩, h4⟩
  · exact Or.inl h
  · exact Or.inr ⟨h1, h2, h3, h4⟩
theorem parseV_nn (l : List UInt8) : 0 ≤ parseV l ∧ parseV l ≤ 1000000000000000000 := by
  unfold parseV
  split
  · rename_i h
    simp [parseB] at h
    have := digVal_le l (by simpa using h.2) h.1.2
    omega
  · omega
theorem emp_yes {s : ByteArray} (h : s.size = 0) : s.toList.isEmpty = true := by
  rw [Lib.toList_data, List.isEmpty_iff, ← List.length_eq_zero_iff, ← Lib.size_eq]; exact h
theorem emp_no {s : ByteArray} (h : ¬ s.size = 0) : s.toList.isEmpty = false := by
  rw [Lib.toList_data, Bool.eq_false_iff]
  intro e
  rw [List.isEmpty_iff, ← List.length_eq_zero_iff, ← Lib.size_eq] at e
  exact h e
theorem nil_of {s : ByteArray} (h : s.size = 0) : s.data.toList = [] := by rw [← List.length_eq_zero_iff, ← Lib.size_eq]; exact h

set_option maxHeartbeats 800000 in
theorem six_yes (s : ByteArray) (w : World) (hs : s.size ≤ maxLen) (h : sixB s.data.toList = true) :
    Calls Tryz.prog 93 #[.string s] w fun e w' => e = .returned (.tuple #[.int .i64 (sixV s.data.toList), .string ⟨(sixR s.data.toList).toArray⟩, .bool true]) ∧ ∃ n, w' = w.drewN n := by
  unfold maxLen at hs
  by_cases h0 : s.size = 0
  · have he := emp_yes h0
    have H := Lib.hid (nil_of h0)
    clear h h0
    go_enter Tryz.func93, Tryz.ntmps93
    go_wp2
    go_ret3
    exact ⟨ret_isb (by rw [H.out]; exact six_nil.2.1.symm) (by rw [H.out]; rfl) rfl, 0, rfl⟩
  · have he := emp_no h0
    have hl := Lib.size_eq s
    rcases sixB_inv h with hn | ⟨h3, h4, h5, h6⟩
    · rw [hn] at hl; exact absurd hl h0
    · have k3 : 3 ≤ s.size := by omega
      have hz : 0 < s.size := by omega
      have hc : s[0] = 58 := by
        have := head_str s hz
        rw [h4] at this
        exact (Option.some.inj this).symm
      have hp := parse_any (s.extract 1 3) w (by unfold maxLen; simp; omega)
      rw [sixS_str, h5] at hp
      have HP := Lib.hid hp
      have pn := parseV_nn (sixS s.data.toList)
      have HV := Lib.hid (show sixV s.data.toList = parseV (sixS s.data.toList) from rfl)
      clear h hl h0 hp h3 h4 h5
      generalize parseV (sixS s.data.toList) = v at *
      go_enter Tryz.func93, Tryz.ntmps93
      go_wp2_with fail
      refine HP.out.mono ?_
      rintro e w' ⟨rfl, rfl⟩
      go_wp2_with fail
      go_quiet (fail)
      go_wp2
      go_ret3
      exact ⟨ret_isb HV.out.symm (drop_str s 3) rfl, _, rfl⟩

theorem sixB_b {l : List UInt8} (h : sixB l = false) (h1 : 3 ≤ l.length) (h2 : l.head? = some 58) : (parseB (sixS l) && decide (parseV (sixS l) < 60)) = false := by
  rw [← sixB_mk h1 h2 rfl]; exact h
set_option maxHeartbeats 800000 in
theorem six_no (s : ByteArray) (w : World) (hs : s.size ≤ maxLen) (h : sixB s.data.toList = false) :
    Calls Tryz.prog 93 #[.string s] w (SixNo w) := by
  unfold maxLen at hs
  have hl := Lib.size_eq s
  have h0 : ¬ s.size = 0 := fun e => by
    rw [nil_of e] at h; revert h; decide
  have he := emp_no h0
  by_cases k3 : 3 ≤ s.size
  · have hz : 0 < s.size := by omega
    by_cases hc : s[0] = 58
    · have h2 := head_str s hz
      rw [hc] at h2
      have hb := sixB_b h (by omega) h2
      have hp := parse_any (s.extract 1 3) w (by unfold maxLen; simp; omega)
      rw [sixS_str] at hp
      have pn := parseV_nn (sixS s.data.toList)
      cases hpb : parseB (sixS s.data.toList) with
      | false =>
        rw [hpb] at hp
        have HP := Lib.hid hp
        clear h hl h0 hp h2 hb hpb
        generalize parseV (sixS s.data.toList) = v at *
        go_enter Tryz.func93, Tryz.ntmps93
        go_wp2_with fail
        refine HP.out.mono ?_
        rintro e w' ⟨rfl, rfl⟩
        go_wp2_with fail
        go_quiet (fail)
        go_wp2
        go_ret3
        exact ⟨_, _, _, rfl, rfl⟩
      | true =>
        rw [hpb] at hp hb
        have h6 : decide (parseV (sixS s.data.toList) < 60) = false := by simpa using hb
        have h7 : 60 ≤ parseV (sixS s.data.toList) := by have := of_decide_eq_false h6; omega
        have HP := Lib.hid hp
        clear h hl h0 hp h2 hb hpb
        generalize parseV (sixS s.data.toList) = v at *
        go_enter Tryz.func93, Tryz.ntmps93
        go_wp2_with fail
        refine HP.out.mono ?_
        rintro e w' ⟨rfl, rfl⟩
        go_wp2_with fail
        go_quiet (fail)
        go_wp2
        go_ret3
        exact ⟨_, _, _, rfl, rfl⟩
    · have hc2 : (((s[0]).toNat : Int) == 58) = false := beq_eq_false_iff_ne.2 (fun e => hc (UInt8.toNat_inj.1 (by have : (58 : UInt8).toNat = 58 := rfl; omega)))
      have hc3 : (((s[0]).toNat : Int) != 58) = true := by rw [bne, hc2]; rfl
      clear h hl h0 hc
      go_enter Tryz.func93, Tryz.ntmps93
      go_wp2
      go_ret3
      exact ⟨_, _, 0, rfl, rfl⟩
  · have k4 : s.size < 3 := by omega
    clear h hl h0
    go_enter Tryz.func93, Tryz.ntmps93
    go_wp2
    go_ret3
    exact ⟨_, _, 0, rfl, rfl⟩
end Clk
end Go.Proofs.YthefgagmjamdkaaGreatDoor
/-
  Contracts of package clock, second part: read, Parse.
-/
namespace Go.Proofs.YthefgagmjamdkaaGreatDoor
open Go.RowKit
namespace Clk
open Sol
theorem idx_at (s : ByteArray) (L : List UInt8) (v : Int) (w : World) (hL : Hid (s.data.toList = L)) (hv : Hid (Lib.indexByte L 58 = v)) :
    Calls Tryz.prog 65 #[.string s, .int .u8 58] w fun e w' => e = .returned (.int .i64 v) ∧ w = w' :=
  (Tryz.strings_IndexByte s 58 w).mono fun _ _ ⟨he, hw⟩ => ⟨by rw [he, hL.out]; show Ending.returned (.int .i64 (Lib.indexByte L 58)) = _; rw [hv.out], hw.symm⟩
theorem parse_to (s : ByteArray) (L : List UInt8) (v : Int) (b : Bool) (w : World) (hs : s.size ≤ maxLen) (hL : Hid (s.data.toList = L)) (hv : Hid (parseV L = v)) (hb : Hid (parseB L = b)) :
    Calls Tryz.prog 51 #[.string s] w fun e w' => e = .returned (.tuple #[.int .i64 v, .bool b]) ∧ w = w' :=
  (parse_any s w hs).mono fun _ _ ⟨he, hw⟩ => ⟨by rw [he, hL.out, hv.out, hb.out], hw⟩
theorem sixY_to (s : ByteArray) (L : List UInt8) (v : Int) (R : List UInt8) (w : World) (hs : s.size ≤ maxLen) (hL : Hid (s.data.toList = L)) (h : Hid (sixB L = true ∧ sixV L = v ∧ sixR L = R)) :
    Calls Tryz.prog 93 #[.string s] w fun e w' => e = .returned (.tuple #[.int .i64 v, .string ⟨R.toArray⟩, .bool true]) ∧ ∃ n, w' = w.drewN n :=
  (six_yes s w hs (by rw [hL.out]; exact h.out.1)).mono fun _ _ ⟨he, hw⟩ => ⟨by rw [he, hL.out, h.out.2.1, h.out.2.2], hw⟩
theorem sixN_to (s : ByteArray) (L : List UInt8) (w : World) (hs : s.size ≤ maxLen) (hL : Hid (s.data.toList = L)) (h : Hid (sixB L = false)) :
    Calls Tryz.prog 93 #[.string s] w (SixNo w) := six_no s w hs (by rw [hL.out]; exact h.out)
theorem readV_no {l : List UInt8} (h : readB l = false) : readV l = 0 := by rw [readV, h]; rfl
theorem idx_or (L : List UInt8) (n : Nat) (hn : n = L.length) : (Lib.indexByte L 58 < 0 ∧ (hdL L).length = n) ∨ (Lib.indexByte L 58 = ((hdL L).length : Int) ∧ 0 ≤ Lib.indexByte L 58) := by
  rcases idx_hd L with ⟨a, b, c⟩ | ⟨a, b⟩
  · exact Or.inl ⟨a, by rw [b, hn]⟩
  · exact Or.inr ⟨a, by omega⟩
theorem hd_str {s : ByteArray} {L : List UInt8} (h : s.data.toList = L) : (s.extract 0 (hdL L).length).data.toList = hdL L ∧ (s.extract (hdL L).length s.size).data.toList = tlL L ∧ (hdL L).length ≤ s.size := by
  have e := hd_tl L
  have hl := Lib.size_eq s
  rw [h] at hl
  refine ⟨?_, ?_, ?_⟩
  · rw [Lib.extract_data, h, List.drop_zero, Nat.sub_zero]
    have k : (hdL L ++ tlL L).take (hdL L).length = hdL L := List.take_left
    rw [e] at k; exact k
  · rw [Lib.extract_to_end, h]
    have k : (hdL L ++ tlL L).drop (hdL L).length = tlL L := List.drop_left
    rw [e] at k; exact k
  · rw [hl, ← e, List.length_append]; simp [e]
theorem digs3 {a : List UInt8} (h : parseB a = true) (hl : a.length ≤ 3) : 0 ≤ parseV a ∧ parseV a < 1000 := by
  rw [parseV_yes h]
  simp [parseB] at h
  have := digVal_bd a (by simpa using h.2)
  have h2 : (10 : Int) ^ a.length ≤ 1000 := by
    have : a.length = 0 ∨ a.length = 1 ∨ a.length = 2 ∨ a.length = 3 := by omega
    rcases this with e | e | e | e <;> rw [e] <;> decide
  omega
theorem six_lt {L : List UInt8} (h : sixB L = true) : 0 ≤ sixV L ∧ sixV L < 60 := by
  have p := (parseV_nn (sixS L)).1
  rcases sixB_inv h with rfl | ⟨_, _, _, h4⟩
  · decide
  · exact ⟨p, h4⟩

set_option maxRecDepth 100000 in
set_option maxHeartbeats 1600000 in
theorem read_any (s : ByteArray) (L : List UInt8) (w : World) (hs : s.size ≤ maxLen) (hL : Hid (s.data.toList = L)) :
    Calls Tryz.prog 77 #[.string s] w fun e w' => e = .returned (.tuple #[.int .i64 (readV L), .bool (readB L)]) ∧ ∃ n, w' = w.drewN n := by
  unfold maxLen at hs
  have hl := Lib.size_eq s
  rw [hL.out] at hl
  have hx := idx_or L s.size hl
  obtain ⟨x1, x2, x3⟩ := hd_str hL.out
  have lt : (tlL L).length ≤ L.length := by have := congrArg List.length (hd_tl L); rw [List.length_append] at this; omega
  have lr : (sixR (tlL L)).length ≤ L.length := by rw [sixR, List.length_drop]; omega
  obtain ⟨v, hv⟩ : ∃ v, Lib.indexByte L 58 = v := ⟨_, rfl⟩
  rw [hv] at hx
  have HV := Lib.hid hv
  have HRB : Hid (readB L = (parseB (hdL L) && decide ((hdL L).length ≤ 3) && sixB (tlL L) && sixB (sixR (tlL L)) && (sixR (sixR (tlL L))).isEmpty)) := Lib.hid rfl
  have HRV : Hid (readB L = true → readV L = parseV (hdL L) * 3600 + sixV (tlL L) * 60 + sixV (sixR (tlL L))) := Lib.hid (fun h => by rw [readV, if_pos h])
  have HD3 := Lib.hid (fun h hl => digs3 (a := hdL L) h hl)
  have HS1 := Lib.hid (fun h => six_lt (L := tlL L) h)
  have HS2 := Lib.hid (fun h => six_lt (L := sixR (tlL L)) h)
  obtain ⟨A, hA⟩ : ∃ A, hdL L = A := ⟨_, rfl⟩
  obtain ⟨T, hT⟩ : ∃ T, tlL L = T := ⟨_, rfl⟩
  rw [hA] at hx x1 x2 x3 HRB HRV HD3
  rw [hT] at x2 lt lr HRB HRV HS1 HS2
  obtain ⟨R, hR⟩ : ∃ R, sixR T = R := ⟨_, rfl⟩
  rw [hR] at lr HRB HRV HS2
  obtain ⟨Q, hQ⟩ : ∃ Q, sixR R = Q := ⟨_, rfl⟩
  rw [hQ] at HRB
  obtain ⟨K, hK⟩ : ∃ K, A.length = K := ⟨_, rfl⟩
  rw [hK] at hx x1 x2 x3 HRB HD3
  have X1 := Lib.hid x1
  have X2 := Lib.hid x2
  have HR := Lib.hid hR
  have HQ := Lib.hid hQ
  have zR : (⟨R.toArray⟩ : ByteArray).size ≤ maxLen := by show R.length ≤ _; unfold maxLen; omega
  have zA : (s.extract 0 K).size ≤ maxLen := by simp; unfold maxLen; omega
  have zT : (s.extract K s.size).size ≤ maxLen := by simp; unfold maxLen; omega
  have ZR := Lib.hid zR
  have ZA := Lib.hid zA
  have ZT := Lib.hid zT
  clear hv hl hA hT hR hQ hK x1 x2 lt lr zR zA zT
  obtain ⟨pv, hpv⟩ : ∃ x, parseV A = x := ⟨_, rfl⟩
  obtain ⟨pb, hpb⟩ : ∃ x, parseB A = x := ⟨_, rfl⟩
  rw [hpv] at HRV HD3
  rw [hpb] at HRB HD3
  have PV := Lib.hid hpv
  have PB := Lib.hid hpb
  clear hpv hpb
  go_enter Tryz.func77, Tryz.ntmps77
  go_wp2_with fail
  refine (idx_at s L v _ hL HV).mono ?_
  rintro e w1 ⟨rfl, rfl⟩
  go_upto_if 12 with fail
  go_cut [4] (fun x wx => x = .int .i64 (K : Int) ∧ w = wx)
  case first =>
    rcases hx with ⟨h1, h2⟩ | ⟨h1, h2⟩
    · go_wp2
      go_meet
      exact ⟨by rw [h2], rfl⟩
    · go_wp2
      go_meet
      exact ⟨by rw [h1], rfl⟩
  case rest =>
    obtain ⟨rfl, hwc⟩ := hcut
    subst hwc
    clear hx
    go_wp2_with fail
    refine (parse_to _ A pv pb _ ZA.out X1 PV PB).mono ?_
    rintro e w1 ⟨rfl, rfl⟩
    cases pb with
    | false =>
      have H : Hid (readB L = false) := Lib.hid (by rw [HRB.out]; rfl)
      go_wp2
      go_ret2
      exact ⟨ret_ib (readV_no H.out).symm H.out.symm, 0, rfl⟩
    | true =>
      by_cases hK3 : K ≤ 3
      · have d3 := HD3.out rfl hK3
        cases hs1 : sixB T with
        | false =>
          have S1 := Lib.hid hs1
          have H : Hid (readB L = false) := Lib.hid (by rw [HRB.out, hs1]; simp)
          clear hs1
          go_wp2_with fail
          refine (sixN_to _ T _ ZT.out X2 S1).mono ?_
          rintro e w1 ⟨v1, r1, n1, rfl, rfl⟩
          go_wp2
          go_ret2
          exact ⟨ret_ib (readV_no H.out).symm H.out.symm, _, rfl⟩
        | true =>
          have d4 := HS1.out hs1
          obtain ⟨v1, hv1⟩ : ∃ x, sixV T = x := ⟨_, rfl⟩
          rw [hv1] at d4 HRV
          have S1 := Lib.hid (And.intro hs1 (And.intro hv1 HR.out))
          cases hs2 : sixB R with
          | false =>
            have S2 := Lib.hid hs2
            have H : Hid (readB L = false) := Lib.hid (by rw [HRB.out, hs2]; simp)
            clear hs1 hs2 hv1
            go_wp2_with fail
            refine (sixY_to _ T v1 R _ ZT.out X2 S1).mono ?_
            rintro e w1 ⟨rfl, n1, rfl⟩
            go_wp2_with fail
            refine (sixN_to _ R _ ZR.out (Lib.hid rfl) S2).mono ?_
            rintro e w1 ⟨v2, r1, n2, rfl, rfl⟩
            go_wp2
            go_ret2
            exact ⟨ret_ib (readV_no H.out).symm H.out.symm, _, rfl⟩
          | true =>
            have d5 := HS2.out hs2
            obtain ⟨v2, hv2⟩ : ∃ x, sixV R = x := ⟨_, rfl⟩
            rw [hv2] at d5 HRV
            have S2 := Lib.hid (And.intro hs2 (And.intro hv2 HQ.out))
            cases hq : Q.isEmpty with
            | false =>
              have H : Hid (readB L = false) := Lib.hid (by rw [HRB.out, hq]; simp)
              clear hs1 hs2 hv1 hv2
              go_wp2_with fail
              refine (sixY_to _ T v1 R _ ZT.out X2 S1).mono ?_
              rintro e w1 ⟨rfl, n1, rfl⟩
              go_wp2_with fail
              refine (sixY_to _ R v2 Q _ ZR.out (Lib.hid rfl) S2).mono ?_
              rintro e w1 ⟨rfl, n2, rfl⟩
              go_wp2
              go_ret2
              exact ⟨ret_ib (readV_no H.out).symm H.out.symm, _, rfl⟩
            | true =>
              have H : Hid (readB L = true) := Lib.hid (by rw [HRB.out, hs1, hs2, hq]; simp [hK3])
              have HW := Lib.hid (HRV.out H.out)
              clear hs1 hs2 hv1 hv2
              go_wp2_with fail
              refine (sixY_to _ T v1 R _ ZT.out X2 S1).mono ?_
              rintro e w1 ⟨rfl, n1, rfl⟩
              go_wp2_with fail
              refine (sixY_to _ R v2 Q _ ZR.out (Lib.hid rfl) S2).mono ?_
              rintro e w1 ⟨rfl, n2, rfl⟩
              go_wp2
              go_ret2
              exact ⟨ret_ib HW.out.symm H.out.symm, _, rfl⟩
      · have hK4 : 3 < K := by omega
        have H : Hid (readB L = false) := Lib.hid (by rw [HRB.out]; simp [hK3])
        clear hK3
        go_wp2
        go_ret2
        exact ⟨ret_ib (readV_no H.out).symm H.out.symm, 0, rfl⟩
end Clk
end Go.Proofs.YthefgagmjamdkaaGreatDoor
/-
  Contracts of package clock, third part: Parse, Split, Join.
-/
namespace Go.Proofs.YthefgagmjamdkaaGreatDoor
open Go.RowKit
namespace Clk
open Sol
theorem ret_ii {a a' b b' : Int} (h : a = a') (k : b = b') : Ending.returned (.tuple #[.int .i64 a, .int .i64 b]) = .returned (.tuple #[.int .i64 a', .int .i64 b']) := by rw [h, k]
theorem cut_at (s : ByteArray) (L D : List UInt8) (b : Bool) (w : World) (hL : Hid (s.data.toList = L)) (h : Hid (dg L = D ∧ neg L = b)) :
    Calls Tryz.prog 76 #[.string s, .string ⟨#[45]⟩] w fun e w' => e = .returned (.tuple #[.string ⟨D.toArray⟩, .bool b]) ∧ w = w' :=
  (Tryz.strings_CutPrefix s ⟨#[45]⟩ w).mono fun _ _ ⟨he, hw⟩ => ⟨by rw [he, hL.out, ← h.out.1, ← h.out.2]; rfl, hw.symm⟩
theorem cl_dash : clB [45] = true ∧ clV [45] = 0 ∧ clE [45] = 0 := by decide +kernel
theorem clE_yes {l : List UInt8} (h : clB l = true) : clE l = 0 := by rw [clE, if_pos h]
theorem dg_len (l : List UInt8) : (dg l).length ≤ l.length := by
  unfold dg Lib.trimPrefix
  split
  · rw [List.length_drop]; omega
  · exact Nat.le_refl _

set_option maxHeartbeats 800000 in
theorem cparse_any (s : ByteArray) (L : List UInt8) (w : World) (hs : s.size ≤ maxLen) (hL : Hid (s.data.toList = L)) :
    Calls Tryz.prog 49 #[.string s] w fun e w' => e = .returned (.tuple #[.int .i64 (clV L), .int .i64 (clE L)]) ∧ ∃ n, w' = w.drewN n := by
  unfold maxLen at hs
  by_cases h1 : L = [45]
  · subst h1
    have he : s.toList = [45] := by rw [Lib.toList_data]; exact hL.out
    go_enter Tryz.func49, Tryz.ntmps49
    go_wp2
    go_ret2
    exact ⟨ret_ii cl_dash.2.1.symm cl_dash.2.2.symm, 0, rfl⟩
  · have he : (s.toList == [45]) = false := beq_eq_false_iff_ne.2 (by rw [Lib.toList_data, hL.out]; exact h1)
    have hl := Lib.size_eq s
    rw [hL.out] at hl
    have hdl := dg_len L
    have HB : Hid (clB L = (readB (dg L) && decide (readV (dg L) ≤ 345600))) := Lib.hid (by rw [clB, decide_eq_false h1, Bool.false_or])
    have HV : Hid (clV L = if clB L then (if neg L then -readV (dg L) else readV (dg L)) else 0) := Lib.hid (by rw [clV, if_neg h1])
    have rb := read_bd (l := dg L)
    obtain ⟨D, hD⟩ : ∃ D, dg L = D := ⟨_, rfl⟩
    obtain ⟨ng, hng⟩ : ∃ b, neg L = b := ⟨_, rfl⟩
    rw [hD] at HB HV rb hdl
    rw [hng] at HV
    have C := Lib.hid (And.intro hD hng)
    have MR := Lib.hid (read_any ⟨D.toArray⟩ D w (by show D.length ≤ _; unfold maxLen; omega) (Lib.hid rfl))
    obtain ⟨rv, hrv⟩ : ∃ x, readV D = x := ⟨_, rfl⟩
    obtain ⟨rr, hrr⟩ : ∃ x, readB D = x := ⟨_, rfl⟩
    rw [hrv] at HB HV rb MR
    rw [hrr] at HB MR
    have HN := Lib.hid (fun h => cl_no (l := L) h)
    have HE := Lib.hid (fun h => clE_yes (l := L) h)
    clear hD hng hrv hrr h1 hl
    cases rr with
    | false =>
      have H : Hid (clB L = false) := Lib.hid (by rw [HB.out]; rfl)
      go_enter Tryz.func49, Tryz.ntmps49
      go_wp2_with fail
      refine (cut_at s L D ng _ hL C).mono ?_
      rintro e w1 ⟨rfl, rfl⟩
      go_wp2_with fail
      refine MR.out.mono ?_
      rintro e w1 ⟨rfl, n, rfl⟩
      go_wp2
      go_ret2
      exact ⟨ret_ii (HN.out H.out).1.symm (HN.out H.out).2.symm, _, rfl⟩
    | true =>
      by_cases h2 : rv ≤ 345600
      · have H : Hid (clB L = true) := Lib.hid (by rw [HB.out, decide_eq_true h2]; rfl)
        cases ng with
        | false =>
          have HW : Hid (clV L = rv) := Lib.hid (by rw [HV.out, if_pos H.out]; rfl)
          go_enter Tryz.func49, Tryz.ntmps49
          go_wp2_with fail
          refine (cut_at s L D false _ hL C).mono ?_
          rintro e w1 ⟨rfl, rfl⟩
          go_wp2_with fail
          refine MR.out.mono ?_
          rintro e w1 ⟨rfl, n, rfl⟩
          go_wp2
          go_ret2
          exact ⟨ret_ii HW.out.symm (HE.out H.out).symm, _, rfl⟩
        | true =>
          have HW : Hid (clV L = -rv) := Lib.hid (by rw [HV.out, if_pos H.out, if_pos rfl])
          go_enter Tryz.func49, Tryz.ntmps49
          go_wp2_with fail
          refine (cut_at s L D true _ hL C).mono ?_
          rintro e w1 ⟨rfl, rfl⟩
          go_wp2_with fail
          refine MR.out.mono ?_
          rintro e w1 ⟨rfl, n, rfl⟩
          go_wp2
          go_ret2
          exact ⟨ret_ii HW.out.symm (HE.out H.out).symm, _, rfl⟩
      · have h3 : 345600 < rv := by omega
        have H : Hid (clB L = false) := Lib.hid (by rw [HB.out, decide_eq_false h2]; rfl)
        clear h2
        go_enter Tryz.func49, Tryz.ntmps49
        go_wp2_with fail
        refine (cut_at s L D ng _ hL C).mono ?_
        rintro e w1 ⟨rfl, rfl⟩
        go_wp2_with fail
        refine MR.out.mono ?_
        rintro e w1 ⟨rfl, n, rfl⟩
        go_wp2
        go_ret2
        exact ⟨ret_ii (HN.out H.out).1.symm (HN.out H.out).2.symm, _, rfl⟩

def jnB (d s : Int) : Bool := decide ((-1152921504606846976 ≤ d ∧ d ≤ 1152921504606846976) ∧ (-53375995583651 ≤ d + s / 86400 ∧ d + s / 86400 ≤ 53375995583650) ∧ (-4611686018427387904 ≤ d * 86400 + s ∧ d * 86400 + s ≤ 4611686018427387904))
def jnV (d s : Int) : Int := if jnB d s then d * 86400 + s else 0
theorem ret_ib {a a' : Int} {b b' : Bool} (h : a = a') (k : b = b') : Ending.returned (.tuple #[.int .i64 a, .bool b]) = .returned (.tuple #[.int .i64 a', .bool b']) := by rw [h, k]
theorem jn_no {d s : Int} (h : ¬ ((-1152921504606846976 ≤ d ∧ d ≤ 1152921504606846976) ∧ (-53375995583651 ≤ d + s / 86400 ∧ d + s / 86400 ≤ 53375995583650) ∧ (-4611686018427387904 ≤ d * 86400 + s ∧ d * 86400 + s ≤ 4611686018427387904))) : jnB d s = false ∧ jnV d s = 0 := by
  have e : jnB d s = false := decide_eq_false h
  exact ⟨e, by rw [jnV, e]; rfl⟩
theorem jn_yes {d s : Int} (h : (-1152921504606846976 ≤ d ∧ d ≤ 1152921504606846976) ∧ (-53375995583651 ≤ d + s / 86400 ∧ d + s / 86400 ≤ 53375995583650) ∧ (-4611686018427387904 ≤ d * 86400 + s ∧ d * 86400 + s ≤ 4611686018427387904)) : jnB d s = true ∧ jnV d s = d * 86400 + s := by
  have e : jnB d s = true := decide_eq_true h
  exact ⟨e, by rw [jnV, if_pos e]⟩

end Clk
end Go.Proofs.YthefgagmjamdkaaGreatDoor
/-
  Contracts of package clock, fourth part: Text; the waking call of its laws.
-/
namespace Go.Proofs.YthefgagmjamdkaaGreatDoor
open Go.RowKit
namespace Clk
open Sol
theorem ret_si {s s' : ByteArray} {a a' : Int} (k : s = s') (h : a = a') : Ending.returned (.tuple #[.string s, .int .i64 a]) = .returned (.tuple #[.string s', .int .i64 a']) := by rw [h, k]
def ctE (n : Int) : Int := if -345600 ≤ n ∧ n ≤ 345600 then 0 else 5
def ctS (n : Int) : List UInt8 := if -345600 ≤ n ∧ n ≤ 345600 then ctL n else []
theorem text_to (n d : Int) (T : List UInt8) (w : World) (n1 : -9223372036854775808 ≤ n) (n2 : n ≤ 9223372036854775807) (d1 : -9223372036854775808 ≤ d) (d2 : d ≤ 9223372036854775807) (hp : Pow w) (h : Hid (textL n d = T)) :
    Calls Tryz.prog 56 #[.int .i64 n, .int .i64 d] w fun e w' => e = .returned (.string ⟨T.toArray⟩) ∧ Below w.heap.size w w' :=
  (text_any n d w n1 n2 d1 d2 hp.here).mono fun _ _ ⟨he, hw⟩ => ⟨by rw [he, h.out], hw⟩
theorem bytes_eq {s t : ByteArray} (h : s.data.toList = t.data.toList) : s = t := ByteArray.ext (Array.toList_inj.1 h)
theorem ct_in {n : Int} (h : -345600 ≤ n ∧ n ≤ 345600) : ctE n = 0 ∧ ctS n = ctL n := ⟨by rw [ctE, if_pos h], by rw [ctS, if_pos h]⟩
theorem ct_out {n : Int} (h : ¬ (-345600 ≤ n ∧ n ≤ 345600)) : ctE n = 5 ∧ ctS n = [] := ⟨by rw [ctE, if_neg h], by rw [ctS, if_neg h]⟩
theorem ct_pos {m : Int} (h0 : 0 ≤ m) (h1 : m ≤ 345600) : ctE m = 0 ∧ ctS m = body m := by
  obtain ⟨a, b⟩ := ct_in (n := m) (by omega)
  exact ⟨a, by rw [b, ctL, if_neg (by omega)]⟩
theorem ct_neg {m : Int} (h0 : 0 < m) (h1 : m ≤ 345600) : ctE (-m) = 0 ∧ ctS (-m) = 45 :: body m := by
  obtain ⟨a, b⟩ := ct_in (n := -m) (by omega)
  exact ⟨a, by rw [b, ctL, if_pos (by omega), Int.neg_neg]⟩

set_option maxRecDepth 100000 in
set_option maxHeartbeats 1600000 in
theorem ctext_pos (m : Int) (w : World) (h0 : 0 ≤ m) (h1 : m ≤ 345600) (hp : Pow w) :
    Calls Tryz.prog 22 #[.int .i64 m] w fun e w' => e = .returned (.tuple #[.string ⟨(ctS m).toArray⟩, .int .i64 (ctE m)]) ∧ Below w.heap.size w w' := by
  have HP := Lib.hid hp
  clear hp
  have H := Lib.hid (ct_pos h0 h1)
  have hb : body m = textL (m / 3600) 1 ++ (if m % 3600 = 0 then [] else 58 :: textL (m / 60 % 60) 2) ++ (if m % 60 = 0 then [] else 58 :: textL (m % 60) 2) := rfl
  obtain ⟨T1, t1⟩ : ∃ T, textL (m / 3600) 1 = T := ⟨_, rfl⟩
  obtain ⟨T2, t2⟩ : ∃ T, textL (m / 60 % 60) 2 = T := ⟨_, rfl⟩
  obtain ⟨T3, t3⟩ : ∃ T, textL (m % 60) 2 = T := ⟨_, rfl⟩
  rw [t1, t2, t3] at hb
  have l1 : T1.length ≤ 2 := by rw [← t1]; exact (text1 (h := m / 3600) (by omega) (by omega)).2.2.1
  have l2 : T2.length ≤ 2 := by rw [← t2, (text2 (h := m / 60 % 60) (by omega) (by omega)).2.1]; exact Nat.le_refl _
  have l3 : T3.length ≤ 2 := by rw [← t3, (text2 (h := m % 60) (by omega) (by omega)).2.1]; exact Nat.le_refl _
  have Q1 := Lib.hid t1
  have Q2 := Lib.hid t2
  have Q3 := Lib.hid t3
  clear t1 t2 t3
  by_cases e1 : m % 3600 = 0
  · have e2 : m % 60 = 0 := by omega
    rw [if_pos e1, if_pos e2, List.append_nil, List.append_nil] at hb
    have HB := Lib.hid hb
    clear hb
    go_enter Tryz.func22, Tryz.ntmps22
    go_wp2_with fail
    refine (text_to _ _ T1 _ (by omega) (by omega) (by omega) (by omega) HP.out Q1).mono ?_
    rintro e w1 ⟨rfl, hb1⟩
    have HP1 := Lib.hid (HP.out.stays hb1)
    go_wp2
    go_ret2
    exact ⟨ret_si (bytes_eq (by rw [H.out.2, HB.out]; simp)) H.out.1.symm, hb1⟩
  · rw [if_neg e1] at hb
    have b1 : (m % 3600 != 0) = true := bne_iff_ne.2 e1
    by_cases e2 : m % 60 = 0
    · rw [if_pos e2, List.append_nil] at hb
      have HB := Lib.hid hb
      clear hb e1
      go_enter Tryz.func22, Tryz.ntmps22
      go_wp2_with fail
      refine (text_to _ _ T1 _ (by omega) (by omega) (by omega) (by omega) HP.out Q1).mono ?_
      rintro e w1 ⟨rfl, hb1⟩
      have HP1 := Lib.hid (HP.out.stays hb1)
      go_wp2_with fail
      refine (text_to _ _ T2 _ (by omega) (by omega) (by omega) (by omega) HP1.out Q2).mono ?_
      rintro e w2 ⟨rfl, hb2⟩
      have HP2 := Lib.hid (HP1.out.stays hb2)
      have hb12 := hb1.trans (hb2.mono hb1.size)
      go_wp2
      go_ret2
      exact ⟨ret_si (bytes_eq (by rw [H.out.2, HB.out]; simp)) H.out.1.symm, hb12⟩
    · rw [if_neg e2] at hb
      have b2 : (m % 60 != 0) = true := bne_iff_ne.2 e2
      have HB := Lib.hid hb
      clear hb e1 e2
      go_enter Tryz.func22, Tryz.ntmps22
      go_wp2_with fail
      refine (text_to _ _ T1 _ (by omega) (by omega) (by omega) (by omega) HP.out Q1).mono ?_
      rintro e w1 ⟨rfl, hb1⟩
      have HP1 := Lib.hid (HP.out.stays hb1)
      go_wp2_with fail
      refine (text_to _ _ T2 _ (by omega) (by omega) (by omega) (by omega) HP1.out Q2).mono ?_
      rintro e w2 ⟨rfl, hb2⟩
      have HP2 := Lib.hid (HP1.out.stays hb2)
      have hb12 := hb1.trans (hb2.mono hb1.size)
      go_wp2_with fail
      refine (text_to _ _ T3 _ (by omega) (by omega) (by omega) (by omega) HP2.out Q3).mono ?_
      rintro e w3 ⟨rfl, hb3⟩
      have hb13 := hb12.trans (hb3.mono hb12.size)
      go_wp2
      go_ret2
      exact ⟨ret_si (bytes_eq (by rw [H.out.2, HB.out]; simp)) H.out.1.symm, hb13⟩
set_option maxRecDepth 100000 in
set_option maxHeartbeats 1600000 in
theorem ctext_neg (m : Int) (w : World) (h0 : 0 < m) (h1 : m ≤ 345600) (hp : Pow w) :
    Calls Tryz.prog 22 #[.int .i64 (-m)] w fun e w' => e = .returned (.tuple #[.string ⟨(ctS (-m)).toArray⟩, .int .i64 (ctE (-m))]) ∧ Below w.heap.size w w' := by
  have HP := Lib.hid hp
  clear hp
  have H := Lib.hid (ct_neg h0 h1)
  have hb : body m = textL (m / 3600) 1 ++ (if m % 3600 = 0 then [] else 58 :: textL (m / 60 % 60) 2) ++ (if m % 60 = 0 then [] else 58 :: textL (m % 60) 2) := rfl
  obtain ⟨T1, t1⟩ : ∃ T, textL (m / 3600) 1 = T := ⟨_, rfl⟩
  obtain ⟨T2, t2⟩ : ∃ T, textL (m / 60 % 60) 2 = T := ⟨_, rfl⟩
  obtain ⟨T3, t3⟩ : ∃ T, textL (m % 60) 2 = T := ⟨_, rfl⟩
  rw [t1, t2, t3] at hb
  have l1 : T1.length ≤ 2 := by rw [← t1]; exact (text1 (h := m / 3600) (by omega) (by omega)).2.2.1
  have l2 : T2.length ≤ 2 := by rw [← t2, (text2 (h := m / 60 % 60) (by omega) (by omega)).2.1]; exact Nat.le_refl _
  have l3 : T3.length ≤ 2 := by rw [← t3, (text2 (h := m % 60) (by omega) (by omega)).2.1]; exact Nat.le_refl _
  have Q1 := Lib.hid t1
  have Q2 := Lib.hid t2
  have Q3 := Lib.hid t3
  clear t1 t2 t3
  by_cases e1 : m % 3600 = 0
  · have e2 : m % 60 = 0 := by omega
    rw [if_pos e1, if_pos e2, List.append_nil, List.append_nil] at hb
    have HB := Lib.hid hb
    clear hb
    go_enter Tryz.func22, Tryz.ntmps22
    go_wp2_with fail
    refine (text_to _ _ T1 _ (by omega) (by omega) (by omega) (by omega) HP.out Q1).mono ?_
    rintro e w1 ⟨rfl, hb1⟩
    have HP1 := Lib.hid (HP.out.stays hb1)
    go_wp2
    go_ret2
    exact ⟨ret_si (bytes_eq (by rw [H.out.2, HB.out]; simp)) H.out.1.symm, hb1⟩
  · rw [if_neg e1] at hb
    have b1 : (m % 3600 != 0) = true := bne_iff_ne.2 e1
    by_cases e2 : m % 60 = 0
    · rw [if_pos e2, List.append_nil] at hb
      have HB := Lib.hid hb
      clear hb e1
      go_enter Tryz.func22, Tryz.ntmps22
      go_wp2_with fail
      refine (text_to _ _ T1 _ (by omega) (by omega) (by omega) (by omega) HP.out Q1).mono ?_
      rintro e w1 ⟨rfl, hb1⟩
      have HP1 := Lib.hid (HP.out.stays hb1)
      go_wp2_with fail
      refine (text_to _ _ T2 _ (by omega) (by omega) (by omega) (by omega) HP1.out Q2).mono ?_
      rintro e w2 ⟨rfl, hb2⟩
      have HP2 := Lib.hid (HP1.out.stays hb2)
      have hb12 := hb1.trans (hb2.mono hb1.size)
      go_wp2
      go_ret2
      exact ⟨ret_si (bytes_eq (by rw [H.out.2, HB.out]; simp)) H.out.1.symm, hb12⟩
    · rw [if_neg e2] at hb
      have b2 : (m % 60 != 0) = true := bne_iff_ne.2 e2
      have HB := Lib.hid hb
      clear hb e1 e2
      go_enter Tryz.func22, Tryz.ntmps22
      go_wp2_with fail
      refine (text_to _ _ T1 _ (by omega) (by omega) (by omega) (by omega) HP.out Q1).mono ?_
      rintro e w1 ⟨rfl, hb1⟩
      have HP1 := Lib.hid (HP.out.stays hb1)
      go_wp2_with fail
      refine (text_to _ _ T2 _ (by omega) (by omega) (by omega) (by omega) HP1.out Q2).mono ?_
      rintro e w2 ⟨rfl, hb2⟩
      have HP2 := Lib.hid (HP1.out.stays hb2)
      have hb12 := hb1.trans (hb2.mono hb1.size)
      go_wp2_with fail
      refine (text_to _ _ T3 _ (by omega) (by omega) (by omega) (by omega) HP2.out Q3).mono ?_
      rintro e w3 ⟨rfl, hb3⟩
      have hb13 := hb12.trans (hb3.mono hb12.size)
      go_wp2
      go_ret2
      exact ⟨ret_si (bytes_eq (by rw [H.out.2, HB.out]; simp)) H.out.1.symm, hb13⟩
theorem ctext_any (n : Int) (w : World) (hp : Pow w) :
    Calls Tryz.prog 22 #[.int .i64 n] w fun e w' => e = .returned (.tuple #[.string ⟨(ctS n).toArray⟩, .int .i64 (ctE n)]) ∧ Below w.heap.size w w' := by
  by_cases h1 : n < -345600
  · have H := Lib.hid (ct_out (n := n) (by omega))
    clear hp
    go_enter Tryz.func22, Tryz.ntmps22
    go_wp2
    go_ret2
    exact ⟨ret_si (by rw [H.out.2]) H.out.1.symm, Below.refl _ _⟩
  · by_cases h2 : 345600 < n
    · have H := Lib.hid (ct_out (n := n) (by omega))
      clear hp
      go_enter Tryz.func22, Tryz.ntmps22
      go_wp2
      go_ret2
      exact ⟨ret_si (by rw [H.out.2]) H.out.1.symm, Below.refl _ _⟩
    · by_cases h3 : n < 0
      · obtain ⟨m, rfl⟩ : ∃ m, n = -m := ⟨-n, by omega⟩
        exact ctext_neg m w (by omega) (by omega) hp
      · exact ctext_pos n w (by omega) (by omega) hp

theorem ctext_to (n : Int) (T : List UInt8) (c : Int) (w : World) (hp : Pow w) (h : Hid (ctS n = T ∧ ctE n = c)) :
    Calls Tryz.prog 22 #[.int .i64 n] w fun e w' => e = .returned (.tuple #[.string ⟨T.toArray⟩, .int .i64 c]) ∧ Below w.heap.size w w' :=
  (ctext_any n w hp).mono fun _ _ ⟨he, hw⟩ => ⟨by rw [he, h.out.1, h.out.2], hw⟩
theorem cparse_to (s : ByteArray) (L : List UInt8) (v c : Int) (w : World) (hs : s.size ≤ maxLen) (hL : Hid (s.data.toList = L)) (h : Hid (clV L = v ∧ clE L = c)) :
    Calls Tryz.prog 49 #[.string s] w fun e w' => e = .returned (.tuple #[.int .i64 v, .int .i64 c]) ∧ ∃ n, w' = w.drewN n :=
  (cparse_any s L w hs hL).mono fun _ _ ⟨he, hw⟩ => ⟨by rw [he, h.out.1, h.out.2], hw⟩
theorem wk4_0 : (⟨#[45, 49, 58, 51, 48]⟩ : ByteArray).size ≤ maxLen := by show 5 ≤ maxLen; unfold maxLen; omega
theorem wk4_1 : clV [45, 49, 58, 51, 48] = -5400 ∧ clE [45, 49, 58, 51, 48] = 0 := by decide +kernel
theorem wk4_2 : ctS 3661 = [49, 58, 48, 49, 58, 48, 49] ∧ ctE 3661 = 0 := by
  obtain ⟨a, b⟩ := ct_pos (m := 3661) (by decide) (by decide)
  refine ⟨?_, a⟩
  have k1 : textL 1 1 = [49] := by rw [textL, if_neg (by decide), if_pos (by decide), show (1 : Int).toNat = 1 from rfl, Lib.decDigits, dif_pos (by decide)]; rfl
  have k2 : textL 1 2 = [48, 49] := by rw [textL, if_neg (by decide), if_pos (by decide), show (1 : Int).toNat = 1 from rfl, Lib.decDigits, dif_pos (by decide)]; rfl
  rw [b, body, if_neg (by decide), if_neg (by decide), show (3661 : Int) / 3600 = 1 from rfl, show (3661 : Int) / 60 % 60 = 1 from rfl, show (3661 : Int) % 60 = 1 from rfl, k1, k2]; rfl
theorem wk4_3 : jnV 1 (-1) = 86399 ∧ jnB 1 (-1) = true := by decide +kernel

end Clk
end Go.Proofs.YthefgagmjamdkaaGreatDoor
/-
  Contracts of package atform: letter, isKind, within, Check, Utc, Parse, Text.
-/
namespace Go.Proofs.YthefgagmjamdkaaGreatDoor
open Go.RowKit
namespace Atf
open Sol Clk
theorem kind_any (k : Int) (w : World) :
    Calls Tryz.prog 105 #[.int .i64 k] w fun e w' => e = .returned (.bool (isK k)) ∧ w = w' := by
  have hk : k = 1 ∨ k = 2 ∨ k = 3 ∨ ¬ (k = 1 ∨ k = 2 ∨ k = 3) := by omega
  rcases hk with rfl | rfl | rfl | hk
  · go_enter Tryz.func105, Tryz.ntmps105
    go_wp2
    go_ret
    exact ⟨rfl, rfl⟩
  · go_enter Tryz.func105, Tryz.ntmps105
    go_wp2
    go_ret
    exact ⟨rfl, rfl⟩
  · go_enter Tryz.func105, Tryz.ntmps105
    go_wp2
    go_ret
    exact ⟨rfl, rfl⟩
  · have c1 : (k == 1) = false := beq_eq_false_iff_ne.2 (by omega)
    have c2 : (k == 2) = false := beq_eq_false_iff_ne.2 (by omega)
    have c3 : (k == 3) = false := beq_eq_false_iff_ne.2 (by omega)
    have H : Hid (isK k = false) := Lib.hid (decide_eq_false (by omega))
    clear hk
    go_enter Tryz.func105, Tryz.ntmps105
    go_wp2
    go_ret
    exact ⟨ret_b H.out.symm, rfl⟩
theorem kind_to (k : Int) (b : Bool) (w : World) (h : Hid (isK k = b)) :
    Calls Tryz.prog 105 #[.int .i64 k] w fun e w' => e = .returned (.bool b) ∧ w = w' :=
  (kind_any k w).mono fun _ _ ⟨he, hw⟩ => ⟨by rw [he, h.out], hw⟩
set_option maxHeartbeats 1600000 in
theorem letter_any (c : UInt8) (w : World) :
    Calls Tryz.prog 100 #[.int .u8 (c.toNat : Int)] w fun e w' => e = .returned (.tuple #[.int .i64 (ltV c), .bool (ltB c)]) ∧ w = w' := by
  by_cases h : ltB c = true
  · have hc : c = 119 ∨ c = 87 ∨ c = 115 ∨ c = 83 ∨ c = 117 ∨ c = 85 ∨ c = 103 ∨ c = 71 ∨ c = 122 ∨ c = 90 := of_decide_eq_true h
    clear h
    rcases hc with rfl | rfl | rfl | rfl | rfl | rfl | rfl | rfl | rfl | rfl
    all_goals
      go_enter Tryz.func100, Tryz.ntmps100
      go_wp2
      go_ret2
      exact ⟨rfl, rfl⟩
  · have hn : ¬ (c = 119 ∨ c = 87 ∨ c = 115 ∨ c = 83 ∨ c = 117 ∨ c = 85 ∨ c = 103 ∨ c = 71 ∨ c = 122 ∨ c = 90) := fun e => h (decide_eq_true e)
    have HB : Hid (ltB c = false) := Lib.hid (by simpa using h)
    have HV : Hid (ltV c = 1) := Lib.hid (by
      rw [ltV]
      by_cases e1 : c = 119 ∨ c = 87
      · rw [if_pos e1]
      · rw [if_neg e1, if_neg (fun e => hn (by rcases e with e | e <;> simp [e])), if_neg (fun e => hn (by rcases e with e | e | e | e | e | e <;> simp [e]))])
    have key : ∀ k : UInt8, c ≠ k → ((c.toNat : Int) == (k.toNat : Int)) = false := fun k hk => beq_eq_false_iff_ne.2 (fun e => hk (UInt8.toNat_inj.1 (by omega)))
    have d1 : ((c.toNat : Int) == 119) = false := key 119 (fun e => hn (by simp [e]))
    have d2 : ((c.toNat : Int) == 87) = false := key 87 (fun e => hn (by simp [e]))
    have d3 : ((c.toNat : Int) == 115) = false := key 115 (fun e => hn (by simp [e]))
    have d4 : ((c.toNat : Int) == 83) = false := key 83 (fun e => hn (by simp [e]))
    have d5 : ((c.toNat : Int) == 117) = false := key 117 (fun e => hn (by simp [e]))
    have d6 : ((c.toNat : Int) == 85) = false := key 85 (fun e => hn (by simp [e]))
    have d7 : ((c.toNat : Int) == 103) = false := key 103 (fun e => hn (by simp [e]))
    have d8 : ((c.toNat : Int) == 71) = false := key 71 (fun e => hn (by simp [e]))
    have d9 : ((c.toNat : Int) == 122) = false := key 122 (fun e => hn (by simp [e]))
    have d10 : ((c.toNat : Int) == 90) = false := key 90 (fun e => hn (by simp [e]))
    clear key hn h
    go_enter Tryz.func100, Tryz.ntmps100
    go_wp2
    go_ret2
    exact ⟨ret_ib HV.out.symm HB.out.symm, rfl⟩
theorem letter_to (c : UInt8) (v : Int) (b : Bool) (w : World) (h : Hid (ltV c = v ∧ ltB c = b)) :
    Calls Tryz.prog 100 #[.int .u8 (c.toNat : Int)] w fun e w' => e = .returned (.tuple #[.int .i64 v, .bool b]) ∧ w = w' :=
  (letter_any c w).mono fun _ _ ⟨he, hw⟩ => ⟨by rw [he, h.out.1, h.out.2], hw⟩

set_option maxHeartbeats 800000 in
theorem acheck_any (n k : Int) (w : World) :
    Calls Tryz.prog 82 #[.agg #[.int .i64 n, .int .i64 k]] w fun e w' => e = .returned (.int .i64 (atE n k)) ∧ w.alloc (Obj.cells #[.int .i64 n, .int .i64 k] 28) = w' := by
  by_cases h1 : n < -345600
  · have H : Hid (atE n k = 9) := Lib.hid (by rw [atE, atOk, inS, decide_eq_false (by omega)]; rfl)
    go_enter Tryz.func82, Tryz.ntmps82
    go_wp2
    go_ret
    exact ⟨ret_i H.out.symm, rfl⟩
  · by_cases h2 : 345600 < n
    · have H : Hid (atE n k = 9) := Lib.hid (by rw [atE, atOk, inS, decide_eq_false (by omega)]; rfl)
      go_enter Tryz.func82, Tryz.ntmps82
      go_wp2
      go_ret
      exact ⟨ret_i H.out.symm, rfl⟩
    · cases hb : isK k with
      | false =>
        have H : Hid (atE n k = 9) := Lib.hid (by rw [atE, atOk, hb]; simp)
        have HB := Lib.hid hb
        clear hb
        go_enter Tryz.func82, Tryz.ntmps82
        go_wp2_with fail
        refine (kind_to _ _ _ HB).mono ?_
        rintro e w1 ⟨rfl, rfl⟩
        go_wp2
        go_ret
        exact ⟨ret_i H.out.symm, rfl⟩
      | true =>
        have H : Hid (atE n k = 0) := Lib.hid (by rw [atE, atOk, hb, inS, decide_eq_true ⟨by omega, by omega⟩]; rfl)
        have HB := Lib.hid hb
        clear hb
        go_enter Tryz.func82, Tryz.ntmps82
        go_wp2_with fail
        refine (kind_to _ _ _ HB).mono ?_
        rintro e w1 ⟨rfl, rfl⟩
        go_wp2
        go_ret
        exact ⟨ret_i H.out.symm, rfl⟩
theorem acheck_to (n k c : Int) (w : World) (h : Hid (atE n k = c)) :
    Calls Tryz.prog 82 #[.agg #[.int .i64 n, .int .i64 k]] w fun e w' => e = .returned (.int .i64 c) ∧ w.alloc (Obj.cells #[.int .i64 n, .int .i64 k] 28) = w' :=
  (acheck_any n k w).mono fun _ _ ⟨he, hw⟩ => ⟨by rw [he, h.out], hw⟩

set_option maxHeartbeats 1600000 in
theorem atext_any (n k : Int) (w : World) (hp : Pow w) :
    Calls Tryz.prog 59 #[.agg #[.int .i64 n, .int .i64 k]] w fun e w' => e = .returned (.tuple #[.string ⟨(atT n k).toArray⟩, .int .i64 (atE n k)]) ∧ Below w.heap.size w w' := by
  have HP := Lib.hid hp
  clear hp
  cases ho : atOk n k with
  | false =>
    have HE : Hid (atE n k = 9) := Lib.hid (by rw [atE, ho]; rfl)
    have HT : Hid (atT n k = []) := Lib.hid (by rw [atT, ho]; rfl)
    clear ho
    go_enter Tryz.func59, Tryz.ntmps59
    go_wp2_with fail
    refine (acheck_to _ _ _ _ HE).mono ?_
    rintro e w1 ⟨rfl, rfl⟩
    go_wp2
    go_ret2
    exact ⟨ret_si (by rw [HT.out]) HE.out.symm, by repeat (first | exact Below.refl _ _ | refine below_drewN ?_ _ | refine Below.alloc ?_ (by simp; try omega) _)⟩
  | true =>
    have HE : Hid (atE n k = 0) := Lib.hid (by rw [atE, if_pos ho])
    have HT : Hid (atT n k = ctL n ++ suf k) := Lib.hid (by rw [atT, if_pos ho])
    have hh := ho
    rw [atOk, Bool.and_eq_true] at hh
    have hn : -345600 ≤ n ∧ n ≤ 345600 := of_decide_eq_true hh.1
    have hk : 1 ≤ k ∧ k ≤ 3 := of_decide_eq_true hh.2
    have hlen := ct_len hn.1 hn.2
    obtain ⟨c1, c2⟩ := ct_in hn
    obtain ⟨C, hC⟩ : ∃ C, ctL n = C := ⟨_, rfl⟩
    rw [hC] at HT c2 hlen
    have CT := Lib.hid (And.intro c2 c1)
    have hk3 : k = 1 ∨ k = 2 ∨ k = 3 := by omega
    clear ho hh hn hk c1 c2 hC
    rcases hk3 with rfl | rfl | rfl
    · go_enter Tryz.func59, Tryz.ntmps59
      go_wp2_with fail
      refine (acheck_to _ _ _ _ HE).mono ?_
      rintro e w1 ⟨rfl, rfl⟩
      go_wp2_with fail
      refine (ctext_to _ _ _ _ (HP.out.stays (by repeat (first | exact Below.refl _ _ | refine below_drewN ?_ _ | refine Below.alloc ?_ (by simp; try omega) _))) CT).mono ?_
      rintro e w1 ⟨rfl, hb⟩
      have z1 : w1.cell? ⟨w.heap.size, 1, none⟩ = some (.int .i64 1) := (hb.cell (p := ⟨w.heap.size, 1, none⟩) (by simp; omega)).trans (by go_simp)
      go_wp2
      go_ret2
      exact ⟨ret_si (bytes_eq (by rw [HT.out]; simp [suf])) HE.out.symm, Below.trans (by repeat (first | exact Below.refl _ _ | refine below_drewN ?_ _ | refine Below.alloc ?_ (by simp; try omega) _)) (hb.mono (by simp; try omega))⟩
    · go_enter Tryz.func59, Tryz.ntmps59
      go_wp2_with fail
      refine (acheck_to _ _ _ _ HE).mono ?_
      rintro e w1 ⟨rfl, rfl⟩
      go_wp2_with fail
      refine (ctext_to _ _ _ _ (HP.out.stays (by repeat (first | exact Below.refl _ _ | refine below_drewN ?_ _ | refine Below.alloc ?_ (by simp; try omega) _))) CT).mono ?_
      rintro e w1 ⟨rfl, hb⟩
      have z1 : w1.cell? ⟨w.heap.size, 1, none⟩ = some (.int .i64 2) := (hb.cell (p := ⟨w.heap.size, 1, none⟩) (by simp; omega)).trans (by go_simp)
      go_wp2
      go_ret2
      exact ⟨ret_si (bytes_eq (by rw [HT.out]; simp [suf])) HE.out.symm, Below.trans (by repeat (first | exact Below.refl _ _ | refine below_drewN ?_ _ | refine Below.alloc ?_ (by simp; try omega) _)) (hb.mono (by simp; try omega))⟩
    · go_enter Tryz.func59, Tryz.ntmps59
      go_wp2_with fail
      refine (acheck_to _ _ _ _ HE).mono ?_
      rintro e w1 ⟨rfl, rfl⟩
      go_wp2_with fail
      refine (ctext_to _ _ _ _ (HP.out.stays (by repeat (first | exact Below.refl _ _ | refine below_drewN ?_ _ | refine Below.alloc ?_ (by simp; try omega) _))) CT).mono ?_
      rintro e w1 ⟨rfl, hb⟩
      have z1 : w1.cell? ⟨w.heap.size, 1, none⟩ = some (.int .i64 3) := (hb.cell (p := ⟨w.heap.size, 1, none⟩) (by simp; omega)).trans (by go_simp)
      go_wp2
      go_ret2
      exact ⟨ret_si (bytes_eq (by rw [HT.out]; simp [suf])) HE.out.symm, Below.trans (by repeat (first | exact Below.refl _ _ | refine below_drewN ?_ _ | refine Below.alloc ?_ (by simp; try omega) _)) (hb.mono (by simp; try omega))⟩
theorem atext_to (n k c : Int) (T : List UInt8) (w : World) (hp : Pow w) (h : Hid (atT n k = T ∧ atE n k = c)) :
    Calls Tryz.prog 59 #[.agg #[.int .i64 n, .int .i64 k]] w fun e w' => e = .returned (.tuple #[.string ⟨T.toArray⟩, .int .i64 c]) ∧ Below w.heap.size w w' :=
  (atext_any n k w hp).mono fun _ _ ⟨he, hw⟩ => ⟨by rw [he, h.out.1, h.out.2], hw⟩
end Atf
end Go.Proofs.YthefgagmjamdkaaGreatDoor
/-
  Contracts of package atform, second part: Parse; the waking call of its laws.
-/
namespace Go.Proofs.YthefgagmjamdkaaGreatDoor
open Go.RowKit
namespace Atf
open Sol Clk
theorem last_str {s : ByteArray} {L : List UInt8} {k : Nat} (hL : s.data.toList = L) (hk : s.size = k + 1) : ∃ (h : k < s.size) (l : List UInt8), L = l ++ [s[k]] ∧ s.extract 0 k = ⟨l.toArray⟩ := by
  have hlen := Lib.size_eq s
  rw [hL] at hlen
  have hne : L ≠ [] := fun e => by
    have h0 : L.length = 0 := by rw [e]; rfl
    omega
  refine ⟨by omega, L.dropLast, ?_, ?_⟩
  · have e := List.dropLast_concat_getLast hne
    have : L.getLast hne = s[k]'(by omega) := by
      subst hL
      rw [List.getLast_eq_getElem]
      have e2 : s.data.toList.length - 1 = k := by omega
      simp only [e2]
      rfl
    rw [← this]; exact e.symm
  · refine bytes_eq ?_
    rw [Lib.extract_data, hL, List.drop_zero, Nat.sub_zero]
    show L.take k = L.dropLast
    rw [List.dropLast_eq_take]
    congr 1; omega
def LtRel (s : ByteArray) (B L : List UInt8) (y : Value) : Prop := ∃ b : Bool, y = .bool b ∧ ((b = false ∧ B = L) ∨ (b = true ∧ ∃ (k : Nat), s.size = k + 1 ∧ s.extract 0 k = ⟨B.toArray⟩))
theorem ret_ai {a a' b b' c c' : Int} (h : a = a') (h2 : b = b') (h3 : c = c') : Ending.returned (.tuple #[.agg #[.int .i64 a, .int .i64 b], .int .i64 c]) = .returned (.tuple #[.agg #[.int .i64 a', .int .i64 b'], .int .i64 c']) := by rw [h, h2, h3]

set_option maxRecDepth 100000 in
set_option maxHeartbeats 1600000 in
theorem aparse_any (s : ByteArray) (L : List UInt8) (w : World) (hs : s.size ≤ 1000) (hL : Hid (s.data.toList = L)) :
    Calls Tryz.prog 80 #[.string s] w fun e w' => e = .returned (.tuple #[.agg #[.int .i64 (apV L), .int .i64 (apKk L)], .int .i64 (apE L)]) ∧ Below w.heap.size w w' := by
  have hl := Lib.size_eq s
  rw [hL.out] at hl
  have HV : Hid (apV L = if clB (apL L) then clV (apL L) else 0) := Lib.hid rfl
  have HKk : Hid (apKk L = if clB (apL L) then apK L else 0) := Lib.hid rfl
  have HE : Hid (apE L = if clB (apL L) then 0 else 9) := Lib.hid rfl
  have hsn : (s.size = 0 ∧ apL L = L ∧ apK L = 1) ∨ ∃ (k : Nat) (c : UInt8) (l : List UInt8), s.size = k + 1 ∧ (∃ h : k < s.size, s[k] = c) ∧ s.extract 0 k = ⟨l.toArray⟩ ∧ apL L = (if ltB c then l else L) ∧ apK L = ltV c := by
    by_cases h0 : s.size = 0
    · left
      have : L = [] := by rw [← List.length_eq_zero_iff, ← hl]; exact h0
      subst this
      exact ⟨h0, rfl, rfl⟩
    · right
      obtain ⟨k, hk⟩ : ∃ k, s.size = k + 1 := ⟨s.size - 1, by omega⟩
      obtain ⟨h, l, e1, e2⟩ := last_str hL.out hk
      obtain ⟨p1, p2⟩ := ap_snoc l s[k]
      rw [← e1] at p1 p2
      exact ⟨k, s[k], l, hk, ⟨h, rfl⟩, e2, p1, p2⟩
  have hal : (apL L).length ≤ 1000 := by
    rcases hsn with ⟨_, h, _⟩ | ⟨k, c, l, hk, _, he, h, _⟩
    · rw [h]; omega
    · rw [h]
      split
      · have h2 : (s.extract 0 k).size = l.length := by rw [he]; rfl
        simp at h2; omega
      · omega
  obtain ⟨B, hB⟩ : ∃ B, apL L = B := ⟨_, rfl⟩
  obtain ⟨K, hK⟩ : ∃ K, apK L = K := ⟨_, rfl⟩
  rw [hB] at HV HKk HE hsn hal
  rw [hK] at HKk hsn
  clear hB hK
  obtain ⟨v, hv⟩ : ∃ x, clV B = x := ⟨_, rfl⟩
  obtain ⟨c, hc⟩ : ∃ x, clE B = x := ⟨_, rfl⟩
  have PB := Lib.hid (And.intro hv hc)
  have HN := Lib.hid (fun h => cl_no (l := B) h)
  have HY := Lib.hid (fun h => clE_yes (l := B) h)
  obtain ⟨cb, hcb⟩ : ∃ x, clB B = x := ⟨_, rfl⟩
  rw [hcb] at HV HKk HE HN HY
  rw [hv] at HV HN
  rw [hc] at HN HY
  have hx : Hid ((cb = false ∧ v = 0 ∧ c = 5) ∨ (cb = true ∧ c = 0)) := Lib.hid (by
    cases cb with
    | false => exact Or.inl ⟨rfl, HN.out rfl⟩
    | true => exact Or.inr ⟨rfl, HY.out rfl⟩)
  clear hv hc hcb HN HY
  have HL := Lib.hid hl
  clear hl
  go_enter Tryz.func80, Tryz.ntmps80
  go_upto_region 2 with fail
  go_cut [9] (fun x wx => x = .bool (decide (s.size ≠ 0)) ∧ w.alloc (Obj.cells #[.int .i64 0, .int .i64 0] 28) = wx)
  case first =>
    by_cases h0 : s.size = 0
    · have he := emp_yes h0
      go_wp2
      go_meet
      exact ⟨by simp [h0], rfl⟩
    · have he := emp_no h0
      go_wp2
      go_meet
      exact ⟨by simp [h0], rfl⟩
  case rest =>
  obtain ⟨rfl, hwc⟩ := hcut
  subst hwc
  go_upto_if 9 with fail
  go_cut [4, 5] (fun x y wx => x = .int .i64 K ∧ LtRel s B L y ∧ w.alloc (Obj.cells #[.int .i64 0, .int .i64 0] 28) = wx)
  case first =>
    rcases hsn with ⟨h0, rfl, rfl⟩ | ⟨k, ch, l, hk, ⟨hlt, hch⟩, he, h1, h2⟩
    · have hd : decide (s.size ≠ 0) = false := by simp [h0]
      go_wp2
      go_meet
      exact ⟨rfl, ⟨false, rfl, Or.inl ⟨rfl, rfl⟩⟩, rfl⟩
    · have hd : decide (s.size ≠ 0) = true := decide_eq_true (by omega)
      have e1 : (s.size : Int) - 1 = (k : Int) := by omega
      obtain ⟨lb, hlb⟩ : ∃ b, ltB ch = b := ⟨_, rfl⟩
      rw [hlb] at h1
      have LT := Lib.hid (And.intro h2.symm hlb)
      have HH1 := Lib.hid h1
      have HHE := Lib.hid he
      have HHK := Lib.hid hk
      have k0 : k ≤ 1000 := by omega
      clear h1 h2 he hlb hk
      subst hch
      go_wp2_with fail
      refine (letter_to _ K lb _ LT).mono ?_
      rintro e w1 ⟨rfl, rfl⟩
      go_wp2
      go_meet
      refine ⟨rfl, ⟨lb, rfl, ?_⟩, rfl⟩
      cases lb with
      | false => exact Or.inl ⟨rfl, HH1.out⟩
      | true => exact Or.inr ⟨rfl, k, HHK.out, by rw [HHE.out, HH1.out]; rfl⟩
  case rest =>
  obtain ⟨rfl, ⟨b, rfl, hb⟩, hwc⟩ := hcut
  subst hwc
  clear hsn
  go_upto_if 19 with fail
  go_cut [0] (fun x wx => x = .string ⟨B.toArray⟩ ∧ w.alloc (Obj.cells #[.int .i64 0, .int .i64 0] 28) = wx)
  case first =>
    rcases hb with ⟨rfl, rfl⟩ | ⟨rfl, k, hk, he⟩
    · have HS : Hid (s = ⟨B.toArray⟩) := Lib.hid (by rw [← hL.out, Lib.mk_data])
      go_wp2
      go_meet
      exact ⟨congrArg Value.string HS.out, rfl⟩
    · have e1 : (s.size : Int) - 1 = (k : Int) := by omega
      have k0 : k ≤ 1000 := by omega
      have k1 : k ≤ s.size := by omega
      have HHE := Lib.hid he
      clear he hk
      go_wp2
      go_meet
      exact ⟨congrArg Value.string HHE.out, rfl⟩
  case rest =>
  obtain ⟨rfl, hwc⟩ := hcut
  subst hwc
  clear hb
  have zB : (⟨B.toArray⟩ : ByteArray).size ≤ maxLen := by show B.length ≤ _; unfold maxLen; omega
  have ZB := Lib.hid zB
  clear zB
  rcases hx.out with ⟨rfl, rfl, rfl⟩ | ⟨rfl, rfl⟩
  · go_wp2_with fail
    refine (cparse_to _ B 0 5 _ ZB.out (Lib.hid rfl) PB).mono ?_
    rintro e w1 ⟨rfl, q, rfl⟩
    go_wp2
    exact bodyPost_ret (v := .tuple #[.agg #[.int .i64 0, .int .i64 0], .int .i64 9]) (by simp [results, Tryz.results80, go_sem]) rfl ⟨ret_ai HV.out.symm HKk.out.symm HE.out.symm, by repeat (first | exact Below.refl _ _ | refine Below.setCell ?_ (by simp) _ | refine below_drewN ?_ _ | refine Below.alloc ?_ (by simp; try omega) _)⟩
  · go_wp2_with fail
    refine (cparse_to _ B v 0 _ ZB.out (Lib.hid rfl) PB).mono ?_
    rintro e w1 ⟨rfl, q, rfl⟩
    go_wp2
    exact bodyPost_ret (v := .tuple #[.agg #[.int .i64 v, .int .i64 K], .int .i64 0]) (by simp [results, Tryz.results80, go_sem]) rfl ⟨ret_ai HV.out.symm HKk.out.symm HE.out.symm, by repeat (first | exact Below.refl _ _ | refine Below.setCell ?_ (by simp) _ | refine below_drewN ?_ _ | refine Below.alloc ?_ (by simp; try omega) _)⟩
theorem aparse_to (s : ByteArray) (L : List UInt8) (v k c : Int) (w : World) (hl : L.length ≤ 1000) (hL : Hid (s.data.toList = L)) (h : Hid (apV L = v ∧ apKk L = k ∧ apE L = c)) :
    Calls Tryz.prog 80 #[.string s] w fun e w' => e = .returned (.tuple #[.agg #[.int .i64 v, .int .i64 k], .int .i64 c]) ∧ Below w.heap.size w w' :=
  (aparse_any s L w (by rw [Lib.size_eq, hL.out]; exact hl) hL).mono fun _ _ ⟨he, hw⟩ => ⟨by rw [he, h.out.1, h.out.2.1, h.out.2.2], hw⟩

theorem wk8_1 : apV [49, 58, 48, 48, 117] = 3600 ∧ apKk [49, 58, 48, 48, 117] = 3 ∧ apE [49, 58, 48, 48, 117] = 0 := by decide +kernel
theorem wk8_2 : atT 7200 2 = [50, 115] ∧ atE 7200 2 = 0 := by
  obtain ⟨a, b, _⟩ := at_back (n := 7200) (k := 2) (by decide) (by decide)
  refine ⟨?_, a⟩
  have k1 : textL 2 1 = [50] := by rw [textL, if_neg (by decide), if_pos (by decide), show (2 : Int).toNat = 2 from rfl, Lib.decDigits, dif_pos (by decide)]; rfl
  rw [b, ctL, if_neg (by decide), body, if_pos (by decide), if_pos (by decide), show (7200 : Int) / 3600 = 2 from rfl, k1]; rfl
theorem wk8_3 : utV 10000 1 3600 1800 = 4600 ∧ utB 10000 1 3600 1800 = true := by decide +kernel
theorem wk8_4 : atE 0 0 = 9 := by decide +kernel

end Atf
end Go.Proofs.YthefgagmjamdkaaGreatDoor
