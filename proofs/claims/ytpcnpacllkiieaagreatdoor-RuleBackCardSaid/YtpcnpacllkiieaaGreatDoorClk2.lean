/-
  Contracts of package clock, second part: read, Parse.
-/
import Derived.Test.YtpcnpacllkiieaaGreatDoorClk
import Derived.Deep.DeepCutAuto
namespace Go.Proofs.YtpcnpacllkiieaaGreatDoor
open Go.RowKit
namespace Clk
open Sol
theorem idx_at (s : ByteArray) (L : List UInt8) (v : Int) (w : World) (hL : Hid (s.data.toList = L)) (hv : Hid (Lib.indexByte L 58 = v)) :
    Calls Tryz.prog 72 #[.string s, .int .u8 58] w fun e w' => e = .returned (.int .i64 v) ∧ w = w' :=
  (Tryz.strings_IndexByte s 58 w).mono fun _ _ ⟨he, hw⟩ => ⟨by rw [he, hL.out]; show Ending.returned (.int .i64 (Lib.indexByte L 58)) = _; rw [hv.out], hw.symm⟩
theorem parse_to (s : ByteArray) (L : List UInt8) (v : Int) (b : Bool) (w : World) (hs : s.size ≤ maxLen) (hL : Hid (s.data.toList = L)) (hv : Hid (parseV L = v)) (hb : Hid (parseB L = b)) :
    Calls Tryz.prog 109 #[.string s] w fun e w' => e = .returned (.tuple #[.int .i64 v, .bool b]) ∧ w = w' :=
  (parse_any s w hs).mono fun _ _ ⟨he, hw⟩ => ⟨by rw [he, hL.out, hv.out, hb.out], hw⟩
theorem sixY_to (s : ByteArray) (L : List UInt8) (v : Int) (R : List UInt8) (w : World) (hs : s.size ≤ maxLen) (hL : Hid (s.data.toList = L)) (h : Hid (sixB L = true ∧ sixV L = v ∧ sixR L = R)) :
    Calls Tryz.prog 159 #[.string s] w fun e w' => e = .returned (.tuple #[.int .i64 v, .string ⟨R.toArray⟩, .bool true]) ∧ ∃ n, w' = w.drewN n :=
  (six_yes s w hs (by rw [hL.out]; exact h.out.1)).mono fun _ _ ⟨he, hw⟩ => ⟨by rw [he, hL.out, h.out.2.1, h.out.2.2], hw⟩
theorem sixN_to (s : ByteArray) (L : List UInt8) (w : World) (hs : s.size ≤ maxLen) (hL : Hid (s.data.toList = L)) (h : Hid (sixB L = false)) :
    Calls Tryz.prog 159 #[.string s] w (SixNo w) := six_no s w hs (by rw [hL.out]; exact h.out)
theorem readV_no {l : List UInt8} (h : readB l = false) : readV l = 0 := by rw [readV, h]; rfl
theorem idx_or (L : List UInt8) (n : Nat) (hn : n = L.length) : (Lib.indexByte L 58 < 0 ∧ (hdL L).length = n) ∨ (Lib.indexByte L 58 = ((hdL L).length : Int) ∧ 0 ≤ Lib.indexByte L 58) := by
  rcases idx_hd L with ⟨a, b, c⟩ | ⟨a, b⟩
  · exact Or.inl ⟨a, by rw [b, hn]⟩
  · exact Or.inr ⟨a, by omega⟩
theorem hd_str {s : ByteArray} {L : List UInt8} (h : s.data.toList = L) : (s.extract 0 (hdL L).length).data.toList = hdL L ∧ (s.extract (hdL L).length s.size).data.toList = tlL L ∧ (hdL L).length ≤ s.size := by
  have e := hd_tl L
  have hl := Lib.size_eq s
  rw [h] at hl
  refine ⟨?_, ?_, ?_⟩
  · rw [Lib.extract_data, h, List.drop_zero, Nat.sub_zero]
    have k : (hdL L ++ tlL L).take (hdL L).length = hdL L := List.take_left
    rw [e] at k; exact k
  · rw [Lib.extract_to_end, h]
    have k : (hdL L ++ tlL L).drop (hdL L).length = tlL L := List.drop_left
    rw [e] at k; exact k
  · rw [hl, ← e, List.length_append]; simp [e]
theorem digs3 {a : List UInt8} (h : parseB a = true) (hl : a.length ≤ 3) : 0 ≤ parseV a ∧ parseV a < 1000 := by
  rw [parseV_yes h]
  simp [parseB] at h
  have := digVal_bd a (by simpa using h.2)
  have h2 : (10 : Int) ^ a.length ≤ 1000 := by
    have : a.length = 0 ∨ a.length = 1 ∨ a.length = 2 ∨ a.length = 3 := by omega
    rcases this with e | e | e | e <;> rw [e] <;> decide
  omega
theorem six_lt {L : List UInt8} (h : sixB L = true) : 0 ≤ sixV L ∧ sixV L < 60 := by
  have p := (parseV_nn (sixS L)).1
  rcases sixB_inv h with rfl | ⟨_, _, _, h4⟩
  · decide
  · exact ⟨p, h4⟩

set_option maxRecDepth 100000 in
set_option maxHeartbeats 1600000 in
theorem read_any (s : ByteArray) (L : List UInt8) (w : World) (hs : s.size ≤ maxLen) (hL : Hid (s.data.toList = L)) :
    Calls Tryz.prog 142 #[.string s] w fun e w' => e = .returned (.tuple #[.int .i64 (readV L), .bool (readB L)]) ∧ ∃ n, w' = w.drewN n := by
  unfold maxLen at hs
  have hl := Lib.size_eq s
  rw [hL.out] at hl
  have hx := idx_or L s.size hl
  obtain ⟨x1, x2, x3⟩ := hd_str hL.out
  have lt : (tlL L).length ≤ L.length := by have := congrArg List.length (hd_tl L); rw [List.length_append] at this; omega
  have lr : (sixR (tlL L)).length ≤ L.length := by rw [sixR, List.length_drop]; omega
  obtain ⟨v, hv⟩ : ∃ v, Lib.indexByte L 58 = v := ⟨_, rfl⟩
  rw [hv] at hx
  have HV := Lib.hid hv
  have HRB : Hid (readB L = (parseB (hdL L) && decide ((hdL L).length ≤ 3) && sixB (tlL L) && sixB (sixR (tlL L)) && (sixR (sixR (tlL L))).isEmpty)) := Lib.hid rfl
  have HRV : Hid (readB L = true → readV L = parseV (hdL L) * 3600 + sixV (tlL L) * 60 + sixV (sixR (tlL L))) := Lib.hid (fun h => by rw [readV, if_pos h])
  have HD3 := Lib.hid (fun h hl => digs3 (a := hdL L) h hl)
  have HS1 := Lib.hid (fun h => six_lt (L := tlL L) h)
  have HS2 := Lib.hid (fun h => six_lt (L := sixR (tlL L)) h)
  obtain ⟨A, hA⟩ : ∃ A, hdL L = A := ⟨_, rfl⟩
  obtain ⟨T, hT⟩ : ∃ T, tlL L = T := ⟨_, rfl⟩
  rw [hA] at hx x1 x2 x3 HRB HRV HD3
  rw [hT] at x2 lt lr HRB HRV HS1 HS2
  obtain ⟨R, hR⟩ : ∃ R, sixR T = R := ⟨_, rfl⟩
  rw [hR] at lr HRB HRV HS2
  obtain ⟨Q, hQ⟩ : ∃ Q, sixR R = Q := ⟨_, rfl⟩
  rw [hQ] at HRB
  obtain ⟨K, hK⟩ : ∃ K, A.length = K := ⟨_, rfl⟩
  rw [hK] at hx x1 x2 x3 HRB HD3
  have X1 := Lib.hid x1
  have X2 := Lib.hid x2
  have HR := Lib.hid hR
  have HQ := Lib.hid hQ
  have zR : (⟨R.toArray⟩ : ByteArray).size ≤ maxLen := by show R.length ≤ _; unfold maxLen; omega
  have zA : (s.extract 0 K).size ≤ maxLen := by simp; unfold maxLen; omega
  have zT : (s.extract K s.size).size ≤ maxLen := by simp; unfold maxLen; omega
  have ZR := Lib.hid zR
  have ZA := Lib.hid zA
  have ZT := Lib.hid zT
  clear hv hl hA hT hR hQ hK x1 x2 lt lr zR zA zT
  obtain ⟨pv, hpv⟩ : ∃ x, parseV A = x := ⟨_, rfl⟩
  obtain ⟨pb, hpb⟩ : ∃ x, parseB A = x := ⟨_, rfl⟩
  rw [hpv] at HRV HD3
  rw [hpb] at HRB HD3
  have PV := Lib.hid hpv
  have PB := Lib.hid hpb
  clear hpv hpb
  go_enter Tryz.func142, Tryz.ntmps142
  go_wp2_with fail
  refine (idx_at s L v _ hL HV).mono ?_
  rintro e w1 ⟨rfl, rfl⟩
  go_upto_if 12 with fail
  go_cut [4] (fun x wx => x = .int .i64 (K : Int) ∧ w = wx)
  case first =>
    rcases hx with ⟨h1, h2⟩ | ⟨h1, h2⟩
    · go_wp2
      go_meet
      exact ⟨by rw [h2], rfl⟩
    · go_wp2
      go_meet
      exact ⟨by rw [h1], rfl⟩
  case rest =>
    obtain ⟨rfl, hwc⟩ := hcut
    subst hwc
    clear hx
    go_wp2_with fail
    refine (parse_to _ A pv pb _ ZA.out X1 PV PB).mono ?_
    rintro e w1 ⟨rfl, rfl⟩
    cases pb with
    | false =>
      have H : Hid (readB L = false) := Lib.hid (by rw [HRB.out]; rfl)
      go_wp2
      go_ret2
      exact ⟨ret_ib (readV_no H.out).symm H.out.symm, 0, rfl⟩
    | true =>
      by_cases hK3 : K ≤ 3
      · have d3 := HD3.out rfl hK3
        cases hs1 : sixB T with
        | false =>
          have S1 := Lib.hid hs1
          have H : Hid (readB L = false) := Lib.hid (by rw [HRB.out, hs1]; simp)
          clear hs1
          go_wp2_with fail
          refine (sixN_to _ T _ ZT.out X2 S1).mono ?_
          rintro e w1 ⟨v1, r1, n1, rfl, rfl⟩
          go_wp2
          go_ret2
          exact ⟨ret_ib (readV_no H.out).symm H.out.symm, _, rfl⟩
        | true =>
          have d4 := HS1.out hs1
          obtain ⟨v1, hv1⟩ : ∃ x, sixV T = x := ⟨_, rfl⟩
          rw [hv1] at d4 HRV
          have S1 := Lib.hid (And.intro hs1 (And.intro hv1 HR.out))
          cases hs2 : sixB R with
          | false =>
            have S2 := Lib.hid hs2
            have H : Hid (readB L = false) := Lib.hid (by rw [HRB.out, hs2]; simp)
            clear hs1 hs2 hv1
            go_wp2_with fail
            refine (sixY_to _ T v1 R _ ZT.out X2 S1).mono ?_
            rintro e w1 ⟨rfl, n1, rfl⟩
            go_wp2_with fail
            refine (sixN_to _ R _ ZR.out (Lib.hid rfl) S2).mono ?_
            rintro e w1 ⟨v2, r1, n2, rfl, rfl⟩
            go_wp2
            go_ret2
            exact ⟨ret_ib (readV_no H.out).symm H.out.symm, _, rfl⟩
          | true =>
            have d5 := HS2.out hs2
            obtain ⟨v2, hv2⟩ : ∃ x, sixV R = x := ⟨_, rfl⟩
            rw [hv2] at d5 HRV
            have S2 := Lib.hid (And.intro hs2 (And.intro hv2 HQ.out))
            cases hq : Q.isEmpty with
            | false =>
              have H : Hid (readB L = false) := Lib.hid (by rw [HRB.out, hq]; simp)
              clear hs1 hs2 hv1 hv2
              go_wp2_with fail
              refine (sixY_to _ T v1 R _ ZT.out X2 S1).mono ?_
              rintro e w1 ⟨rfl, n1, rfl⟩
              go_wp2_with fail
              refine (sixY_to _ R v2 Q _ ZR.out (Lib.hid rfl) S2).mono ?_
              rintro e w1 ⟨rfl, n2, rfl⟩
              go_wp2
              go_ret2
              exact ⟨ret_ib (readV_no H.out).symm H.out.symm, _, rfl⟩
            | true =>
              have H : Hid (readB L = true) := Lib.hid (by rw [HRB.out, hs1, hs2, hq]; simp [hK3])
              have HW := Lib.hid (HRV.out H.out)
              clear hs1 hs2 hv1 hv2
              go_wp2_with fail
              refine (sixY_to _ T v1 R _ ZT.out X2 S1).mono ?_
              rintro e w1 ⟨rfl, n1, rfl⟩
              go_wp2_with fail
              refine (sixY_to _ R v2 Q _ ZR.out (Lib.hid rfl) S2).mono ?_
              rintro e w1 ⟨rfl, n2, rfl⟩
              go_wp2
              go_ret2
              exact ⟨ret_ib HW.out.symm H.out.symm, _, rfl⟩
      · have hK4 : 3 < K := by omega
        have H : Hid (readB L = false) := Lib.hid (by rw [HRB.out]; simp [hK3])
        clear hK3
        go_wp2
        go_ret2
        exact ⟨ret_ib (readV_no H.out).symm H.out.symm, 0, rfl⟩
end Clk
end Go.Proofs.YtpcnpacllkiieaaGreatDoor
