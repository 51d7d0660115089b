/-
  FoldExact: the walk.
-/
import Derived.Test.YthnlphnhdhmcpaaFldX
namespace Go.Proofs.Ythnlphnhdhmcpaa
open Go.RowKit
namespace Fld
open Opn (sv TxtV)
theorem hit_snoc {S : List UInt8} {k : Nat} (h : k < S.length) : hit (S.take (k + 1)) = (hit (S.take k) || le S[k]) := by
  rw [List.take_succ_eq_append_getElem h, hit, List.any_append]
  simp [hit]
theorem hit_at {S : List UInt8} {k : Nat} (h : k < S.length) (hl : le S[k] = true) : hit S = true := List.any_eq_true.2 ⟨S[k], List.getElem_mem h, hl⟩
theorem le_cases (c : UInt8) : (c = 10 ∧ le c = true) ∨ (c = 13 ∧ le c = true) ∨ (((c.toNat : Int) == 10) = false ∧ ((c.toNat : Int) == 13) = false ∧ le c = false) := by
  by_cases h1 : c = 10
  · exact Or.inl ⟨h1, by rw [h1]; rfl⟩
  · by_cases h2 : c = 13
    · exact Or.inr (Or.inl ⟨h2, by rw [h2]; rfl⟩)
    · refine Or.inr (Or.inr ⟨Esc.u8_ne (n := 10) (by decide) h1, Esc.u8_ne (n := 13) (by decide) h2, ?_⟩)
      unfold le
      simp [h1, h2]
theorem at_list {s : ByteArray} {S : List UInt8} (hS : s.data.toList = S) (k : Nat) (h : k < s.size) : ∃ h2 : k < S.length, s[k] = S[k] := by
  have hl : S.length = s.size := by rw [← hS]; simp
  refine ⟨by omega, ?_⟩
  rw [at_get hS k h, List.getD_eq_getElem?_getD, List.getElem?_eq_getElem (by omega)]
  rfl
set_option maxHeartbeats 12800000 in
set_option maxRecDepth 100000 in
theorem fexact16_any (s t : ByteArray) (w : World) :
    Calls Try.prog 3 #[.string s, .string t] w fun e w' => e = .returned (.bool true) ∧ Below w.heap.size w w' := by
  by_cases z1 : 3000 < s.size
  · go_enter Try.func3, Try.ntmps3
    go_wp2
    go_ret
    exact ⟨rfl, Below.refl _ _⟩
  have z2 : s.size ≤ 3000 := by omega
  clear z1
  by_cases z3 : 3000 < t.size
  · go_enter Try.func3, Try.ntmps3
    go_wp2
    go_ret
    exact ⟨rfl, Below.refl _ _⟩
  have z4 : t.size ≤ 3000 := by omega
  clear z3
  obtain ⟨S, hS⟩ : ∃ x, s.data.toList = x := ⟨_, rfl⟩
  obtain ⟨T, hT⟩ : ∃ x, t.data.toList = x := ⟨_, rfl⟩
  obtain ⟨R, rc, hR⟩ : ∃ R rc, lineR S = (R, rc) := ⟨_, _, rfl⟩
  obtain ⟨L, uc, hL⟩ : ∃ L uc, unfR T = (L, uc) := ⟨_, _, rfl⟩
  have hl : S.length = s.size := by rw [← hS]; simp
  have HL := Lib.hid hl
  have HS := Lib.hid hS
  have HT := Lib.hid hT
  have HR := Lib.hid hR
  have HU := Lib.hid hL
  have hLL : L.length ≤ 1000000 := by
    have key : ∀ (n : Nat) (P T : List UInt8), T.length ≤ n → (unfG P T).length ≤ T.length + 1 := by
      intro n
      induction n with
      | zero => intro P T h; have : T = [] := List.length_eq_zero_iff.1 (by omega); subst this; rw [unf_nil]; unfold fin; split <;> simp
      | succ n ih =>
        intro P T h
        match T, h with
        | [], _ => rw [unf_nil]; unfold fin; split <;> simp
        | [c], _ => rw [unfG]; unfold fin; repeat' split
                    all_goals simp
        | c :: d :: T', h =>
          simp only [List.length_cons] at h
          rw [unfG]
          have h1 := ih P (d :: T') (by simp; omega)
          have h2 := ih P T' (by omega)
          have h3 := ih [] (d :: T') (by simp; omega)
          have h4 := ih (P ++ [c]) (d :: T') (by simp; omega)
          repeat' split
          all_goals simp only [List.length_cons] at *; omega
    unfold unfR at hL
    split at hL
    · injection hL with a b
      rw [← a]
      have := key _ [] T (Nat.le_refl _)
      have ht : T.length = t.size := by rw [← hT]; simp
      unfold unfS
      omega
    · injection hL with a b
      rw [← a]; simp
  have HLL := Lib.hid hLL
  clear hS hT hR hL hl hLL
  go_enter Try.func3, Try.ntmps3
  go_wp2_with fail
  refine (line_any s S R rc _ (by omega) HS HR).mono ?_
  rintro e w1 ⟨rfl, b1⟩
  go_wp2_with fail
  refine (unfold_any t T L uc _ (by omega) HT HU).mono ?_
  rintro e w2 ⟨v2, rfl, t2, d2⟩
  have b2 := b1.trans (d2.mono b1.size)
  have T2 := Lib.hid t2
  clear d2 b1 t2
  go_wp2_with fail
  refine (runf_any t T L uc _ (by omega) HT HU).mono ?_
  rintro e w3 ⟨v3, rfl, t3, d3⟩
  have b3 := b2.trans (d3.mono b2.size)
  have T3 := Lib.hid (T2.out.below d3)
  have T4 := Lib.hid t3
  clear d3 b2 t3 T2
  go_wp2_with fail
  refine (Opn.texts_any v2 v3 L L _ T3.out T4.out HLL.out HLL.out).mono ?_
  rintro e w4 ⟨bb, rfl, hbb, m, rfl⟩
  obtain rfl : bb = true := by rw [hbb.out]; exact decide_eq_true rfl
  have b4 := below_drewN b3 m
  obtain ⟨W4, hW4⟩ : ∃ x, w3.drewN m = x := ⟨_, rfl⟩
  rw [hW4] at b4 ⊢
  clear hbb T3 T4 b3 hW4
  go_wp2
  go_loopw [11] (fun iv wr => ∃ k : Nat, k ≤ s.size ∧ iv = .int .i64 k ∧ Hid (hit (S.take k) = false) ∧ Below w.heap.size w wr) (fun iv _ => s.size - (intOf iv).toNat)
  case atStart => exact ⟨0, Nat.zero_le _, rfl, Lib.hid rfl, b4⟩
  case round =>
    obtain ⟨k, hk, rfl, hno, hb⟩ := hrel
    by_cases hlt : k < s.size
    · obtain ⟨hkS, hx⟩ := at_list HS.out k hlt
      obtain ⟨c, hc⟩ : ∃ c, s[k] = c := ⟨_, rfl⟩
      rw [hc] at hx
      have cb := c.toNat_lt
      have hyes : le c = true → rc = 18 ∧ R = [] := fun h => by
        have h1 := hit_at hkS (by rw [← hx]; exact h)
        have h2 := HR.out
        rw [lineR, if_pos h1] at h2
        injection h2 with a b
        exact ⟨b.symm, a.symm⟩
      have hnx : le c = false → hit (S.take (k + 1)) = false := fun h => by rw [hit_snoc hkS, hno.out, ← hx, h]; rfl
      rcases le_cases c with ⟨h1, h2⟩ | ⟨h1, h2⟩ | ⟨h1, h2, h3⟩
      · obtain ⟨rfl, rfl⟩ := hyes h2
        subst h1
        clear hyes hnx hx hno h2
        go_wp2_with fail
        refine (wakes16_any _).mono ?_
        rintro e w5 ⟨rfl, b5⟩
        go_wp2
        go_ret
        exact ⟨rfl, hb.trans (b5.mono hb.size)⟩
      · obtain ⟨rfl, rfl⟩ := hyes h2
        subst h1
        clear hyes hnx hx hno h2
        go_wp2_with fail
        refine (wakes16_any _).mono ?_
        rintro e w5 ⟨rfl, b5⟩
        go_wp2
        go_ret
        exact ⟨rfl, hb.trans (b5.mono hb.size)⟩
      · have HN := Lib.hid (hnx h3)
        clear hyes hnx hx hno h3
        go_wp2
        go_roundw
        case rel => exact ⟨k + 1, by omega, by go_num, HN, hb⟩
        case measure => simp [intOf]; omega
    · have hres : rc = 0 ∧ R = foldL S := by
        have h1 := hno.out
        rw [List.take_of_length_le (by rw [HL.out]; omega)] at h1
        have h2 := HR.out
        rw [lineR, if_neg (by rw [h1]; decide)] at h2
        injection h2 with a b
        exact ⟨b.symm, a.symm⟩
      obtain ⟨rfl, hRF⟩ := hres
      have hrf := rfold_to s S wr (by omega) HS
      rw [← hRF] at hrf
      have HRF := Lib.hid hrf
      clear hno hRF hrf
      go_wp2_with fail
      refine HRF.out.mono ?_
      rintro e w5 ⟨rfl, b5⟩
      have hb5 := hb.trans (b5.mono hb.size)
      go_wp2_with fail
      refine (wakes16_any _).mono ?_
      rintro e w6 ⟨rfl, b6⟩
      go_wp2
      go_ret
      exact ⟨rfl, hb5.trans (b6.mono hb5.size)⟩
end Fld
end Go.Proofs.Ythnlphnhdhmcpaa
