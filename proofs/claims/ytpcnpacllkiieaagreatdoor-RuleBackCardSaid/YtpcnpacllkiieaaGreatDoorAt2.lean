/-
  Contracts of package atform, second part: Parse; the waking call of its laws.
-/
import Derived.Test.YtpcnpacllkiieaaGreatDoorAt
import Derived.Deep.DeepCutAuto
namespace Go.Proofs.YtpcnpacllkiieaaGreatDoor
open Go.RowKit
namespace Atf
open Sol Clk
theorem last_str {s : ByteArray} {L : List UInt8} {k : Nat} (hL : s.data.toList = L) (hk : s.size = k + 1) : ∃ (h : k < s.size) (l : List UInt8), L = l ++ [s[k]] ∧ s.extract 0 k = ⟨l.toArray⟩ := by
  have hlen := Lib.size_eq s
  rw [hL] at hlen
  have hne : L ≠ [] := fun e => by
    have h0 : L.length = 0 := by rw [e]; rfl
    omega
  refine ⟨by omega, L.dropLast, ?_, ?_⟩
  · have e := List.dropLast_concat_getLast hne
    have : L.getLast hne = s[k]'(by omega) := by
      subst hL
      rw [List.getLast_eq_getElem]
      have e2 : s.data.toList.length - 1 = k := by omega
      simp only [e2]
      rfl
    rw [← this]; exact e.symm
  · refine bytes_eq ?_
    rw [Lib.extract_data, hL, List.drop_zero, Nat.sub_zero]
    show L.take k = L.dropLast
    rw [List.dropLast_eq_take]
    congr 1; omega
def LtRel (s : ByteArray) (B L : List UInt8) (y : Value) : Prop := ∃ b : Bool, y = .bool b ∧ ((b = false ∧ B = L) ∨ (b = true ∧ ∃ (k : Nat), s.size = k + 1 ∧ s.extract 0 k = ⟨B.toArray⟩))
theorem ret_ai {a a' b b' c c' : Int} (h : a = a') (h2 : b = b') (h3 : c = c') : Ending.returned (.tuple #[.agg #[.int .i64 a, .int .i64 b], .int .i64 c]) = .returned (.tuple #[.agg #[.int .i64 a', .int .i64 b'], .int .i64 c']) := by rw [h, h2, h3]

set_option maxRecDepth 100000 in
set_option maxHeartbeats 1600000 in
theorem aparse_any (s : ByteArray) (L : List UInt8) (w : World) (hs : s.size ≤ 1000) (hL : Hid (s.data.toList = L)) :
    Calls Tryz.prog 89 #[.string s] w fun e w' => e = .returned (.tuple #[.agg #[.int .i64 (apV L), .int .i64 (apKk L)], .int .i64 (apE L)]) ∧ Below w.heap.size w w' := by
  have hl := Lib.size_eq s
  rw [hL.out] at hl
  have HV : Hid (apV L = if clB (apL L) then clV (apL L) else 0) := Lib.hid rfl
  have HKk : Hid (apKk L = if clB (apL L) then apK L else 0) := Lib.hid rfl
  have HE : Hid (apE L = if clB (apL L) then 0 else 9) := Lib.hid rfl
  have hsn : (s.size = 0 ∧ apL L = L ∧ apK L = 1) ∨ ∃ (k : Nat) (c : UInt8) (l : List UInt8), s.size = k + 1 ∧ (∃ h : k < s.size, s[k] = c) ∧ s.extract 0 k = ⟨l.toArray⟩ ∧ apL L = (if ltB c then l else L) ∧ apK L = ltV c := by
    by_cases h0 : s.size = 0
    · left
      have : L = [] := by rw [← List.length_eq_zero_iff, ← hl]; exact h0
      subst this
      exact ⟨h0, rfl, rfl⟩
    · right
      obtain ⟨k, hk⟩ : ∃ k, s.size = k + 1 := ⟨s.size - 1, by omega⟩
      obtain ⟨h, l, e1, e2⟩ := last_str hL.out hk
      obtain ⟨p1, p2⟩ := ap_snoc l s[k]
      rw [← e1] at p1 p2
      exact ⟨k, s[k], l, hk, ⟨h, rfl⟩, e2, p1, p2⟩
  have hal : (apL L).length ≤ 1000 := by
    rcases hsn with ⟨_, h, _⟩ | ⟨k, c, l, hk, _, he, h, _⟩
    · rw [h]; omega
    · rw [h]
      split
      · have h2 : (s.extract 0 k).size = l.length := by rw [he]; rfl
        simp at h2; omega
      · omega
  obtain ⟨B, hB⟩ : ∃ B, apL L = B := ⟨_, rfl⟩
  obtain ⟨K, hK⟩ : ∃ K, apK L = K := ⟨_, rfl⟩
  rw [hB] at HV HKk HE hsn hal
  rw [hK] at HKk hsn
  clear hB hK
  obtain ⟨v, hv⟩ : ∃ x, clV B = x := ⟨_, rfl⟩
  obtain ⟨c, hc⟩ : ∃ x, clE B = x := ⟨_, rfl⟩
  have PB := Lib.hid (And.intro hv hc)
  have HN := Lib.hid (fun h => cl_no (l := B) h)
  have HY := Lib.hid (fun h => clE_yes (l := B) h)
  obtain ⟨cb, hcb⟩ : ∃ x, clB B = x := ⟨_, rfl⟩
  rw [hcb] at HV HKk HE HN HY
  rw [hv] at HV HN
  rw [hc] at HN HY
  have hx : Hid ((cb = false ∧ v = 0 ∧ c = 5) ∨ (cb = true ∧ c = 0)) := Lib.hid (by
    cases cb with
    | false => exact Or.inl ⟨rfl, HN.out rfl⟩
    | true => exact Or.inr ⟨rfl, HY.out rfl⟩)
  clear hv hc hcb HN HY
  have HL := Lib.hid hl
  clear hl
  go_enter Tryz.func89, Tryz.ntmps89
  go_upto_region 2 with fail
  go_cut [9] (fun x wx => x = .bool (decide (s.size ≠ 0)) ∧ w.alloc (Obj.cells #[.int .i64 0, .int .i64 0] 25) = wx)
  case first =>
    by_cases h0 : s.size = 0
    · have he := emp_yes h0
      go_wp2
      go_meet
      exact ⟨by simp [h0], rfl⟩
    · have he := emp_no h0
      go_wp2
      go_meet
      exact ⟨by simp [h0], rfl⟩
  case rest =>
  obtain ⟨rfl, hwc⟩ := hcut
  subst hwc
  go_upto_if 9 with fail
  go_cut [4, 5] (fun x y wx => x = .int .i64 K ∧ LtRel s B L y ∧ w.alloc (Obj.cells #[.int .i64 0, .int .i64 0] 25) = wx)
  case first =>
    rcases hsn with ⟨h0, rfl, rfl⟩ | ⟨k, ch, l, hk, ⟨hlt, hch⟩, he, h1, h2⟩
    · have hd : decide (s.size ≠ 0) = false := by simp [h0]
      go_wp2
      go_meet
      exact ⟨rfl, ⟨false, rfl, Or.inl ⟨rfl, rfl⟩⟩, rfl⟩
    · have hd : decide (s.size ≠ 0) = true := decide_eq_true (by omega)
      have e1 : (s.size : Int) - 1 = (k : Int) := by omega
      obtain ⟨lb, hlb⟩ : ∃ b, ltB ch = b := ⟨_, rfl⟩
      rw [hlb] at h1
      have LT := Lib.hid (And.intro h2.symm hlb)
      have HH1 := Lib.hid h1
      have HHE := Lib.hid he
      have HHK := Lib.hid hk
      have k0 : k ≤ 1000 := by omega
      clear h1 h2 he hlb hk
      subst hch
      go_wp2_with fail
      refine (letter_to _ K lb _ LT).mono ?_
      rintro e w1 ⟨rfl, rfl⟩
      go_wp2
      go_meet
      refine ⟨rfl, ⟨lb, rfl, ?_⟩, rfl⟩
      cases lb with
      | false => exact Or.inl ⟨rfl, HH1.out⟩
      | true => exact Or.inr ⟨rfl, k, HHK.out, by rw [HHE.out, HH1.out]; rfl⟩
  case rest =>
  obtain ⟨rfl, ⟨b, rfl, hb⟩, hwc⟩ := hcut
  subst hwc
  clear hsn
  go_upto_if 19 with fail
  go_cut [0] (fun x wx => x = .string ⟨B.toArray⟩ ∧ w.alloc (Obj.cells #[.int .i64 0, .int .i64 0] 25) = wx)
  case first =>
    rcases hb with ⟨rfl, rfl⟩ | ⟨rfl, k, hk, he⟩
    · have HS : Hid (s = ⟨B.toArray⟩) := Lib.hid (by rw [← hL.out, Lib.mk_data])
      go_wp2
      go_meet
      exact ⟨congrArg Value.string HS.out, rfl⟩
    · have e1 : (s.size : Int) - 1 = (k : Int) := by omega
      have k0 : k ≤ 1000 := by omega
      have k1 : k ≤ s.size := by omega
      have HHE := Lib.hid he
      clear he hk
      go_wp2
      go_meet
      exact ⟨congrArg Value.string HHE.out, rfl⟩
  case rest =>
  obtain ⟨rfl, hwc⟩ := hcut
  subst hwc
  clear hb
  have zB : (⟨B.toArray⟩ : ByteArray).size ≤ maxLen := by show B.length ≤ _; unfold maxLen; omega
  have ZB := Lib.hid zB
  clear zB
  rcases hx.out with ⟨rfl, rfl, rfl⟩ | ⟨rfl, rfl⟩
  · go_wp2_with fail
    refine (cparse_to _ B 0 5 _ ZB.out (Lib.hid rfl) PB).mono ?_
    rintro e w1 ⟨rfl, q, rfl⟩
    go_wp2
    exact bodyPost_ret (v := .tuple #[.agg #[.int .i64 0, .int .i64 0], .int .i64 9]) (by simp [results, Tryz.results89, go_sem]) rfl ⟨ret_ai HV.out.symm HKk.out.symm HE.out.symm, by repeat (first | exact Below.refl _ _ | refine Below.setCell ?_ (by simp) _ | refine below_drewN ?_ _ | refine Below.alloc ?_ (by simp; try omega) _)⟩
  · go_wp2_with fail
    refine (cparse_to _ B v 0 _ ZB.out (Lib.hid rfl) PB).mono ?_
    rintro e w1 ⟨rfl, q, rfl⟩
    go_wp2
    exact bodyPost_ret (v := .tuple #[.agg #[.int .i64 v, .int .i64 K], .int .i64 0]) (by simp [results, Tryz.results89, go_sem]) rfl ⟨ret_ai HV.out.symm HKk.out.symm HE.out.symm, by repeat (first | exact Below.refl _ _ | refine Below.setCell ?_ (by simp) _ | refine below_drewN ?_ _ | refine Below.alloc ?_ (by simp; try omega) _)⟩
theorem aparse_to (s : ByteArray) (L : List UInt8) (v k c : Int) (w : World) (hl : L.length ≤ 1000) (hL : Hid (s.data.toList = L)) (h : Hid (apV L = v ∧ apKk L = k ∧ apE L = c)) :
    Calls Tryz.prog 89 #[.string s] w fun e w' => e = .returned (.tuple #[.agg #[.int .i64 v, .int .i64 k], .int .i64 c]) ∧ Below w.heap.size w w' :=
  (aparse_any s L w (by rw [Lib.size_eq, hL.out]; exact hl) hL).mono fun _ _ ⟨he, hw⟩ => ⟨by rw [he, h.out.1, h.out.2.1, h.out.2.2], hw⟩

theorem wk8_1 : apV [49, 58, 48, 48, 117] = 3600 ∧ apKk [49, 58, 48, 48, 117] = 3 ∧ apE [49, 58, 48, 48, 117] = 0 := by decide +kernel
theorem wk8_2 : atT 7200 2 = [50, 115] ∧ atE 7200 2 = 0 := by
  obtain ⟨a, b, _⟩ := at_back (n := 7200) (k := 2) (by decide) (by decide)
  refine ⟨?_, a⟩
  have k1 : textL 2 1 = [50] := by rw [textL, if_neg (by decide), if_pos (by decide), show (2 : Int).toNat = 2 from rfl, Lib.decDigits, dif_pos (by decide)]; rfl
  rw [b, ctL, if_neg (by decide), body, if_pos (by decide), if_pos (by decide), show (7200 : Int) / 3600 = 2 from rfl, k1]; rfl
theorem wk8_3 : utV 10000 1 3600 1800 = 4600 ∧ utB 10000 1 3600 1800 = true := by decide +kernel
theorem wk8_4 : atE 0 0 = 9 := by decide +kernel

end Atf
end Go.Proofs.YtpcnpacllkiieaaGreatDoor
