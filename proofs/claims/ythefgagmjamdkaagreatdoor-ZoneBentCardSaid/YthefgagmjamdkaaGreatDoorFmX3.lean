/-
  The reference's Format, walked. (Written by gen/gen_fmx3.py.)
-/
import Derived.Test.YthefgagmjamdkaaGreatDoorFmX2
namespace Go.Proofs.YthefgagmjamdkaaGreatDoor
open Go.RowKit
namespace Fm
open Sol
theorem cnt_take {S : List UInt8} {k : Nat} (hk : k < S.length) (d : UInt8) : (S.take (k + 1)).count d = (S.take k).count d + (if S[k]'hk = d then 1 else 0) := by
  rw [List.take_succ_eq_append_getElem hk, List.count_append, List.count_singleton]
  by_cases h : S[k]'hk = d <;> simp [h]
set_option maxHeartbeats 6400000 in
set_option maxRecDepth 100000 in
theorem rfmt_to (s : ByteArray) (S : List UInt8) (b : Bool) (w : World) (hs : s.size ≤ 1000) (hS : Hid (s.data.toList = S)) (h : Hid (rfB S = b)) :
    Calls Tryz.prog 13 #[.string s] w fun e w' => e = .returned (.bool b) ∧ w = w' := by
  have hl : S.length = s.size := by rw [← hS.out]; simp
  have HL := Lib.hid hl
  have HB := Lib.hid h.out
  have hz : (s.size < 1 ∧ b = false) ∨ (40 < s.size ∧ b = false) ∨ (1 ≤ s.size ∧ s.size ≤ 40) := by
    rw [← h.out, rfB, hl]
    by_cases a1 : s.size < 1
    · exact Or.inl ⟨a1, by rw [decide_eq_false (by omega)]; rfl⟩
    · by_cases a2 : 40 < s.size
      · exact Or.inr (Or.inl ⟨a2, by rw [decide_eq_false (by omega)]; rfl⟩)
      · exact Or.inr (Or.inr (by omega))
  clear hl h
  rcases hz with ⟨a1, rfl⟩ | ⟨a1, rfl⟩ | ⟨a1, a2⟩
  · go_enter Tryz.func13, Tryz.ntmps13
    go_wp2
    go_ret
    exact ⟨rfl, rfl⟩
  · go_enter Tryz.func13, Tryz.ntmps13
    go_wp2
    go_ret
    exact ⟨rfl, rfl⟩
  go_enter Tryz.func13, Tryz.ntmps13
  go_wp2
  go_loopw [3, 4, 5] (fun sl pc i wr => ∃ k : Nat, k ≤ s.size ∧ Hid ((List.range k).all (gdAt S) = true) ∧ i = .int .i64 k ∧ sl = .int .i64 ((S.take k).count 47 : Nat) ∧ pc = .int .i64 ((S.take k).count 37 : Nat) ∧ w = wr) (fun _ _ i _ => s.size - (intOf i).toNat)
  case atStart => exact ⟨0, Nat.zero_le _, Lib.hid rfl, rfl, rfl, rfl, rfl⟩
  case round =>
    obtain ⟨k, hk, hall, rfl, rfl, rfl, rfl⟩ := hrel
    have b47 : (S.take k).count 47 ≤ 40 := by have h1 := List.count_le_length (a := (47 : UInt8)) (l := S.take k); have h2 := List.length_take_le k S; omega
    have b37 : (S.take k).count 37 ≤ 40 := by have h1 := List.count_le_length (a := (37 : UInt8)) (l := S.take k); have h2 := List.length_take_le k S; omega
    by_cases hlt : k < s.size
    · have hkS : k < S.length := by rw [HL.out]; exact hlt
      obtain ⟨c, hx⟩ : ∃ c, S[k]'hkS = c := ⟨_, rfl⟩
      have hcc : s[k] = c := by
        have : s[k] = s.data.toList[k]'(by simpa using hlt) := by simp [ByteArray.getElem_eq_getElem_data]
        rw [this, ← hx]
        exact List.getElem_of_eq hS.out _
      have K47 := Lib.hid (cnt_take hkS 47)
      have K37 := Lib.hid (cnt_take hkS 37)
      rw [hx] at K47 K37
      have hg : gdAt S k = (if c = 47 then true else if c = 37 then (decide (S[k + 1]? = some 115) || decide (S[k + 1]? = some 122)) else okB [43, 45] c) := by
        have e1 : S[k]? = some c := by rw [List.getElem?_eq_getElem hkS, hx]
        have e3 : S.getD k 0 = c := by rw [List.getD, e1]; rfl
        rw [gdAt, e1, e3]
        simp only [Option.some.injEq]
      have HN : Hid (gdAt S k = true → (List.range (k + 1)).all (gdAt S) = true) := Lib.hid (fun h => by rw [rng_succ, hall.out, h]; rfl)
      have HF : Hid (gdAt S k = false → b = false) := Lib.hid (fun h2 => by rw [← HB.out]; exact rf_no hkS h2)
      have h1S : k + 1 < s.size → ∃ d, S[k + 1]? = some d ∧ ∃ h : k + 1 < s.size, s[k + 1] = d := fun h => by
        have h2 : k + 1 < S.length := by rw [HL.out]; exact h
        refine ⟨S[k + 1]'h2, List.getElem?_eq_getElem h2, h, ?_⟩
        have : s[k + 1] = s.data.toList[k + 1]'(by simpa using h) := by simp [ByteArray.getElem_eq_getElem_data]
        rw [this]
        exact List.getElem_of_eq hS.out _
      have h2S : ¬ k + 1 < s.size → S[k + 1]? = none := fun h => List.getElem?_eq_none (by rw [HL.out]; omega)
      have hok := ok_43 c
      obtain ⟨p, hp⟩ : ∃ p, isLt c = p := ⟨_, rfl⟩
      obtain ⟨q, hq⟩ : ∃ p, isDig c = p := ⟨_, rfl⟩
      have HP := Lib.hid hp
      have HQ := Lib.hid hq
      rw [hp, hq] at hok
      have hcs : (c = 47 ∧ gdAt S k = true) ∨ (c = 37 ∧ ((¬ k + 1 < s.size ∧ gdAt S k = false) ∨ (k + 1 < s.size ∧ ∃ d, (∃ h : k + 1 < s.size, s[k + 1] = d) ∧ ((d = 115 ∧ gdAt S k = true) ∨ (d = 122 ∧ gdAt S k = true) ∨ (((d.toNat : Int) != 115) = true ∧ ((d.toNat : Int) != 122) = true ∧ gdAt S k = false))))) ∨
          ((c ≠ 47 ∧ c ≠ 37 ∧ ((c.toNat : Int) == 47) = false ∧ ((c.toNat : Int) == 37) = false) ∧ ((p = true ∧ gdAt S k = true) ∨ (p = false ∧ q = true ∧ gdAt S k = true) ∨ (p = false ∧ q = false ∧ c = 43 ∧ gdAt S k = true) ∨ (p = false ∧ q = false ∧ c = 45 ∧ gdAt S k = true) ∨ (p = false ∧ q = false ∧ ((c.toNat : Int) != 43) = true ∧ ((c.toNat : Int) != 45) = true ∧ gdAt S k = false))) := by
        rw [hg]
        by_cases x1 : c = 47
        · exact Or.inl ⟨x1, by rw [if_pos x1]⟩
        · by_cases x2 : c = 37
          · refine Or.inr (Or.inl ⟨x2, ?_⟩)
            rw [if_neg x1, if_pos x2]
            by_cases x3 : k + 1 < s.size
            · obtain ⟨d, e1, e2⟩ := h1S x3
              refine Or.inr ⟨x3, d, e2, ?_⟩
              rw [e1]
              by_cases x4 : d = 115
              · exact Or.inl ⟨x4, by rw [x4]; rfl⟩
              · by_cases x5 : d = 122
                · exact Or.inr (Or.inl ⟨x5, by rw [x5]; rfl⟩)
                · exact Or.inr (Or.inr ⟨u8_ne (n := 115) (by decide) x4, u8_ne (n := 122) (by decide) x5, by rw [decide_eq_false (fun h => x4 (Option.some.inj h)), decide_eq_false (fun h => x5 (Option.some.inj h))]; rfl⟩)
            · exact Or.inl ⟨x3, by rw [h2S x3]; rfl⟩
          · refine Or.inr (Or.inr ⟨⟨x1, x2, ?_, ?_⟩, ?_⟩)
            · have := u8_ne (n := 47) (by decide) x1; simpa [bne] using this
            · have := u8_ne (n := 37) (by decide) x2; simpa [bne] using this
            · rw [if_neg x1, if_neg x2, hok]
              cases p with
              | true => exact Or.inl ⟨rfl, rfl⟩
              | false =>
                cases q with
                | true => exact Or.inr (Or.inl ⟨rfl, rfl, rfl⟩)
                | false =>
                  by_cases x : c = 43
                  · exact Or.inr (Or.inr (Or.inl ⟨rfl, rfl, x, decide_eq_true (Or.inl x)⟩))
                  · by_cases y : c = 45
                    · exact Or.inr (Or.inr (Or.inr (Or.inl ⟨rfl, rfl, y, decide_eq_true (Or.inr y)⟩)))
                    · exact Or.inr (Or.inr (Or.inr (Or.inr ⟨rfl, rfl, u8_ne (n := 43) (by decide) x, u8_ne (n := 45) (by decide) y, decide_eq_false (fun h => h.elim x y)⟩)))
      clear hok hp hq h1S h2S hg hx hkS
      obtain ⟨a, ha⟩ : ∃ a, (S.take k).count 47 = a := ⟨_, rfl⟩
      obtain ⟨g, hg⟩ : ∃ a, (S.take k).count 37 = a := ⟨_, rfl⟩
      rw [ha] at b47 K47 ⊢
      rw [hg] at b37 K37 ⊢
      clear ha hg
      rcases hcs with ⟨rfl, ho⟩ | ⟨rfl, ⟨k1, ho⟩ | ⟨k1, d, ⟨k2, hd⟩, ⟨rfl, ho⟩ | ⟨rfl, ho⟩ | ⟨x1, x2, ho⟩⟩⟩ | ⟨⟨n1, n2, n3, n4⟩, ⟨rfl, ho⟩ | ⟨rfl, rfl, ho⟩ | ⟨rfl, rfl, rfl, ho⟩ | ⟨rfl, rfl, rfl, ho⟩ | ⟨rfl, rfl, x1, x2, ho⟩⟩
      · have HNN := Lib.hid (HN.out ho)
        clear ho HN HF
        go_wp2
        go_roundw
        case rel => exact ⟨k + 1, by omega, HNN, by go_num, congrArg _ (by rw [K47.out]; simp [*]), congrArg _ (by rw [K37.out]; simp [*]), trivial⟩
        case measure => simp [intOf]; omega
      · have HFF := Lib.hid (HF.out ho)
        clear ho HN HF
        go_wp2
        go_ret
        exact ⟨ret_b HFF.out.symm, rfl⟩
      · have HNN := Lib.hid (HN.out ho)
        clear ho HN HF
        go_wp2
        go_roundw
        case rel => exact ⟨k + 1, by omega, HNN, by go_num, congrArg _ (by rw [K47.out]; simp [*]), congrArg _ (by rw [K37.out]; simp [*]), trivial⟩
        case measure => simp [intOf]; omega
      · have HNN := Lib.hid (HN.out ho)
        clear ho HN HF
        go_wp2
        go_roundw
        case rel => exact ⟨k + 1, by omega, HNN, by go_num, congrArg _ (by rw [K47.out]; simp [*]), congrArg _ (by rw [K37.out]; simp [*]), trivial⟩
        case measure => simp [intOf]; omega
      · have HFF := Lib.hid (HF.out ho)
        clear ho HN HF
        go_wp2
        go_ret
        exact ⟨ret_b HFF.out.symm, rfl⟩
      · have HNN := Lib.hid (HN.out ho)
        clear ho HN HF
        go_wp2_with fail
        refine (rL_to c true _ HP).mono ?_
        rintro e w1 ⟨rfl, rfl⟩
        go_wp2
        go_roundw
        case rel => exact ⟨k + 1, by omega, HNN, by go_num, congrArg _ (by rw [K47.out]; simp [*]), congrArg _ (by rw [K37.out]; simp [*]), trivial⟩
        case measure => simp [intOf]; omega
      · have HNN := Lib.hid (HN.out ho)
        clear ho HN HF
        go_wp2_with fail
        refine (rL_to c false _ HP).mono ?_
        rintro e w1 ⟨rfl, rfl⟩
        go_wp2_with fail
        refine (rD_to c true _ HQ).mono ?_
        rintro e w1 ⟨rfl, rfl⟩
        go_wp2
        go_roundw
        case rel => exact ⟨k + 1, by omega, HNN, by go_num, congrArg _ (by rw [K47.out]; simp [*]), congrArg _ (by rw [K37.out]; simp [*]), trivial⟩
        case measure => simp [intOf]; omega
      · have HNN := Lib.hid (HN.out ho)
        clear ho HN HF
        go_wp2_with fail
        refine (rL_to 43 false _ HP).mono ?_
        rintro e w1 ⟨rfl, rfl⟩
        go_wp2_with fail
        refine (rD_to 43 false _ HQ).mono ?_
        rintro e w1 ⟨rfl, rfl⟩
        go_wp2
        go_roundw
        case rel => exact ⟨k + 1, by omega, HNN, by go_num, congrArg _ (by rw [K47.out]; simp), congrArg _ (by rw [K37.out]; simp), trivial⟩
        case measure => simp [intOf]; omega
      · have HNN := Lib.hid (HN.out ho)
        clear ho HN HF
        go_wp2_with fail
        refine (rL_to 45 false _ HP).mono ?_
        rintro e w1 ⟨rfl, rfl⟩
        go_wp2_with fail
        refine (rD_to 45 false _ HQ).mono ?_
        rintro e w1 ⟨rfl, rfl⟩
        go_wp2
        go_roundw
        case rel => exact ⟨k + 1, by omega, HNN, by go_num, congrArg _ (by rw [K47.out]; simp), congrArg _ (by rw [K37.out]; simp), trivial⟩
        case measure => simp [intOf]; omega
      · have HFF := Lib.hid (HF.out ho)
        clear ho HN HF
        go_wp2_with fail
        refine (rL_to c false _ HP).mono ?_
        rintro e w1 ⟨rfl, rfl⟩
        go_wp2_with fail
        refine (rD_to c false _ HQ).mono ?_
        rintro e w1 ⟨rfl, rfl⟩
        go_wp2
        go_ret
        exact ⟨ret_b HFF.out.symm, rfl⟩
    · have hT : S.take k = S := List.take_of_length_le (by rw [HL.out]; omega)
      have hk2 : k = s.size := by omega
      have HT : Hid (b = decide ((S.take k).count 47 + (S.take k).count 37 < 2)) := Lib.hid (by
        rw [hT, ← HB.out, rfB, HL.out, ← hk2, hall.out, decide_eq_true (p := 1 ≤ k ∧ k ≤ 40) (by omega)]; rfl)
      obtain ⟨a, ha⟩ : ∃ a, (S.take k).count 47 = a := ⟨_, rfl⟩
      obtain ⟨g, hg⟩ : ∃ a, (S.take k).count 37 = a := ⟨_, rfl⟩
      rw [ha] at b47 HT ⊢
      rw [hg] at b37 HT ⊢
      clear ha hg hT
      go_wp2
      go_ret
      exact ⟨ret_b (by rw [HT.out]; first | rfl | (simp; omega) | (apply decide_eq_decide.2; omega)), rfl⟩
end Fm
end Go.Proofs.YthefgagmjamdkaaGreatDoor
