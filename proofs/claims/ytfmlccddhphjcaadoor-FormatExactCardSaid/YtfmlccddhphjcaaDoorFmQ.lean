/-
  The reference's Plain; FormatParts: what stands around a sign stays around it. (Written by gen/gen_fmq.py.)
-/
import Derived.Test.YtfmlccddhphjcaaDoorFmP
namespace Go.Proofs.YtfmlccddhphjcaaDoor
open Go.RowKit
namespace Fm
open Sol
theorem rL_to (c : UInt8) (b : Bool) (w : World) (h : Hid (isLt c = b)) :
    Calls Tryd.prog 22 #[.int .u8 (c.toNat : Int)] w fun e w' => e = .returned (.bool b) ∧ w = w' := by
  have hb := c.toNat_lt
  have h1 : (c.toNat : Int) < 256 := by omega
  have h0 : 0 ≤ (c.toNat : Int) := by omega
  have HH := h.out
  rw [isLt] at HH
  clear h hb
  generalize (c.toNat : Int) = n at *
  have hc : n < 65 ∧ b = false ∨ (65 ≤ n ∧ n ≤ 90) ∧ b = true ∨ (90 < n ∧ n < 97) ∧ b = false ∨ (97 ≤ n ∧ n ≤ 122) ∧ b = true ∨ 122 < n ∧ b = false := by
    rw [← HH]
    by_cases x1 : n < 65
    · exact Or.inl ⟨x1, decide_eq_false (by omega)⟩
    · by_cases x2 : n ≤ 90
      · exact Or.inr (Or.inl ⟨⟨by omega, x2⟩, decide_eq_true (by omega)⟩)
      · by_cases x3 : n < 97
        · exact Or.inr (Or.inr (Or.inl ⟨⟨by omega, x3⟩, decide_eq_false (by omega)⟩))
        · by_cases x4 : n ≤ 122
          · exact Or.inr (Or.inr (Or.inr (Or.inl ⟨⟨by omega, x4⟩, decide_eq_true (by omega)⟩)))
          · exact Or.inr (Or.inr (Or.inr (Or.inr ⟨by omega, decide_eq_false (by omega)⟩)))
  clear HH
  rcases hc with ⟨x1, rfl⟩ | ⟨⟨x1, x2⟩, rfl⟩ | ⟨⟨x1, x2⟩, rfl⟩ | ⟨⟨x1, x2⟩, rfl⟩ | ⟨x1, rfl⟩
  all_goals try have y1 : ¬ 97 ≤ n := by omega
  all_goals try have y2 : ¬ 65 ≤ n := by omega
  all_goals try have y3 : ¬ n ≤ 90 := by omega
  all_goals try have y4 : ¬ n ≤ 122 := by omega
  all_goals try have y5 : 65 ≤ n := by omega
  all_goals
    go_enter Tryd.func22, Tryd.ntmps22
    go_wp2
    go_ret
    exact ⟨rfl, rfl⟩
theorem rD_to (c : UInt8) (b : Bool) (w : World) (h : Hid (Sol.isDig c = b)) :
    Calls Tryd.prog 23 #[.int .u8 (c.toNat : Int)] w fun e w' => e = .returned (.bool b) ∧ w = w' := by
  have hb := c.toNat_lt
  have h1 : (c.toNat : Int) < 256 := by omega
  have h0 : 0 ≤ (c.toNat : Int) := by omega
  have HH := h.out
  rw [Sol.isDig] at HH
  clear h hb
  generalize (c.toNat : Int) = n at *
  have hc : n < 48 ∧ b = false ∨ (48 ≤ n ∧ n ≤ 57) ∧ b = true ∨ 57 < n ∧ b = false := by
    rw [← HH]
    by_cases x1 : n < 48
    · exact Or.inl ⟨x1, decide_eq_false (by omega)⟩
    · by_cases x2 : n ≤ 57
      · exact Or.inr (Or.inl ⟨⟨by omega, x2⟩, decide_eq_true (by omega)⟩)
      · exact Or.inr (Or.inr ⟨by omega, decide_eq_false (by omega)⟩)
  clear HH
  rcases hc with ⟨x1, rfl⟩ | ⟨⟨x1, x2⟩, rfl⟩ | ⟨x1, rfl⟩
  all_goals try have y2 : ¬ 48 ≤ n := by omega
  all_goals try have y3 : ¬ n ≤ 57 := by omega
  all_goals try have y5 : 48 ≤ n := by omega
  all_goals
    go_enter Tryd.func23, Tryd.ntmps23
    go_wp2
    go_ret
    exact ⟨rfl, rfl⟩
def plB (S : List UInt8) (n : Int) : Bool := decide (1 ≤ S.length ∧ (S.length : Int) ≤ n) && onlyB S [43, 45]
theorem ok_43 (c : UInt8) : okB [43, 45] c = (isLt c || isDig c || decide (c = 43 ∨ c = 45)) := by
  have e : decide (0 ≤ Lib.indexByte [43, 45] c) = decide (c = 43 ∨ c = 45) := by
    by_cases h : c = 43 ∨ c = 45
    · rw [decide_eq_true h, decide_eq_true]
      rcases h with rfl | rfl <;> decide
    · rw [decide_eq_false h, decide_eq_false]
      have : Lib.indexByte [43, 45] c = -1 := ib_no c _ (fun x hx => by
        simp at hx
        rcases hx with rfl | rfl
        · exact fun e => h (Or.inl e.symm)
        · exact fun e => h (Or.inr e.symm))
      omega
  rw [okB, e]
theorem u8_ne {c : UInt8} {n : Nat} (hn : n < 256) (h : c ≠ UInt8.ofNat n) : ((c.toNat : Int) != (n : Int)) = true :=
  bne_iff_ne.2 (fun e => h (UInt8.toNat_inj.1 (by
    have : c.toNat = n := by omega
    rw [this, UInt8.toNat_ofNat_of_lt' hn])))
set_option maxHeartbeats 3200000 in
set_option maxRecDepth 100000 in
theorem rplain_to (s : ByteArray) (S : List UInt8) (n : Int) (b : Bool) (w : World) (hs : s.size ≤ maxLen) (hS : Hid (s.data.toList = S)) (h : Hid (plB S n = b)) :
    Calls Tryd.prog 11 #[.string s, .int .i64 n] w fun e w' => e = .returned (.bool b) ∧ w = w' := by
  unfold maxLen at hs
  have hl : S.length = s.size := by rw [← hS.out]; simp
  have HL := Lib.hid hl
  have HH := h.out
  clear h
  rw [plB, hl] at HH
  clear hl
  have hz : (s.size < 1 ∧ b = false) ∨ (1 ≤ s.size ∧ n < (s.size : Int) ∧ b = false) ∨ ((1 ≤ s.size ∧ (s.size : Int) ≤ n) ∧ onlyB S [43, 45] = b) := by
    rw [← HH]
    by_cases a1 : s.size < 1
    · exact Or.inl ⟨a1, by rw [decide_eq_false (by omega)]; rfl⟩
    · by_cases a2 : n < (s.size : Int)
      · exact Or.inr (Or.inl ⟨by omega, a2, by rw [decide_eq_false (by omega)]; rfl⟩)
      · exact Or.inr (Or.inr ⟨by omega, by rw [decide_eq_true (by omega)]; rfl⟩)
  clear HH
  rcases hz with ⟨a1, rfl⟩ | ⟨a1, a2, rfl⟩ | ⟨⟨a1, a2⟩, h⟩
  · go_enter Tryd.func11, Tryd.ntmps11
    go_wp2
    go_ret
    exact ⟨rfl, rfl⟩
  · go_enter Tryd.func11, Tryd.ntmps11
    go_wp2
    go_ret
    exact ⟨rfl, rfl⟩
  have HO := Lib.hid h
  clear h
  go_enter Tryd.func11, Tryd.ntmps11
  go_wp2
  go_loopw [5] (fun i wr => ∃ k : Nat, k ≤ s.size ∧ Hid ((S.take k).all (okB [43, 45]) = true) ∧ i = .int .i64 k ∧ w = wr) (fun i _ => s.size - (intOf i).toNat)
  case atStart => exact ⟨0, Nat.zero_le _, Lib.hid rfl, rfl, rfl⟩
  case round =>
    obtain ⟨k, hk, hall, rfl, rfl⟩ := hrel
    by_cases hlt : k < s.size
    · have hkS : k < S.length := by rw [HL.out]; exact hlt
      obtain ⟨c, hx⟩ : ∃ c, S[k]'hkS = c := ⟨_, rfl⟩
      have hcc : s[k] = c := by
        have : s[k] = s.data.toList[k]'(by simpa using hlt) := by simp [ByteArray.getElem_eq_getElem_data]
        rw [this, ← hx]
        exact List.getElem_of_eq hS.out _
      have HN : Hid (okB [43, 45] c = true → (S.take (k + 1)).all (okB [43, 45]) = true) := Lib.hid (fun h => by rw [List.take_succ_eq_append_getElem hkS, hx, List.all_append, hall.out, List.all_cons, h]; rfl)
      have HF : Hid (okB [43, 45] c = false → b = false) := Lib.hid (fun h2 => by rw [← HO.out]; exact only_at hkS (by rw [hx]; exact h2))
      have hok := ok_43 c
      clear hx hkS
      obtain ⟨p, hp⟩ : ∃ p, isLt c = p := ⟨_, rfl⟩
      obtain ⟨q, hq⟩ : ∃ p, isDig c = p := ⟨_, rfl⟩
      have HP := Lib.hid hp
      have HQ := Lib.hid hq
      rw [hp, hq] at hok
      clear hp hq
      have cb := c.toNat_lt
      have hcs : (p = true ∧ okB [43, 45] c = true) ∨ (p = false ∧ q = true ∧ okB [43, 45] c = true) ∨ (p = false ∧ q = false ∧ c = 43 ∧ okB [43, 45] c = true) ∨ (p = false ∧ q = false ∧ c = 45 ∧ okB [43, 45] c = true) ∨ (p = false ∧ q = false ∧ ((c.toNat : Int) != 43) = true ∧ ((c.toNat : Int) != 45) = true ∧ okB [43, 45] c = false) := by
        rw [hok]
        cases p with
        | true => exact Or.inl ⟨rfl, rfl⟩
        | false =>
          cases q with
          | true => exact Or.inr (Or.inl ⟨rfl, rfl, rfl⟩)
          | false =>
            by_cases x : c = 43
            · exact Or.inr (Or.inr (Or.inl ⟨rfl, rfl, x, decide_eq_true (Or.inl x)⟩))
            · by_cases y : c = 45
              · exact Or.inr (Or.inr (Or.inr (Or.inl ⟨rfl, rfl, y, decide_eq_true (Or.inr y)⟩)))
              · exact Or.inr (Or.inr (Or.inr (Or.inr ⟨rfl, rfl, u8_ne (n := 43) (by decide) x, u8_ne (n := 45) (by decide) y, decide_eq_false (fun h => h.elim x y)⟩)))
      clear hok
      rcases hcs with ⟨rfl, ho⟩ | ⟨rfl, rfl, ho⟩ | ⟨rfl, rfl, rfl, ho⟩ | ⟨rfl, rfl, rfl, ho⟩ | ⟨rfl, rfl, x1, x2, ho⟩
      · have HNN := Lib.hid (HN.out ho)
        clear ho HN HF
        go_wp2_with fail
        refine (rL_to c true _ HP).mono ?_
        rintro e w1 ⟨rfl, rfl⟩
        go_wp2
        go_roundw
        case rel => exact ⟨k + 1, by omega, HNN, by go_num, trivial⟩
        case measure => simp [intOf]; omega
      · have HNN := Lib.hid (HN.out ho)
        clear ho HN HF
        go_wp2_with fail
        refine (rL_to c false _ HP).mono ?_
        rintro e w1 ⟨rfl, rfl⟩
        go_wp2_with fail
        refine (rD_to c true _ HQ).mono ?_
        rintro e w1 ⟨rfl, rfl⟩
        go_wp2
        go_roundw
        case rel => exact ⟨k + 1, by omega, HNN, by go_num, trivial⟩
        case measure => simp [intOf]; omega
      · have HNN := Lib.hid (HN.out ho)
        clear ho HN HF
        go_wp2_with fail
        refine (rL_to 43 false _ HP).mono ?_
        rintro e w1 ⟨rfl, rfl⟩
        go_wp2_with fail
        refine (rD_to 43 false _ HQ).mono ?_
        rintro e w1 ⟨rfl, rfl⟩
        go_wp2
        go_roundw
        case rel => exact ⟨k + 1, by omega, HNN, by go_num, trivial⟩
        case measure => simp [intOf]; omega
      · have HNN := Lib.hid (HN.out ho)
        clear ho HN HF
        go_wp2_with fail
        refine (rL_to 45 false _ HP).mono ?_
        rintro e w1 ⟨rfl, rfl⟩
        go_wp2_with fail
        refine (rD_to 45 false _ HQ).mono ?_
        rintro e w1 ⟨rfl, rfl⟩
        go_wp2
        go_roundw
        case rel => exact ⟨k + 1, by omega, HNN, by go_num, trivial⟩
        case measure => simp [intOf]; omega
      · have HFF := Lib.hid (HF.out ho)
        clear ho HN HF
        go_wp2_with fail
        refine (rL_to c false _ HP).mono ?_
        rintro e w1 ⟨rfl, rfl⟩
        go_wp2_with fail
        refine (rD_to c false _ HQ).mono ?_
        rintro e w1 ⟨rfl, rfl⟩
        go_wp2
        go_ret
        exact ⟨ret_b HFF.out.symm, rfl⟩
    · have HT : Hid (b = true) := Lib.hid (by rw [← HO.out, onlyB, ← hall.out, List.take_of_length_le (by rw [HL.out]; omega)])
      go_wp2
      go_ret
      exact ⟨ret_b HT.out.symm, rfl⟩
/-- What FormatParts asks of its texts. -/
def pfB (A B L : List UInt8) : Bool := plB A 10 && (plB B 10 && (plB L 6 && !decide (L = [45])))
theorem ret_bb {b b' : Bool} (k : b = b') : Ending.returned (.bool b) = .returned (.bool b') := by rw [k]
set_option maxHeartbeats 6400000 in
set_option maxRecDepth 100000 in
theorem fparts_any (a b l : ByteArray) (off save : Int) (w : World) (sa : a.size ≤ maxLen) (sb : b.size ≤ maxLen) (sl : l.size ≤ maxLen) (hp : Pow w) (hm : MaxL w) :
    Calls Tryd.prog 4 #[.string a, .string b, .string l, .int .i64 off, .int .i64 save] w fun e w' => e = .returned (.bool true) ∧ Below w.heap.size w w' := by
  have HP := Lib.hid hp
  have HM := Lib.hid hm
  clear hp hm
  have SA := Lib.hid sa
  have SB := Lib.hid sb
  have SL := Lib.hid sl
  clear sa sb sl
  obtain ⟨A, hA⟩ : ∃ x, a.data.toList = x := ⟨_, rfl⟩
  obtain ⟨B, hB⟩ : ∃ x, b.data.toList = x := ⟨_, rfl⟩
  obtain ⟨L, hL⟩ : ∃ x, l.data.toList = x := ⟨_, rfl⟩
  obtain ⟨p, h1⟩ : ∃ x, plB A 10 = x := ⟨_, rfl⟩
  obtain ⟨q, h2⟩ : ∃ x, plB B 10 = x := ⟨_, rfl⟩
  obtain ⟨r, h3⟩ : ∃ x, plB L 6 = x := ⟨_, rfl⟩
  have H1 := Lib.hid h1
  have H2 := Lib.hid h2
  have H3 := Lib.hid h3
  have KA := Lib.hid hA
  have KB := Lib.hid hB
  have KL := Lib.hid hL
  have hz : p = false ∨ (p = true ∧ (q = false ∨ (q = true ∧ (r = false ∨ (r = true ∧ (l.toList = [45] ∨ ¬ l.toList = [45])))))) := by
    cases p with
    | false => exact Or.inl rfl
    | true =>
      refine Or.inr ⟨rfl, ?_⟩
      cases q with
      | false => exact Or.inl rfl
      | true =>
        refine Or.inr ⟨rfl, ?_⟩
        cases r with
        | false => exact Or.inl rfl
        | true => exact Or.inr ⟨rfl, Classical.em _⟩
  clear hA hB hL h1 h2 h3
  rcases hz with rfl | ⟨rfl, rfl | ⟨rfl, rfl | ⟨rfl, hl | hl⟩⟩⟩
  · go_enter Tryd.func4, Tryd.ntmps4
    go_wp2_with fail
    refine (rplain_to a A 10 false _ SA.out KA H1).mono ?_
    rintro e w1 ⟨rfl, rfl⟩
    go_wp2
    go_ret
    exact ⟨rfl, by repeat (first | exact Below.refl _ _ | refine below_drewN ?_ _ | refine Below.drew ?_)⟩
  · go_enter Tryd.func4, Tryd.ntmps4
    go_wp2_with fail
    refine (rplain_to a A 10 true _ SA.out KA H1).mono ?_
    rintro e w1 ⟨rfl, rfl⟩
    go_wp2_with fail
    refine (rplain_to b B 10 false _ SB.out KB H2).mono ?_
    rintro e w1 ⟨rfl, rfl⟩
    go_wp2
    go_ret
    exact ⟨rfl, by repeat (first | exact Below.refl _ _ | refine below_drewN ?_ _ | refine Below.drew ?_)⟩
  · go_enter Tryd.func4, Tryd.ntmps4
    go_wp2_with fail
    refine (rplain_to a A 10 true _ SA.out KA H1).mono ?_
    rintro e w1 ⟨rfl, rfl⟩
    go_wp2_with fail
    refine (rplain_to b B 10 true _ SB.out KB H2).mono ?_
    rintro e w1 ⟨rfl, rfl⟩
    go_wp2_with fail
    refine (rplain_to l L 6 false _ SL.out KL H3).mono ?_
    rintro e w1 ⟨rfl, rfl⟩
    go_wp2
    go_ret
    exact ⟨rfl, by repeat (first | exact Below.refl _ _ | refine below_drewN ?_ _ | refine Below.drew ?_)⟩
  · go_enter Tryd.func4, Tryd.ntmps4
    go_wp2_with fail
    refine (rplain_to a A 10 true _ SA.out KA H1).mono ?_
    rintro e w1 ⟨rfl, rfl⟩
    go_wp2_with fail
    refine (rplain_to b B 10 true _ SB.out KB H2).mono ?_
    rintro e w1 ⟨rfl, rfl⟩
    go_wp2_with fail
    refine (rplain_to l L 6 true _ SL.out KL H3).mono ?_
    rintro e w1 ⟨rfl, rfl⟩
    go_wp2
    go_ret
    exact ⟨rfl, by repeat (first | exact Below.refl _ _ | refine below_drewN ?_ _ | refine Below.drew ?_)⟩
  have hl2 : (l.toList == [45]) = false := beq_eq_false_iff_ne.2 hl
  have g1 := H1.out
  have g2 := H2.out
  have g3 := H3.out
  rw [plB, Bool.and_eq_true] at g1 g2 g3
  obtain ⟨u1, hA⟩ := g1
  obtain ⟨u2, hB⟩ := g2
  obtain ⟨u3, hL⟩ := g3
  obtain ⟨a1, a2⟩ := of_decide_eq_true u1
  obtain ⟨b1, b2⟩ := of_decide_eq_true u2
  obtain ⟨l1, l2⟩ := of_decide_eq_true u3
  clear u1 u2 u3
  have hne : L ≠ [45] := fun e => hl (by rw [Lib.toList_data, KL.out]; exact e)
  have za : a.size = A.length := by rw [← KA.out]; simp
  have zb : b.size = B.length := by rw [← KB.out]; simp
  have zl : l.size = L.length := by rw [← KL.out]; simp
  have o0 : -172800 < off.tmod 172800 := Int.lt_tmod_of_pos off (by omega)
  have o1 := Int.tmod_lt_of_pos off (show (0 : Int) < 172800 by omega)
  obtain ⟨O, hO⟩ : ∃ x, off.tmod 172800 = x := ⟨_, rfl⟩
  rw [hO] at o0 o1
  have N1 := Lib.hid (nm_s (save := save) hA hB hL a1 (by omega) (by omega) (by omega) hne o0 o1)
  have N2 := Lib.hid (nm_sl (save := save) hA hB hL a1 (by omega) b1 (by omega) (by omega) hne o0 o1)
  have N3 := Lib.hid (nm_0 (save := save) hA hL a1 (by omega) (by omega) hne o0 o1)
  have N4 := Lib.hid (nm_z (save := save) hA hL a1 (by omega) (by omega) hne o0 o1)
  have hE : shE O = 0 := by rw [shE, if_pos ⟨o0, o1⟩]
  have sl := sh_len O
  obtain ⟨T, hT⟩ : ∃ x, shS O = x := ⟨_, rfl⟩
  have TS := Lib.hid (And.intro hT hE)
  rw [hT] at sl
  have HT := Lib.hid hT
  rw [hT] at N4
  have m1 : a.size ≤ 10 := by omega
  have m2 : b.size ≤ 10 := by omega
  have m3 : l.size ≤ 6 := by omega
  have Z1 : Hid ((a ++ ⟨#[37, 115]⟩ ++ b).size ≤ 1000) := Lib.hid (by rw [ByteArray.size_append, ByteArray.size_append]; show a.size + 2 + b.size ≤ 1000; omega)
  have Z2 : Hid ((a ++ ⟨#[47]⟩ ++ b).size ≤ 1000) := Lib.hid (by rw [ByteArray.size_append, ByteArray.size_append]; show a.size + 1 + b.size ≤ 1000; omega)
  have Z3 : Hid ((a ++ ⟨#[37, 122]⟩).size ≤ 1000) := Lib.hid (by rw [ByteArray.size_append]; show a.size + 2 ≤ 1000; omega)
  have D1 : Hid ((a ++ ⟨#[37, 115]⟩ ++ b).data.toList = A ++ ([37, 115] ++ B)) := Lib.hid (by simp [KA.out, KB.out])
  have D2 : Hid ((a ++ ⟨#[47]⟩ ++ b).data.toList = A ++ ([47] ++ B)) := Lib.hid (by simp [KA.out, KB.out])
  have D3 : Hid ((a ++ ⟨#[37, 122]⟩).data.toList = A ++ [37, 122]) := Lib.hid (by simp [KA.out])
  have zt : (⟨T.toArray⟩ : ByteArray).size ≤ 7 := sl
  have ea : (⟨A.toArray⟩ : ByteArray) = a := arr_eq KA.out
  have eb : (⟨B.toArray⟩ : ByteArray) = b := arr_eq KB.out
  have E1 : Hid ((⟨(A ++ L ++ B).toArray⟩ : ByteArray) = a ++ l ++ b) := Lib.hid (bytes_eq (by simp [KA.out, KB.out, KL.out]))
  have E2 : Hid ((⟨(if save = 0 then A else B).toArray⟩ : ByteArray) = if save = 0 then a else b) := Lib.hid (by split <;> assumption)
  have E3 := Lib.hid ea
  have E4 : Hid ((⟨(A ++ T).toArray⟩ : ByteArray) = a ++ ⟨T.toArray⟩) := Lib.hid (bytes_eq (by simp [KA.out]))
  clear hT hE ea eb hA hB hL a1 a2 b1 b2 l1 l2 hne za zb zl sl
  have hsv : (save = 0) ∨ ((save == 0) = false ∧ ¬ save = 0) := by
    by_cases h : save = 0
    · exact Or.inl h
    · exact Or.inr ⟨beq_eq_false_iff_ne.2 h, h⟩
  rcases hsv with s1 | ⟨s1, s2⟩
  all_goals
    first | subst s1 | skip
    first | rw [if_pos rfl, if_pos rfl] at E2 | rw [if_neg s2, if_neg s2] at E2
    first | rw [if_pos rfl] at N2 | rw [if_neg s2] at N2
    go_enter Tryd.func4, Tryd.ntmps4
    go_wp2_with fail
    refine (rplain_to a A 10 true _ SA.out KA H1).mono ?_
    rintro e w1 ⟨rfl, rfl⟩
    go_wp2_with fail
    refine (rplain_to b B 10 true _ SB.out KB H2).mono ?_
    rintro e w1 ⟨rfl, rfl⟩
    go_wp2_with fail
    refine (rplain_to l L 6 true _ SL.out KL H3).mono ?_
    rintro e w1 ⟨rfl, rfl⟩
    go_wp2_with fail
    refine (name_to _ l _ L _ O _ _ _ HP.out HM.out Z1.out (by omega) D1 KL N1).mono ?_
    rintro e w2 ⟨rfl, c2⟩
    rw [E1.out]
    go_wp2_with fail
    refine (name_to _ l _ L _ O _ _ _ (HP.out.stays c2) (HM.out.stays c2) Z2.out (by omega) D2 KL N2).mono ?_
    rintro e w3 ⟨rfl, d3⟩
    rw [E2.out]
    have c3 := c2.trans (d3.mono c2.size)
    go_wp2_with fail
    refine (name_to a l A L _ O _ _ _ (HP.out.stays c3) (HM.out.stays c3) (by omega) (by omega) KA KL N3).mono ?_
    rintro e w4 ⟨rfl, d4⟩
    rw [E3.out]
    have c4 := c3.trans (d4.mono c3.size)
    clear d3 d4
    go_wp2_with fail
    refine (name_to _ l _ L _ O _ _ _ (HP.out.stays c4) (HM.out.stays c4) Z3.out (by omega) D3 KL N4).mono ?_
    rintro e w5 ⟨rfl, d5⟩
    rw [E4.out]
    have c5 := c4.trans (d5.mono c4.size)
    go_wp2_with fail
    refine (short_to O T 0 _ (HP.out.stays c5) TS).mono ?_
    rintro e w6 ⟨rfl, d6⟩
    have c6 := c5.trans (d6.mono c5.size)
    clear d5 d6
    go_wp2_with fail
    refine (wakes12_any _ (HP.out.stays c6) (HM.out.stays c6)).mono ?_
    rintro e w7 ⟨rfl, d7⟩
    go_wp2
    go_ret
    exact ⟨rfl, c6.trans (d7.mono c6.size)⟩
end Fm
end Go.Proofs.YtfmlccddhphjcaaDoor
