/-
  The law's signs; FoldShort: the walk.
-/
import Derived.Test.YthnlphnhdhmcpaaFldL
namespace Go.Proofs.Ythnlphnhdhmcpaa
open Go.RowKit
namespace Fld
def sgStep (l : Nat) (c : UInt8) : Option Nat :=
  if 0 < l then (if isT c = true then some (l - 1) else none) else if c.toNat < 128 then some 0 else if c.toNat < 192 then none else if c.toNat < 224 then some 1 else if c.toNat < 240 then some 2 else if c.toNat < 248 then some 3 else none
def sgG : Nat → List UInt8 → Bool
  | l, [] => l == 0
  | l, c :: T => match sgStep l c with
    | none => false
    | some l' => sgG l' T
def sgB (S : List UInt8) : Bool := sgG 0 S
theorem sgStep_le {l l' : Nat} {c : UInt8} (hl : l ≤ 3) (h : sgStep l c = some l') : l' ≤ 3 := by
  unfold sgStep at h
  repeat' split at h
  all_goals first | (cases h; done) | (injection h with h; omega)
theorem sg_tail {l : Nat} {c : UInt8} (h : isT c = true) : sgStep l c = if 0 < l then some (l - 1) else none := by
  unfold sgStep
  by_cases h0 : 0 < l
  · rw [if_pos h0, if_pos h0, if_pos h]
  · rw [if_neg h0, if_neg h0]
    have := of_decide_eq_true h
    rw [if_neg (by omega), if_pos (by omega)]
theorem sg_four : ∀ (S : List UInt8) (l j : Nat), l ≤ 3 → sgG l S = true → (∀ i, i < 4 → ∃ c, S[j + i]? = some c ∧ isT c = true) → False
  | [], _, j, _, _, h => by obtain ⟨c, hc, _⟩ := h 0 (by omega); simp at hc
  | c :: S, l, 0, hl, hs, h => by
    obtain ⟨c0, e0, t0⟩ := h 0 (by omega)
    obtain ⟨c1, e1, t1⟩ := h 1 (by omega)
    obtain ⟨c2, e2, t2⟩ := h 2 (by omega)
    obtain ⟨c3, e3, t3⟩ := h 3 (by omega)
    match S, e1, e2, e3, hs with
    | d1 :: d2 :: d3 :: S', e1, e2, e3, hs =>
      simp at e0 e1 e2 e3
      subst e0 e1 e2 e3
      match l, hl with
      | 0, _ => rw [sgG, sg_tail t0] at hs; simp at hs
      | 1, _ => rw [sgG, sg_tail t0] at hs; simp only [Nat.zero_lt_one, if_true, Nat.sub_self] at hs; rw [sgG, sg_tail t1] at hs; simp at hs
      | 2, _ =>
        rw [sgG, sg_tail t0, if_pos (by omega)] at hs
        simp only at hs
        rw [sgG, sg_tail t1, if_pos (by omega)] at hs
        simp only at hs
        rw [sgG, sg_tail t2] at hs
        simp at hs
      | 3, _ =>
        rw [sgG, sg_tail t0, if_pos (by omega)] at hs
        simp only at hs
        rw [sgG, sg_tail t1, if_pos (by omega)] at hs
        simp only at hs
        rw [sgG, sg_tail t2, if_pos (by omega)] at hs
        simp only at hs
        rw [sgG, sg_tail t3] at hs
        simp at hs
    | [], e1, _, _, _ => simp at e1
    | [_], _, e2, _, _ => simp at e2
    | [_, _], _, _, e3, _ => simp at e3
  | c :: S, l, j + 1, hl, hs, h => by
    rw [sgG] at hs
    cases hst : sgStep l c with
    | none => rw [hst] at hs; cases hs
    | some l' =>
      rw [hst] at hs
      refine sg_four S l' j (sgStep_le hl hst) hs (fun i hi => ?_)
      obtain ⟨d, hd, ht⟩ := h i hi
      refine ⟨d, ?_, ht⟩
      rw [← hd, show j + 1 + i = (j + i) + 1 from by omega, List.getElem?_cons_succ]
theorem cutN_tail {S : List UInt8} {r : Nat} (h : tailAt S (cutN S r) = true) : ∀ j, j < 4 → tailAt S (r - j) = true := by
  unfold cutN at h
  by_cases h0 : tailAt S r = false
  · rw [if_pos h0, h0] at h; cases h
  · rw [if_neg h0] at h
    by_cases h1 : tailAt S (r - 1) = false
    · rw [if_pos h1, h1] at h; cases h
    · rw [if_neg h1] at h
      by_cases h2 : tailAt S (r - 2) = false
      · rw [if_pos h2, h2] at h; cases h
      · rw [if_neg h2] at h
        by_cases h3 : tailAt S (r - 3) = false
        · rw [if_pos h3, h3] at h; cases h
        · intro j hj
          match j, hj with
          | 0, _ => simpa using h0
          | 1, _ => simpa using h1
          | 2, _ => simpa using h2
          | 3, _ => simpa using h3
theorem foldR_head {S : List UInt8} {room : Nat} (hr : 4 ≤ room) (h : 0 < S.length) : (foldR S room)[0]? = S[0]? := by
  by_cases hl : S.length ≤ room
  · rw [foldR_last hl, List.getElem?_append_left h]
  · have hc := cutN_bd S room (by omega)
    rw [foldR_more hr (by omega), List.append_assoc, List.getElem?_append_left (by rw [List.length_take]; omega), List.getElem?_take_of_lt (by omega)]
/-- A piece begins at a place of the folded text. -/
def Act (S T : List UInt8) (fr : Nat) : Prop := ∃ (d room : Nat) (pre : List UInt8), T.drop fr = pre ++ foldR (S.drop d) room ∧ pre.length + room = 75 ∧ (pre = [] ∨ pre = [32])
theorem Act.zero (S : List UInt8) : Act S (foldL S) 0 := ⟨0, 75, [], rfl, rfl, Or.inl rfl⟩
/-- Where it ends, and what follows. -/
def Seg (S T : List UInt8) (fr E : Nat) : Prop := fr ≤ E ∧ E ≤ fr + 75 ∧ T[E]? = some 13 ∧ T[E + 1]? = some 10 ∧ (∀ j c, fr ≤ j → j < E → T[j]? = some c → c ≠ 13) ∧ (E + 2 = T.length ∨ ∃ c, T[E + 3]? = some c ∧ (isT c = true → sgB S = false) ∧ Act S T (E + 2))
theorem not_cr {S : List UInt8} (hh : hit S = false) {d : Nat} {pre : List UInt8} (hp : pre = [] ∨ pre = [32]) (n j : Nat) (c : UInt8) (h : (pre ++ (S.drop d).take n)[j]? = some c) : c ≠ 13 := by
  have hm := List.mem_of_getElem? h
  rcases List.mem_append.1 hm with h1 | h1
  · rcases hp with rfl | rfl
    · simp at h1
    · simp at h1; subst h1; decide
  · intro e
    subst e
    have := List.any_eq_false.1 hh 13 (List.mem_of_mem_drop (List.mem_of_mem_take h1))
    exact this rfl
theorem act_seg {S T : List UInt8} {fr : Nat} (hh : hit S = false) (h : Act S T fr) : ∃ E, Seg S T fr E := by
  obtain ⟨d, room, pre, hT, hpr, hp⟩ := h
  have hpl : pre.length ≤ 1 := by rcases hp with rfl | rfl <;> simp
  have at' : ∀ j, T[fr + j]? = (pre ++ foldR (S.drop d) room)[j]? := fun j => by rw [← hT, List.getElem?_drop]
  have hlen := congrArg List.length hT
  rw [List.length_drop] at hlen
  by_cases hl : (S.drop d).length ≤ room
  · rw [foldR_last hl, ← List.append_assoc] at at' hlen
    have hX : (S.drop d).take (S.drop d).length = S.drop d := List.take_length
    obtain ⟨X, hXd⟩ : ∃ X, pre ++ S.drop d = X := ⟨_, rfl⟩
    have hXl : X.length = pre.length + (S.drop d).length := by rw [← hXd, List.length_append]
    rw [hXd] at at' hlen
    rw [List.length_append] at hlen
    simp at hlen
    refine ⟨fr + X.length, by omega, by omega, ?_, ?_, ?_, Or.inl (by omega)⟩
    · rw [at', List.getElem?_append_right (Nat.le_refl _)]; simp
    · rw [Nat.add_assoc, at', List.getElem?_append_right (by omega)]; simp
    · intro j c h1 h2 h3
      rw [show j = fr + (j - fr) from by omega, at', List.getElem?_append_left (by omega), ← hXd, ← hX] at h3
      exact not_cr hh hp _ _ _ h3
  · have hc := cutN_bd (S.drop d) room (by omega)
    rw [foldR_more (by omega) (by omega)] at at' hlen hT
    obtain ⟨n, hn⟩ : ∃ n, cutN (S.drop d) room = n := ⟨_, rfl⟩
    rw [hn] at at' hlen hc hT
    obtain ⟨R, hR⟩ : ∃ R, foldR ((S.drop d).drop n) 74 = R := ⟨_, rfl⟩
    rw [hR] at at' hlen hT
    obtain ⟨X, hXd⟩ : ∃ X, pre ++ (S.drop d).take n = X := ⟨_, rfl⟩
    have hXl : X.length = pre.length + n := by rw [← hXd, List.length_append, List.length_take]; omega
    have e1 : pre ++ ((S.drop d).take n ++ [13, 10, 32] ++ R) = X ++ ([13, 10, 32] ++ R) := by rw [← hXd]; simp
    rw [e1] at at' hlen hT
    rw [List.length_append] at hlen
    simp only [List.length_append, List.length_cons, List.length_nil] at hlen
    have hR0 : R[0]? = (S.drop d)[n]? := by
      rw [← hR, foldR_head (by omega) (by rw [List.length_drop]; omega), List.getElem?_drop, Nat.add_zero]
    have hnl : n < (S.drop d).length := by omega
    refine ⟨fr + X.length, by omega, by omega, ?_, ?_, ?_, Or.inr ⟨(S.drop d)[n], ?_, ?_, ?_⟩⟩
    · rw [at', List.getElem?_append_right (Nat.le_refl _)]; simp
    · rw [Nat.add_assoc, at', List.getElem?_append_right (by omega)]; simp
    · intro j c h1 h2 h3
      rw [show j = fr + (j - fr) from by omega, at', List.getElem?_append_left (by omega), ← hXd] at h3
      exact not_cr hh hp _ _ _ h3
    · rw [Nat.add_assoc, at', List.getElem?_append_right (by omega), show X.length + 3 - X.length = 3 from by omega, List.getElem?_append_right (by simp)]
      show R[0]? = _
      rw [hR0, List.getElem?_eq_getElem hnl]
    · intro ht
      have htl : tailAt (S.drop d) (cutN (S.drop d) room) = true := by
        rw [hn, tailAt, List.getD_eq_getElem?_getD, List.getElem?_eq_getElem hnl]; exact ht
      have h4 := cutN_tail htl
      cases hs : sgB S with
      | false => rfl
      | true =>
        refine absurd ?_ (fun h : False => h)
        refine sg_four S 0 (d + (room - 3)) (by omega) hs (fun i hi => ?_)
        have h5 := h4 (3 - i) (by omega)
        rw [tailAt, List.getD_eq_getElem?_getD] at h5
        have hlt : room - (3 - i) < (S.drop d).length := by omega
        rw [List.getElem?_eq_getElem hlt] at h5
        refine ⟨(S.drop d)[room - (3 - i)], ?_, h5⟩
        rw [show d + (room - 3) + i = d + (room - (3 - i)) from by omega, ← List.getElem?_drop, List.getElem?_eq_getElem hlt]
    · refine ⟨d + n, 74, [32], ?_, rfl, Or.inr rfl⟩
      rw [show fr + X.length + 2 = fr + (X.length + 2) from by omega, ← List.drop_drop, hT, ← List.drop_drop, List.drop_left, ← hR, List.drop_drop]
      rfl
set_option maxHeartbeats 6400000 in
set_option maxRecDepth 100000 in
theorem sg_to (s : ByteArray) (S : List UInt8) (b : Bool) (w : World) (hs : s.size ≤ 1000000) (hS : Hid (s.data.toList = S)) (h : Hid (sgB S = b)) :
    Calls Try.prog 13 #[.string s] w fun e w' => e = .returned (.bool b) ∧ w = w' := by
  have hl : S.length = s.size := by rw [← hS.out]; simp
  have HL := Lib.hid hl
  clear hl
  go_enter Try.func13, Try.ntmps13
  go_wp2
  go_loopw [3, 4] (fun lv iv wr => ∃ (k l : Nat), k ≤ s.size ∧ l ≤ 3 ∧ lv = .int .i64 l ∧ iv = .int .i64 k ∧ Hid (b = sgG l (S.drop k)) ∧ w = wr) (fun _ iv _ => s.size - (intOf iv).toNat)
  case atStart => exact ⟨0, 0, Nat.zero_le _, by omega, rfl, rfl, Lib.hid h.out.symm, rfl⟩
  case round =>
    obtain ⟨k, l, hk, hl3, rfl, rfl, hg, rfl⟩ := hrel
    by_cases hlt : k < s.size
    · obtain ⟨hkS, hx⟩ := at_list hS.out k hlt
      obtain ⟨c, hc⟩ : ∃ c, s[k] = c := ⟨_, rfl⟩
      rw [hc] at hx
      have cb := c.toNat_lt
      have hg1 := hg.out
      rw [List.drop_eq_getElem_cons hkS, ← hx, sgG] at hg1
      have hcs : (0 < l ∧ ((c.toNat : Int) < 128 ∧ b = false ∨ (¬ (c.toNat : Int) < 128 ∧ 192 ≤ (c.toNat : Int) ∧ b = false) ∨ (¬ (c.toNat : Int) < 128 ∧ ¬ 192 ≤ (c.toNat : Int) ∧ b = sgG (l - 1) (S.drop (k + 1))))) ∨
          (l = 0 ∧ ((c.toNat : Int) < 128 ∧ b = sgG 0 (S.drop (k + 1)) ∨ (¬ (c.toNat : Int) < 128 ∧ ¬ 192 ≤ (c.toNat : Int) ∧ ¬ 224 ≤ (c.toNat : Int) ∧ ¬ 240 ≤ (c.toNat : Int) ∧ b = false) ∨
            (¬ (c.toNat : Int) < 128 ∧ 192 ≤ (c.toNat : Int) ∧ (c.toNat : Int) < 224 ∧ b = sgG 1 (S.drop (k + 1))) ∨
            (¬ (c.toNat : Int) < 128 ∧ 192 ≤ (c.toNat : Int) ∧ ¬ (c.toNat : Int) < 224 ∧ 224 ≤ (c.toNat : Int) ∧ (c.toNat : Int) < 240 ∧ b = sgG 2 (S.drop (k + 1))) ∨
            (¬ (c.toNat : Int) < 128 ∧ 192 ≤ (c.toNat : Int) ∧ ¬ (c.toNat : Int) < 224 ∧ 224 ≤ (c.toNat : Int) ∧ ¬ (c.toNat : Int) < 240 ∧ 240 ≤ (c.toNat : Int) ∧ (c.toNat : Int) < 248 ∧ b = sgG 3 (S.drop (k + 1))) ∨
            (¬ (c.toNat : Int) < 128 ∧ 192 ≤ (c.toNat : Int) ∧ ¬ (c.toNat : Int) < 224 ∧ 224 ≤ (c.toNat : Int) ∧ ¬ (c.toNat : Int) < 240 ∧ 240 ≤ (c.toNat : Int) ∧ ¬ (c.toNat : Int) < 248 ∧ b = false))) := by
        unfold sgStep at hg1
        by_cases h0 : 0 < l
        · rw [if_pos h0] at hg1
          refine Or.inl ⟨h0, ?_⟩
          by_cases ht : isT c = true
          · rw [if_pos ht] at hg1
            have := of_decide_eq_true ht
            exact Or.inr (Or.inr ⟨by omega, by omega, hg1⟩)
          · rw [if_neg ht] at hg1
            have : ¬ (128 ≤ c.toNat ∧ c.toNat ≤ 191) := fun h => ht (decide_eq_true h)
            by_cases h1 : c.toNat < 128
            · exact Or.inl ⟨by omega, hg1⟩
            · exact Or.inr (Or.inl ⟨by omega, by omega, hg1⟩)
        · rw [if_neg h0] at hg1
          refine Or.inr ⟨by omega, ?_⟩
          by_cases h1 : c.toNat < 128
          · rw [if_pos h1] at hg1; exact Or.inl ⟨by omega, hg1⟩
          rw [if_neg h1] at hg1
          by_cases h2 : c.toNat < 192
          · rw [if_pos h2] at hg1; exact Or.inr (Or.inl ⟨by omega, by omega, by omega, by omega, hg1⟩)
          rw [if_neg h2] at hg1
          by_cases h3 : c.toNat < 224
          · rw [if_pos h3] at hg1; exact Or.inr (Or.inr (Or.inl ⟨by omega, by omega, by omega, hg1⟩))
          rw [if_neg h3] at hg1
          by_cases h4 : c.toNat < 240
          · rw [if_pos h4] at hg1; exact Or.inr (Or.inr (Or.inr (Or.inl ⟨by omega, by omega, by omega, by omega, by omega, hg1⟩)))
          rw [if_neg h4] at hg1
          by_cases h5 : c.toNat < 248
          · rw [if_pos h5] at hg1; exact Or.inr (Or.inr (Or.inr (Or.inr (Or.inl ⟨by omega, by omega, by omega, by omega, by omega, by omega, by omega, hg1⟩))))
          rw [if_neg h5] at hg1
          exact Or.inr (Or.inr (Or.inr (Or.inr (Or.inr ⟨by omega, by omega, by omega, by omega, by omega, by omega, by omega, hg1⟩))))
      clear hg1 hg hx
      rcases hcs with ⟨h0, ⟨c1, rfl⟩ | ⟨c1, c2, rfl⟩ | ⟨c1, c2, ho⟩⟩ | ⟨rfl, ⟨c1, ho⟩ | ⟨c1, c2, c3, c4, rfl⟩ | ⟨c1, c2, c3, ho⟩ | ⟨c1, c2, c3, c4, c5, ho⟩ | ⟨c1, c2, c3, c4, c5, c6, c7, ho⟩ | ⟨c1, c2, c3, c4, c5, c6, c7, rfl⟩⟩
      · go_wp2
        go_ret
        exact ⟨rfl, rfl⟩
      · go_wp2
        go_ret
        exact ⟨rfl, rfl⟩
      · have HO := Lib.hid ho
        clear ho
        go_wp2
        go_roundw
        case rel => exact ⟨k + 1, l - 1, by omega, by omega, by first | go_num | (apply congrArg; omega), by go_num, HO, trivial⟩
        case measure => simp [intOf]; omega
      · have HO := Lib.hid ho
        clear ho
        go_wp2
        go_roundw
        case rel => exact ⟨k + 1, 0, by omega, by omega, rfl, by go_num, HO, trivial⟩
        case measure => simp [intOf]; omega
      · go_wp2
        go_ret
        exact ⟨rfl, rfl⟩
      · have HO := Lib.hid ho
        clear ho
        go_wp2
        go_roundw
        case rel => exact ⟨k + 1, 1, by omega, by omega, rfl, by go_num, HO, trivial⟩
        case measure => simp [intOf]; omega
      · have HO := Lib.hid ho
        clear ho
        go_wp2
        go_roundw
        case rel => exact ⟨k + 1, 2, by omega, by omega, rfl, by go_num, HO, trivial⟩
        case measure => simp [intOf]; omega
      · have HO := Lib.hid ho
        clear ho
        go_wp2
        go_roundw
        case rel => exact ⟨k + 1, 3, by omega, by omega, rfl, by go_num, HO, trivial⟩
        case measure => simp [intOf]; omega
      · go_wp2
        go_ret
        exact ⟨rfl, rfl⟩
    · have hb : b = (l == 0) := by rw [hg.out, List.drop_eq_nil_of_le (by rw [HL.out]; omega)]; rfl
      clear hg
      by_cases h0 : l = 0
      · subst h0
        have HB := Lib.hid hb
        clear hb
        go_wp2
        go_ret
        exact ⟨ret_b (by rw [HB.out]; rfl), rfl⟩
      · have HB : Hid (b = false) := Lib.hid (by rw [hb]; simpa using h0)
        have hz : ((l : Int) == 0) = false := beq_eq_false_iff_ne.2 (by omega)
        clear hb h0
        go_wp2
        go_ret
        exact ⟨ret_b (by rw [HB.out]), rfl⟩
/-- Within a piece; or behind the last one. -/
def ShP (S T : List UInt8) (z fr k : Nat) : Prop := (∃ E, Seg S T fr E ∧ fr ≤ k + 1 ∧ k ≤ E ∧ (k + 1 = fr → T[k]? = some 10)) ∨ (fr = z ∧ k + 1 = z)
set_option maxHeartbeats 12800000 in
set_option maxRecDepth 100000 in
theorem fshort16_any (s : ByteArray) (w : World) :
    Calls Try.prog 5 #[.string s] w fun e w' => e = .returned (.bool true) ∧ Below w.heap.size w w' := by
  by_cases z1 : 3000 < s.size
  · go_enter Try.func5, Try.ntmps5
    go_wp2
    go_ret
    exact ⟨rfl, Below.refl _ _⟩
  have z2 : s.size ≤ 3000 := by omega
  clear z1
  obtain ⟨S, hS⟩ : ∃ x, s.data.toList = x := ⟨_, rfl⟩
  have HS := Lib.hid hS
  have hl : S.length = s.size := by rw [← hS]; simp
  clear hS
  cases hh : hit S with
  | true =>
    have HR : Hid (lineR S = ([], 18)) := Lib.hid (by rw [lineR, if_pos hh])
    clear hh hl
    go_enter Try.func5, Try.ntmps5
    go_wp2_with fail
    refine (line_any s S [] 18 _ (by omega) HS HR).mono ?_
    rintro e w1 ⟨rfl, b1⟩
    go_wp2_with fail
    refine (wakes16_any _).mono ?_
    rintro e w5 ⟨rfl, b5⟩
    go_wp2
    go_ret
    exact ⟨rfl, b1.trans (b5.mono b1.size)⟩
  | false =>
    have HR : Hid (lineR S = (foldL S, 0)) := Lib.hid (by rw [lineR, if_neg (by rw [hh]; decide)])
    have HHIT := Lib.hid hh
    have hact := Act.zero S
    have hTl : (foldL S).length ≤ 16 * s.size + 100 := by
      have key : ∀ (n : Nat) (S : List UInt8) (room : Nat), 74 ≤ room → S.length ≤ n → (foldG n S room).length ≤ 4 * S.length + 2 := by
        intro n
        induction n with
        | zero => intro S room _ h; rw [foldG, List.length_append]; simp; omega
        | succ n ih =>
          intro S room hr h
          rw [foldG]
          by_cases hl : S.length ≤ room
          · rw [if_pos hl, List.length_append]; simp; omega
          · have hc := cutN_bd S room (by omega)
            have := ih (S.drop (cutN S room)) 74 (by omega) (by rw [List.length_drop]; omega)
            rw [if_neg hl]
            simp only [List.length_append, List.length_take, List.length_drop, List.length_cons, List.length_nil] at this ⊢
            omega
      have := key S.length S 75 (by omega) (Nat.le_refl _)
      unfold foldL foldR
      omega
    obtain ⟨T, hT⟩ : ∃ T, foldL S = T := ⟨_, rfl⟩
    rw [hT] at HR hact hTl
    obtain ⟨E0, hseg⟩ := act_seg hh hact
    have HTT : Hid ((⟨T.toArray⟩ : ByteArray).data.toList = T) := Lib.hid rfl
    have htz : (⟨T.toArray⟩ : ByteArray).size = T.length := rfl
    obtain ⟨tb, htb⟩ : ∃ tb : ByteArray, ⟨T.toArray⟩ = tb := ⟨_, rfl⟩
    have HTB := Lib.hid htb
    rw [htb] at HTT htz
    have htz2 : tb.size ≤ 100000 := by omega
    have HTZ := Lib.hid htz
    have HSEG := Lib.hid hseg
    clear hh hT hact hTl htb htz hseg hl
    go_enter Try.func5, Try.ntmps5
    go_wp2_with fail
    refine (line_any s S T 0 _ (by omega) HS HR).mono ?_
    rintro e w1 ⟨rfl, b1⟩
    rw [HTB.out]
    go_wp2
    go_loopw [5, 6] (fun fv iv wr => ∃ (fr k : Nat), fv = .int .i64 fr ∧ iv = .int .i64 k ∧ ShP S T tb.size fr k ∧ k < tb.size ∧ Below w.heap.size w wr) (fun _ iv _ => tb.size - (intOf iv).toNat)
    case atStart => exact ⟨0, 0, rfl, rfl, (Or.inl ⟨E0, HSEG.out, by omega, Nat.zero_le _, by omega⟩), by
      obtain ⟨_, _, h13, _⟩ := HSEG.out
      have := (List.getElem?_eq_some_iff.1 h13).1
      rw [HTZ.out]; omega, b1⟩
    case round =>
      obtain ⟨fr, k, rfl, rfl, hst, hkz, hb⟩ := hrel
      rcases hst with ⟨E, ⟨s1, s2, s3, s4, s5, s6⟩, hfk, hkE, h10⟩ | ⟨rfl, hk⟩
      · have hE1 : E + 1 < tb.size := by
          have := (List.getElem?_eq_some_iff.1 s4).1
          rw [HTZ.out]; omega
        have hk1 : (k : Int) + 1 < (tb.size : Int) := by omega
        obtain ⟨hkT, hx⟩ := at_list HTT.out k hkz
        by_cases hkE2 : k = E
        · subst hkE2
          have e13 : tb[k] = 13 := by
            rw [hx]
            have := s3
            rw [List.getElem?_eq_getElem hkT] at this
            injection this
          obtain ⟨hkT2, hx2⟩ := at_list HTT.out (k + 1) hE1
          have e10 : tb[k + 1] = 10 := by
            rw [hx2]
            have := s4
            rw [List.getElem?_eq_getElem hkT2] at this
            injection this
          have hle : ¬ (75 : Int) < (k : Int) - (fr : Int) := by omega
          rcases s6 with hend | ⟨c, hc3, hsg, hac⟩
          · have h3 : ¬ (k : Int) + 3 < (tb.size : Int) := by rw [HTZ.out]; omega
            have HEND : Hid (k + 2 = tb.size) := Lib.hid (by rw [HTZ.out]; exact hend)
            clear s3 s4 s5 hx hx2 h10
            go_wp2
            go_roundw
            case rel => exact ⟨k + 2, k + 1, by first | go_num | (apply congrArg; omega), by go_num, (Or.inr ⟨HEND.out, by have := HEND.out; omega⟩), by omega, hb⟩
            case measure => simp [intOf]; omega
          · have hk3 : k + 3 < tb.size := by
              have := (List.getElem?_eq_some_iff.1 hc3).1
              rw [HTZ.out]; omega
            obtain ⟨hkT3, hx3⟩ := at_list HTT.out (k + 3) hk3
            have hc : tb[k + 3] = c := by
              rw [hx3]
              rw [List.getElem?_eq_getElem hkT3] at hc3
              injection hc3
            have h3 : (k : Int) + 3 < (tb.size : Int) := by omega
            have cb := c.toNat_lt
            obtain ⟨E', hseg'⟩ := act_seg HHIT.out hac
            have HN : ShP S T tb.size (k + 2) (k + 1) := Or.inl ⟨E', hseg', by omega, by have := hseg'.1; omega, fun _ => s4⟩
            have HSG := Lib.hid hsg
            have hcl : (c.toNat : Int) < 128 ∨ (128 ≤ (c.toNat : Int) ∧ ((¬ (c.toNat : Int) < 192) ∨ ((c.toNat : Int) < 192 ∧ isT c = true))) := by
              by_cases a : c.toNat < 128
              · exact Or.inl (by omega)
              · refine Or.inr ⟨by omega, ?_⟩
                by_cases b : c.toNat < 192
                · exact Or.inr ⟨by omega, decide_eq_true (by omega)⟩
                · exact Or.inl (by omega)
            clear s3 s4 s5 hx hx2 hx3 hc3 h10 hac hsg hseg'
            rcases hcl with c1 | ⟨c1, c2 | ⟨c2, ht⟩⟩
            · have c1' : ¬ 128 ≤ (c.toNat : Int) := by omega
              go_wp2
              go_roundw
              case rel => exact ⟨k + 2, k + 1, by first | go_num | (apply congrArg; omega), by go_num, HN, by omega, hb⟩
              case measure => simp [intOf]; omega
            · go_wp2
              go_roundw
              case rel => exact ⟨k + 2, k + 1, by first | go_num | (apply congrArg; omega), by go_num, HN, by omega, hb⟩
              case measure => simp [intOf]; omega
            · have HSF := Lib.hid (HSG.out ht)
              clear ht HSG
              go_wp2_with fail
              refine (sg_to s S false _ (by omega) HS HSF).mono ?_
              rintro e w2 ⟨rfl, rfl⟩
              go_wp2
              go_roundw
              case rel => exact ⟨k + 2, k + 1, by first | go_num | (apply congrArg; omega), by go_num, HN, by omega, hb⟩
              case measure => simp [intOf]; omega
        · have hn13 : tb[k] ≠ 13 := by
            rw [hx]
            by_cases e : k + 1 = fr
            · have := h10 e
              rw [List.getElem?_eq_getElem hkT] at this
              injection this with this
              rw [this]; decide
            · exact s5 k _ (by omega) (by omega) (List.getElem?_eq_getElem hkT)
          have n13 : ((tb[k].toNat : Int) != 13) = true := by have := Esc.u8_ne (n := 13) (by decide) hn13; simpa [bne] using this
          have HN : ShP S T tb.size fr (k + 1) := Or.inl ⟨E, ⟨s1, s2, s3, s4, s5, s6⟩, by omega, by omega, fun h => by omega⟩
          have cb := (tb[k]).toNat_lt
          clear s3 s4 s5 s6 hx h10 hn13
          go_wp2
          go_roundw
          case rel => exact ⟨fr, k + 1, rfl, by go_num, HN, by omega, hb⟩
          case measure => simp [intOf]; omega
      · have hk1 : ¬ (k : Int) + 1 < (tb.size : Int) := by omega
        go_wp2_with fail
        refine (wakes16_any _).mono ?_
        rintro e w5 ⟨rfl, b5⟩
        go_wp2
        go_ret
        exact ⟨rfl, hb.trans (b5.mono hb.size)⟩
end Fld
end Go.Proofs.Ythnlphnhdhmcpaa
