/-
  Contracts of package escape: escaped, Get. (Written by gen/gen_escb.py.)
-/
import Derived.Test.YtbfknaccffiafaaEscA
namespace Go.Proofs.Ytbfknaccffiafaa
open Go.RowKit
namespace Esc
/-- What is meant by a byte behind a backslash. -/
def mnt (d : UInt8) : Option UInt8 := if d = 92 ∨ d = 59 ∨ d = 44 then some d else if d = 110 ∨ d = 78 then some 10 else none
def getO : Nat → List UInt8 → Option (List UInt8)
  | 0, _ => some []
  | _ + 1, [] => some []
  | f + 1, c :: S => if ctl c = true ∨ c = 59 ∨ c = 44 then none else if c = 92 then
      (match S with
       | [] => none
       | d :: S' => match mnt d with
         | none => none
         | some m => (getO f S').map (fun r => m :: r))
      else (getO f S).map (fun r => c :: r)
theorem getO_cons (f : Nat) (c : UInt8) (S : List UInt8) : getO (f + 1) (c :: S) = if ctl c = true ∨ c = 59 ∨ c = 44 then none else if c = 92 then
      (match S with
       | [] => none
       | d :: S' => match mnt d with
         | none => none
         | some m => (getO f S').map (fun r => m :: r))
      else (getO f S).map (fun r => c :: r) := rfl
/-- More fuel than signs changes nothing. -/
theorem getO_fuel : ∀ (f g : Nat) (S : List UInt8), S.length ≤ f → S.length ≤ g → getO f S = getO g S
  | 0, 0, _, _, _ => rfl
  | 0, g + 1, S, h, _ => by
    have : S = [] := List.length_eq_zero_iff.1 (by omega)
    subst this; rfl
  | f + 1, 0, S, _, h => by
    have : S = [] := List.length_eq_zero_iff.1 (by omega)
    subst this; rfl
  | f + 1, g + 1, [], _, _ => rfl
  | f + 1, g + 1, c :: S, h1, h2 => by
    rw [List.length_cons] at h1 h2
    rw [getO_cons, getO_cons]
    split
    · rfl
    · split
      · match S with
        | [] => rfl
        | d :: S' =>
          rw [List.length_cons] at h1 h2
          simp only
          rw [getO_fuel f g S' (by omega) (by omega)]
      · rw [getO_fuel f g S (by omega) (by omega)]
def getS (S : List UInt8) : Option (List UInt8) := getO S.length S
theorem get_nil : getS [] = some [] := rfl
theorem get_cons (c : UInt8) (S : List UInt8) : getS (c :: S) = if ctl c = true ∨ c = 59 ∨ c = 44 then none else if c = 92 then
      (match S with
       | [] => none
       | d :: S' => match mnt d with
         | none => none
         | some m => (getS S').map (fun r => m :: r))
      else (getS S).map (fun r => c :: r) := by
  rw [getS, List.length_cons, getO_cons]
  split
  · rfl
  · split
    · match S with
      | [] => rfl
      | d :: S' =>
        simp only
        rw [getO_fuel _ _ S' (show S'.length ≤ (d :: S').length by simp) (Nat.le_refl _)]
        rfl
    · rfl
def getR (S : List UInt8) : List UInt8 × Int := match getS S with | some r => (r, 0) | none => ([], 3)
theorem ret_ub {a a' : Int} {b b' : Bool} (h : a = a') (k : b = b') : Ending.returned (.tuple #[.int .u8 a, .bool b]) = .returned (.tuple #[.int .u8 a', .bool b']) := by rw [h, k]
/-- The byte that is meant at a place. -/
def escV (o : Option UInt8) : UInt8 × Bool := match o with | none => (0, false) | some d => match mnt d with | none => (0, false) | some m => (m, true)
theorem escV_none : escV none = (0, false) := rfl
theorem escV_some (d : UInt8) : escV (some d) = match mnt d with | none => (0, false) | some m => (m, true) := rfl
set_option maxHeartbeats 1600000 in
set_option maxRecDepth 100000 in
theorem esc_to (s : ByteArray) (S : List UInt8) (k : Nat) (m : UInt8) (b : Bool) (w : World) (hS : Hid (s.data.toList = S)) (h : Hid (escV S[k]? = (m, b))) :
    Calls Try.prog 18 #[.string s, .int .i64 (k : Int)] w fun e w' => e = .returned (.tuple #[.int .u8 (m.toNat : Int), .bool b]) ∧ w = w' := by
  have hl : S.length = s.size := by rw [← hS.out]; simp
  have HH := h.out
  clear h
  by_cases hlt : k < s.size
  · have hkS : k < S.length := by omega
    obtain ⟨c, hx⟩ : ∃ c, S[k]'hkS = c := ⟨_, rfl⟩
    have hcc : s[k] = c := by
      have : s[k] = s.data.toList[k]'(by simpa using hlt) := by simp [ByteArray.getElem_eq_getElem_data]
      rw [this, ← hx]
      exact List.getElem_of_eq hS.out _
    rw [List.getElem?_eq_getElem hkS, hx] at HH
    have hcs : (c = 92 ∧ m = 92 ∧ b = true) ∨ (c = 59 ∧ m = 59 ∧ b = true) ∨ (c = 44 ∧ m = 44 ∧ b = true) ∨ (c = 110 ∧ m = 10 ∧ b = true) ∨ (c = 78 ∧ m = 10 ∧ b = true) ∨
        (((c.toNat : Int) == 92) = false ∧ ((c.toNat : Int) == 59) = false ∧ ((c.toNat : Int) == 44) = false ∧ ((c.toNat : Int) == 110) = false ∧ ((c.toNat : Int) == 78) = false ∧ m = 0 ∧ b = false) := by
      rw [escV] at HH
      by_cases x1 : c = 92
      · subst x1; injection HH with p q; exact Or.inl ⟨rfl, p.symm, q.symm⟩
      · by_cases x2 : c = 59
        · subst x2; injection HH with p q; exact Or.inr (Or.inl ⟨rfl, p.symm, q.symm⟩)
        · by_cases x3 : c = 44
          · subst x3; injection HH with p q; exact Or.inr (Or.inr (Or.inl ⟨rfl, p.symm, q.symm⟩))
          · by_cases x4 : c = 110
            · subst x4; injection HH with p q; exact Or.inr (Or.inr (Or.inr (Or.inl ⟨rfl, p.symm, q.symm⟩)))
            · by_cases x5 : c = 78
              · subst x5; injection HH with p q; exact Or.inr (Or.inr (Or.inr (Or.inr (Or.inl ⟨rfl, p.symm, q.symm⟩))))
              · have e : mnt c = none := by rw [mnt, if_neg (fun h => h.elim x1 (fun h => h.elim x2 x3)), if_neg (fun h => h.elim x4 x5)]
                simp only [e] at HH
                injection HH with p q
                exact Or.inr (Or.inr (Or.inr (Or.inr (Or.inr ⟨u8_ne (n := 92) (by decide) x1, u8_ne (n := 59) (by decide) x2, u8_ne (n := 44) (by decide) x3, u8_ne (n := 110) (by decide) x4, u8_ne (n := 78) (by decide) x5, p.symm, q.symm⟩))))
    have cb := c.toNat_lt
    clear HH hx hkS hl
    rcases hcs with ⟨rfl, rfl, rfl⟩ | ⟨rfl, rfl, rfl⟩ | ⟨rfl, rfl, rfl⟩ | ⟨rfl, rfl, rfl⟩ | ⟨rfl, rfl, rfl⟩ | ⟨x1, x2, x3, x4, x5, rfl, rfl⟩
    all_goals
      go_enter Try.func18, Try.ntmps18
      go_wp2
      go_ret2
      exact ⟨rfl, rfl⟩
  · have e : S[k]? = none := List.getElem?_eq_none (by omega)
    rw [e] at HH
    have hm : m = 0 ∧ b = false := by rw [escV] at HH; injection HH with p q; exact ⟨p.symm, q.symm⟩
    obtain ⟨rfl, rfl⟩ := hm
    clear HH e hl
    go_enter Try.func18, Try.ntmps18
    go_wp2
    go_ret2
    exact ⟨rfl, rfl⟩
set_option maxHeartbeats 6400000 in
set_option maxRecDepth 100000 in
theorem get_to (s : ByteArray) (S R : List UInt8) (rc : Int) (w : World) (hs : s.size ≤ 1000000) (hS : Hid (s.data.toList = S)) (h : Hid (getR S = (R, rc))) :
    Calls Try.prog 9 #[.string s] w fun e w' => e = .returned (.tuple #[.string ⟨R.toArray⟩, .int .i64 rc]) ∧ Below w.heap.size w w' := by
  have HX := h
  clear h
  have hl : S.length = s.size := by rw [← hS.out]; simp
  have HL := Lib.hid hl
  clear hl
  obtain ⟨i0, hi0, hz0, hz1, hz2⟩ := info_parts iu
  go_enter Try.func9, Try.ntmps9
  go_wp2_with (at_make; refine wpList_make_own _ rfl _ _ 36 rfl w.heap.size 5 i0 (.int .u8 0) 1 (by kernel_rfl) hi0 hz0 hz1 .i64 .i64 _ s.size rfl rfl (by first | rfl | omega | simp) (by rw [hz2]; omega) (by unfold maxLen; omega) (Nat.le_refl _) ?_)
  intro w1 r1 g1
  have hb1 : Below w.heap.size w w1 := (Below.refl _ _).grown g1 (Nat.le_refl _) (by intro k hk; cases hk)
  go_wp2
  go_loopw [4, 5] (fun bs iv wr => ∃ (k g cap : Nat) (P : List UInt8), k ≤ s.size ∧ P.length ≤ k ∧ iv = .int .i64 k ∧ bs = .slice (some ⟨g, 0, none⟩) P.length cap ∧ Hid (getS S = (getS (S.drop k)).map (fun r => P ++ r)) ∧ wr.ownsRow w.heap.size 5 1 (.slice (some ⟨g, 0, none⟩) P.length cap) P.length (P.map bv) ∧ Below w.heap.size w wr) (fun _ iv _ => s.size - (intOf iv).toNat)
  case atStart => exact ⟨0, _, _, [], Nat.zero_le _, Nat.le_refl _, rfl, rfl, Lib.hid (by simp), r1, hb1⟩
  case round =>
    obtain ⟨k, g, cap, P, hk, hPk, rfl, rfl, hg, hown, hb⟩ := hrel
    by_cases hlt : k < s.size
    · have hkS : k < S.length := by rw [HL.out]; exact hlt
      obtain ⟨c, hx⟩ : ∃ c, S[k]'hkS = c := ⟨_, rfl⟩
      have hcc : s[k] = c := by
        have : s[k] = s.data.toList[k]'(by simpa using hlt) := by simp [ByteArray.getElem_eq_getElem_data]
        rw [this, ← hx]
        exact List.getElem_of_eq hS.out _
      have hd : S.drop k = c :: S.drop (k + 1) := by rw [List.drop_eq_getElem_cons hkS, hx]
      have hg1 := hg.out
      rw [hd, get_cons] at hg1
      have HNO : Hid (getS S = none → R = [] ∧ rc = 3) := Lib.hid (fun h => by have h3 := HX.out; rw [getR, h] at h3; injection h3 with a b; exact ⟨a.symm, b.symm⟩)
      have cb := c.toNat_lt
      obtain ⟨n, hn⟩ : ∃ n, P.length = n := ⟨_, rfl⟩
      have HNn := Lib.hid hn
      rw [hn] at hown hPk ⊢
      have hcs : (ctl c = true ∧ getS S = none) ∨ (ctl c = false ∧ ((c = 59 ∧ getS S = none) ∨ (c = 44 ∧ getS S = none) ∨ (c = 92 ∧ ∃ m b, escV S[k + 1]? = (m, b) ∧ ((b = false ∧ getS S = none) ∨ (b = true ∧ k + 2 ≤ s.size ∧ getS S = (getS (S.drop (k + 2))).map (fun r => (P ++ [m]) ++ r)))) ∨
          (((c.toNat : Int) == 59) = false ∧ ((c.toNat : Int) == 44) = false ∧ ((c.toNat : Int) != 92) = true ∧ getS S = (getS (S.drop (k + 1))).map (fun r => (P ++ [c]) ++ r)))) := by
        cases hct : ctl c with
        | true => rw [if_pos (Or.inl hct)] at hg1; exact Or.inl ⟨rfl, hg1⟩
        | false =>
          refine Or.inr ⟨rfl, ?_⟩
          by_cases x1 : c = 59
          · rw [if_pos (Or.inr (Or.inl x1))] at hg1; exact Or.inl ⟨x1, hg1⟩
          · by_cases x2 : c = 44
            · rw [if_pos (Or.inr (Or.inr x2))] at hg1; exact Or.inr (Or.inl ⟨x2, hg1⟩)
            · rw [if_neg (fun h => h.elim (fun h => by rw [hct] at h; cases h) (fun h => h.elim x1 x2))] at hg1
              by_cases x3 : c = 92
              · refine Or.inr (Or.inr (Or.inl ⟨x3, (escV S[k + 1]?).1, (escV S[k + 1]?).2, rfl, ?_⟩))
                rw [if_pos x3] at hg1
                by_cases h2 : k + 1 < S.length
                · have hd2 : S.drop (k + 1) = S[k + 1]'h2 :: S.drop (k + 2) := List.drop_eq_getElem_cons h2
                  rw [hd2] at hg1
                  simp only at hg1
                  rw [List.getElem?_eq_getElem h2, escV_some]
                  cases hm : mnt (S[k + 1]'h2) with
                  | none =>
                    rw [hm] at hg1
                    exact Or.inl ⟨rfl, hg1⟩
                  | some m =>
                    rw [hm] at hg1
                    simp only [Option.map_map] at hg1
                    refine Or.inr ⟨rfl, by rw [HL.out] at h2; omega, ?_⟩
                    simp only
                    rw [hg1]
                    congr 1
                    funext r
                    simp
                · have hd2 : S.drop (k + 1) = [] := List.drop_eq_nil_of_le (by omega)
                  rw [hd2] at hg1
                  rw [List.getElem?_eq_none (by omega), escV_none]
                  exact Or.inl ⟨rfl, hg1⟩
              · rw [if_neg x3] at hg1
                refine Or.inr (Or.inr (Or.inr ⟨u8_ne (n := 59) (by decide) x1, u8_ne (n := 44) (by decide) x2, by have := u8_ne (n := 92) (by decide) x3; simpa [bne] using this, ?_⟩))
                rw [hg1, Option.map_map]
                congr 1
                funext r
                simp
      clear hg1 hd hx hkS hn hg
      rcases hcs with ⟨hct, ho⟩ | ⟨hct, ⟨rfl, ho⟩ | ⟨rfl, ho⟩ | ⟨rfl, m, b, hm, ⟨rfl, ho⟩ | ⟨rfl, h2, ho⟩⟩ | ⟨x1, x2, x3, ho⟩⟩
      · have HFF := Lib.hid (HNO.out ho)
        clear ho HNO
        have HCT := Lib.hid hct
        clear hct
        go_wp2_with fail
        refine (isC_to c true _ HCT).mono ?_
        rintro e w2 ⟨rfl, rfl⟩
        go_wp2
        go_ret2
        exact ⟨ret_si (by rw [HFF.out.1]) HFF.out.2.symm, hb⟩
      · have HFF := Lib.hid (HNO.out ho)
        clear ho HNO
        have HCT := Lib.hid hct
        clear hct
        go_wp2_with fail
        refine (isC_to 59 false _ HCT).mono ?_
        rintro e w2 ⟨rfl, rfl⟩
        go_wp2
        go_ret2
        exact ⟨ret_si (by rw [HFF.out.1]) HFF.out.2.symm, hb⟩
      · have HFF := Lib.hid (HNO.out ho)
        clear ho HNO
        have HCT := Lib.hid hct
        clear hct
        go_wp2_with fail
        refine (isC_to 44 false _ HCT).mono ?_
        rintro e w2 ⟨rfl, rfl⟩
        go_wp2
        go_ret2
        exact ⟨ret_si (by rw [HFF.out.1]) HFF.out.2.symm, hb⟩
      · have HFF := Lib.hid (HNO.out ho)
        clear ho HNO
        have HCT := Lib.hid hct
        clear hct
        go_wp2_with fail
        refine (isC_to 92 false _ HCT).mono ?_
        rintro e w2 ⟨rfl, rfl⟩
        have HM := Lib.hid hm
        clear hm
        go_wp2_with fail
        refine (esc_to s S (k + 1) m false _ hS HM).mono ?_
        rintro e w3 ⟨rfl, rfl⟩
        go_wp2
        go_ret2
        exact ⟨ret_si (by rw [HFF.out.1]) HFF.out.2.symm, hb⟩
      · have HG := Lib.hid ho
        clear ho HNO
        have mb := m.toNat_lt
        have HCT := Lib.hid hct
        clear hct
        go_wp2_with fail
        refine (isC_to 92 false _ HCT).mono ?_
        rintro e w2 ⟨rfl, rfl⟩
        have HM := Lib.hid hm
        clear hm
        go_wp2_with fail
        refine (esc_to s S (k + 1) m true _ hS HM).mono ?_
        rintro e w3 ⟨rfl, rfl⟩
        have ho2 := hown.alloc (Obj.cells #[.int .u8 (m.toNat : Int)] 5)
        go_wp2_with (at_builtin; refine wpList_append_own _ rfl _ _ 36 rfl w.heap.size 5 i0 (.int .u8 0) 1 1 (by kernel_rfl) hi0 hz0 hz1 hz2 rfl (by decide) _ _ _ rfl ho2 ⟨wr.heap.size, 0, none⟩ 1 1 [.int .u8 (m.toNat : Int)] rfl rfl ?d1 ?d2 ?d3 ?d4 ?d5 ?_)
        case d1 =>
          intro j u hj
          match j, hj with
          | 0, hj => simp at hj; subst hj; simp [Addr.add]
        case d2 => intro u hu; simp at hu; subst hu; rfl
        case d3 => unfold maxLen; omega
        case d4 => omega
        case d5 => have := hb.size; simp; omega
        intro s' w5 r3 g3 hne
        obtain ⟨gs, cs, rfl, _, _⟩ := r3.form (by omega)
        have hb5 : Below w.heap.size w w5 := (hb.alloc hb.size _).grown g3 (by have := hb.size; simp; omega) (fun j hj => (ho2.lt j hj).1)
        have HQ : Hid ((P ++ [m]).length = n + 1 ∧ (P ++ [m]).map bv = P.map bv ++ [.int .u8 (m.toNat : Int)]) := Lib.hid ⟨by rw [List.length_append, HNn.out]; rfl, by rw [List.map_append]; rfl⟩
        clear hown ho2 g3 hne
        go_wp2
        go_roundw
        case rel => exact ⟨k + 2, gs, cs, P ++ [m], by omega, by rw [HQ.out.1]; omega, by first | go_num | (apply congrArg; omega), by rw [HQ.out.1], HG, by rw [HQ.out.1, HQ.out.2]; exact r3, hb5⟩
        case measure => simp [intOf]; omega
      · have HG := Lib.hid ho
        clear ho HNO
        have HCT := Lib.hid hct
        clear hct
        go_wp2_with fail
        refine (isC_to c false _ HCT).mono ?_
        rintro e w2 ⟨rfl, rfl⟩
        have ho2 := hown.alloc (Obj.cells #[.int .u8 (c.toNat : Int)] 5)
        go_wp2_with (at_builtin; refine wpList_append_own _ rfl _ _ 36 rfl w.heap.size 5 i0 (.int .u8 0) 1 1 (by kernel_rfl) hi0 hz0 hz1 hz2 rfl (by decide) _ _ _ rfl ho2 ⟨wr.heap.size, 0, none⟩ 1 1 [.int .u8 (c.toNat : Int)] rfl rfl ?d1 ?d2 ?d3 ?d4 ?d5 ?_)
        case d1 =>
          intro j u hj
          match j, hj with
          | 0, hj => simp at hj; subst hj; simp [Addr.add]
        case d2 => intro u hu; simp at hu; subst hu; rfl
        case d3 => unfold maxLen; omega
        case d4 => omega
        case d5 => have := hb.size; simp; omega
        intro s' w5 r3 g3 hne
        obtain ⟨gs, cs, rfl, _, _⟩ := r3.form (by omega)
        have hb5 : Below w.heap.size w w5 := (hb.alloc hb.size _).grown g3 (by have := hb.size; simp; omega) (fun j hj => (ho2.lt j hj).1)
        have HQ : Hid ((P ++ [c]).length = n + 1 ∧ (P ++ [c]).map bv = P.map bv ++ [.int .u8 (c.toNat : Int)]) := Lib.hid ⟨by rw [List.length_append, HNn.out]; rfl, by rw [List.map_append]; rfl⟩
        clear hown ho2 g3 hne
        go_wp2
        go_roundw
        case rel => exact ⟨k + 1, gs, cs, P ++ [c], by omega, by rw [HQ.out.1]; omega, by first | go_num | (apply congrArg; omega), by rw [HQ.out.1], HG, by rw [HQ.out.1, HQ.out.2]; exact r3, hb5⟩
        case measure => simp [intOf]; omega
    · have hT : S.drop k = [] := List.drop_eq_nil_of_le (by rw [HL.out]; omega)
      have HBB : Hid (R = P ∧ rc = 0) := Lib.hid (by
        have h3 := HX.out
        rw [getR, hg.out, hT, get_nil] at h3
        injection h3 with a b
        exact ⟨by rw [← a]; simp, b.symm⟩)
      have hconv := run_convert_bytes_back (P := Try.prog) wr 36 9 5 ⟨g, 0, none⟩ cap P (by kernel_rfl) (by kernel_rfl) (by kernel_rfl) (own_cells hown rfl)
      clear hown hT hg
      obtain ⟨n, hn⟩ : ∃ n, P.length = n := ⟨_, rfl⟩
      rw [hn] at hconv ⊢
      clear hn hPk
      go_wp2
      go_ret2
      exact ⟨ret_si (by rw [HBB.out.1]) HBB.out.2.symm, hb⟩
end Esc
end Go.Proofs.Ytbfknaccffiafaa
