/-
  The reference's Pieces; escape.Unlist of whatever text.
-/
import Derived.Test.YtbfknaccffiafaaEscB
import Derived.Test.YtbfknaccffiafaaEscM
import Derived.Test.YtbfknaccffiafaaTxt
namespace Go.Proofs.Ytbfknaccffiafaa
open Go.RowKit
namespace Esc
open Opn (sv TxtV)
/-- The pieces between commas that no slash stands ahead of; the first one has begun. -/
def pcsG : List UInt8 → List UInt8 → List (List UInt8)
  | cur, [] => [cur]
  | cur, [c] => if c = 92 then [cur ++ [c]] else if c = 44 then [cur, []] else [cur ++ [c]]
  | cur, c :: d :: T => if c = 92 then pcsG (cur ++ [c, d]) T else if c = 44 then cur :: pcsG [] (d :: T) else pcsG (cur ++ [c]) (d :: T)
def pcs (S : List UInt8) : List (List UInt8) := pcsG [] S
theorem pcs_nil (cur : List UInt8) : pcsG cur [] = [cur] := by rw [pcsG]
theorem pcs_one (cur : List UInt8) : pcsG cur [92] = [cur ++ [92]] := by rw [pcsG, if_pos rfl]
theorem pcs_esc (cur : List UInt8) (d : UInt8) (T : List UInt8) : pcsG cur (92 :: d :: T) = pcsG (cur ++ [92, d]) T := by rw [pcsG, if_pos rfl]
theorem pcs_com (cur T : List UInt8) : pcsG cur (44 :: T) = cur :: pcsG [] T := by
  cases T with
  | nil => simp [pcsG]
  | cons d T => rw [pcsG, if_neg (by decide), if_pos rfl]
theorem pcs_any (cur T : List UInt8) {c : UInt8} (h1 : c ≠ 92) (h2 : c ≠ 44) : pcsG cur (c :: T) = pcsG (cur ++ [c]) T := by
  cases T with
  | nil => simp [pcsG, h1, h2]
  | cons d T => rw [pcsG, if_neg h1, if_neg h2]
theorem pcs_ne : ∀ (n : Nat) (cur T : List UInt8), T.length ≤ n → pcsG cur T ≠ []
  | _, cur, [], _ => by rw [pcs_nil]; simp
  | 0, cur, c :: T, h => by simp at h
  | n + 1, cur, c :: T, h => by
    rw [List.length_cons] at h
    by_cases h1 : c = 92
    · subst h1
      cases T with
      | nil => rw [pcs_one]; simp
      | cons d T => rw [pcs_esc]; rw [List.length_cons] at h; exact pcs_ne n _ T (by omega)
    · by_cases h2 : c = 44
      · subst h2; rw [pcs_com]; simp
      · rw [pcs_any _ _ h1 h2]; exact pcs_ne n _ T (by omega)
theorem dtake {S : List UInt8} {f k : Nat} (hf : f ≤ k) (hk : k < S.length) : (S.drop f).take (k + 1 - f) = (S.drop f).take (k - f) ++ [S[k]] := by
  rw [show k + 1 - f = (k - f) + 1 from by omega, List.take_succ_eq_append_getElem (by rw [List.length_drop]; omega)]
  congr 2
  rw [List.getElem_drop]
  congr 1
  omega
/-- One sign further on. -/
theorem pcs_step {S : List UInt8} {f k : Nat} (hf : f ≤ k) (hk : k < S.length) (h1 : S[k] ≠ 92) (h2 : S[k] ≠ 44) :
    pcsG ((S.drop f).take (k - f)) (S.drop k) = pcsG ((S.drop f).take (k + 1 - f)) (S.drop (k + 1)) := by
  rw [dtake hf hk, List.drop_eq_getElem_cons hk, pcs_any _ _ h1 h2]
theorem pcs_step2 {S : List UInt8} {f k : Nat} (hf : f ≤ k) (hk : k < S.length) (h1 : S[k] = 92) :
    pcsG ((S.drop f).take (k - f)) (S.drop k) = pcsG ((S.drop f).take (k + 2 - f)) (S.drop (k + 2)) := by
  rw [List.drop_eq_getElem_cons hk, h1]
  by_cases h2 : k + 1 < S.length
  · rw [List.drop_eq_getElem_cons h2, pcs_esc, show k + 2 - f = (k + 1) + 1 - f from by omega, dtake (by omega) h2, dtake hf hk, h1, List.append_assoc]
    rfl
  · rw [List.drop_eq_nil_of_le (show S.length ≤ k + 1 by omega), pcs_one, List.drop_eq_nil_of_le (show S.length ≤ k + 2 by omega), pcs_nil]
    congr 1
    rw [← h1, ← dtake hf hk]
    rw [List.take_of_length_le (by rw [List.length_drop]; omega), List.take_of_length_le (by rw [List.length_drop]; omega)]
theorem pcs_stepc {S : List UInt8} {f k : Nat} (hk : k < S.length) (h1 : S[k] = 44) :
    pcsG ((S.drop f).take (k - f)) (S.drop k) = (S.drop f).take (k - f) :: pcsG ((S.drop (k + 1)).take (k + 1 - (k + 1))) (S.drop (k + 1)) := by
  rw [List.drop_eq_getElem_cons hk, h1, pcs_com, Nat.sub_self, List.take_zero]
theorem pcs_end {S : List UInt8} {f k : Nat} (hk : S.length ≤ k) : pcsG ((S.drop f).take (k - f)) (S.drop k) = [S.drop f] := by
  rw [List.drop_eq_nil_of_le hk, pcs_nil, List.take_of_length_le (by rw [List.length_drop]; omega)]
theorem ext_str {s : ByteArray} {S : List UInt8} (hS : s.data.toList = S) (a b : Nat) : (Value.string (s.extract a b)) = sv ((S.drop a).take (b - a)) := by
  rw [sv]
  congr 1
  apply ByteArray.ext
  apply Array.toList_inj.1
  rw [Lib.extract_data, hS]
theorem ext_tail {s : ByteArray} {S : List UInt8} (hS : s.data.toList = S) (a : Nat) : (Value.string (s.extract a s.size)) = sv (S.drop a) := by
  rw [ext_str hS, List.take_of_length_le]
  rw [List.length_drop, ← hS]
  simp
set_option maxHeartbeats 6400000 in
set_option maxRecDepth 100000 in
theorem pieces_to (s : ByteArray) (S : List UInt8) (w : World) (hs : s.size ≤ 1000000) (hS : Hid (s.data.toList = S)) :
    Calls Try.prog 15 #[.string s] w fun e w' => ∃ v, e = .returned v ∧ TxtV w' v (pcs S) ∧ Below w.heap.size w w' := by
  have hl : S.length = s.size := by rw [← hS.out]; simp
  have HL := Lib.hid hl
  clear hl
  obtain ⟨i0, hi, hz0, hz1, hz2⟩ := info_parts is
  go_enter Try.func15, Try.ntmps15
  go_wp2
  go_loopw [3, 4, 5] (fun lv fv iv wr => ∃ (D : List (List UInt8)) (fr k : Nat), fv = .int .i64 fr ∧ iv = .int .i64 k ∧ fr ≤ k ∧ fr ≤ s.size ∧ k ≤ s.size + 1 ∧ D.length ≤ fr ∧ Hid (pcs S = D ++ pcsG ((S.drop fr).take (k - fr)) (S.drop k)) ∧ wr.ownsRow w.heap.size 9 1 lv D.length (D.map sv) ∧ Below w.heap.size w wr) (fun _ _ iv _ => s.size + 1 - (intOf iv).toNat)
  case atStart => exact ⟨[], 0, 0, rfl, rfl, Nat.le_refl _, Nat.zero_le _, Nat.zero_le _, Nat.le_refl _, Lib.hid (by simp [pcs]), World.ownsRow_nil _ _ _ _, Below.refl _ _⟩
  case round =>
    obtain ⟨D, fr, k, rfl, rfl, hfk, hfs, hks, hD, hP, hown, hb⟩ := hrel
    by_cases hlt : k < s.size
    · have hkS : k < S.length := by rw [HL.out]; exact hlt
      obtain ⟨c, hx⟩ : ∃ c, S[k]'hkS = c := ⟨_, rfl⟩
      have hcc : s[k] = c := by
        have : s[k] = s.data.toList[k]'(by simpa using hlt) := by simp [ByteArray.getElem_eq_getElem_data]
        rw [this, ← hx]
        exact List.getElem_of_eq hS.out _
      have cb := c.toNat_lt
      have hcs : (c = 92 ∧ pcs S = D ++ pcsG ((S.drop fr).take (k + 2 - fr)) (S.drop (k + 2))) ∨ (((c.toNat : Int) == 92) = false ∧ ((c = 44 ∧ pcs S = D ++ [(S.drop fr).take (k - fr)] ++ pcsG ((S.drop (k + 1)).take (k + 1 - (k + 1))) (S.drop (k + 1))) ∨ (((c.toNat : Int) == 44) = false ∧ pcs S = D ++ pcsG ((S.drop fr).take (k + 1 - fr)) (S.drop (k + 1))))) := by
        have h := hP.out
        by_cases x1 : c = 92
        · exact Or.inl ⟨x1, by rw [h, pcs_step2 hfk hkS (hx.trans x1)]⟩
        · refine Or.inr ⟨u8_ne (n := 92) (by decide) x1, ?_⟩
          by_cases x2 : c = 44
          · exact Or.inl ⟨x2, by rw [h, pcs_stepc hkS (hx.trans x2)]; simp⟩
          · exact Or.inr ⟨u8_ne (n := 44) (by decide) x2, by rw [h, pcs_step hfk hkS (by rw [hx]; exact x1) (by rw [hx]; exact x2)]⟩
      clear hx hP
      rcases hcs with ⟨rfl, ho⟩ | ⟨x1, ⟨rfl, ho⟩ | ⟨x2, ho⟩⟩
      · have HO := Lib.hid ho
        clear ho
        go_wp2
        go_roundw
        case rel => exact ⟨D, fr, k + 2, rfl, by first | go_num | (apply congrArg; omega), by omega, hfs, by omega, hD, HO, hown, hb⟩
        case measure => simp [intOf]; omega
      · have HO := Lib.hid ho
        have HE := Lib.hid (ext_str hS.out fr k)
        have HDL : Hid ((D ++ [(S.drop fr).take (k - fr)]).length = D.length + 1 ∧ (D ++ [(S.drop fr).take (k - fr)]).map sv = D.map sv ++ [sv ((S.drop fr).take (k - fr))]) := Lib.hid ⟨by rw [List.length_append]; rfl, by rw [List.map_append]; rfl⟩
        obtain ⟨Q, hQ⟩ : ∃ Q, (S.drop fr).take (k - fr) = Q := ⟨_, rfl⟩
        rw [hQ] at HE HDL HO
        clear ho hQ
        go_wp2_with (at_builtin; refine wpList_append_own _ rfl _ _ 22 rfl w.heap.size 9 i0 (.string ⟨#[]⟩) 1 16 (by kernel_rfl) hi hz0 hz1 hz2 rfl (by decide) _ _ _ rfl (hown.alloc _) ⟨wr.heap.size, 0, none⟩ 1 1 [.string (s.extract fr k)] rfl rfl ?d1 ?d2 ?d3 ?d4 ?d5 ?_)
        case d1 =>
          intro j u hj
          match j, hj with
          | 0, hj => simp at hj; subst hj; simp [Addr.add]
        case d2 => intro u hu; simp at hu; subst hu; rfl
        case d3 => unfold maxLen; omega
        case d4 => omega
        case d5 => have := hb.size; simp; omega
        intro v' w5 r3 g3 hne
        have hb5 : Below w.heap.size w w5 := (hb.alloc hb.size _).grown g3 (by have := hb.size; simp; omega) (fun j hj => ((hown.alloc (Obj.cells #[.string (s.extract fr k)] 9)).lt j hj).1)
        rw [HE.out] at r3
        clear hown g3 hne
        go_wp2
        go_roundw
        case rel => exact ⟨D ++ [Q], k + 1, k + 1, by first | go_num | rfl, by first | go_num | (apply congrArg; omega), Nat.le_refl _, by omega, by omega, by rw [HDL.out.1]; omega, HO, by rw [HDL.out.1, HDL.out.2]; exact r3, hb5⟩
        case measure => simp [intOf]; omega
      · have HO := Lib.hid ho
        clear ho
        go_wp2
        go_roundw
        case rel => exact ⟨D, fr, k + 1, rfl, by first | go_num | (apply congrArg; omega), by omega, hfs, by omega, hD, HO, hown, hb⟩
        case measure => simp [intOf]; omega
    · have HE := Lib.hid (ext_tail hS.out fr)
      have HO : Hid (pcs S = D ++ [S.drop fr]) := Lib.hid (by rw [hP.out, pcs_end (by rw [HL.out]; omega)])
      have HDL : Hid ((D ++ [S.drop fr]).length = D.length + 1 ∧ (D ++ [S.drop fr]).map sv = D.map sv ++ [sv (S.drop fr)]) := Lib.hid ⟨by rw [List.length_append]; rfl, by rw [List.map_append]; rfl⟩
      clear hP
      go_wp2_with (at_builtin; refine wpList_append_own _ rfl _ _ 22 rfl w.heap.size 9 i0 (.string ⟨#[]⟩) 1 16 (by kernel_rfl) hi hz0 hz1 hz2 rfl (by decide) _ _ _ rfl (hown.alloc _) ⟨wr.heap.size, 0, none⟩ 1 1 [.string (s.extract fr s.size)] rfl rfl ?d1 ?d2 ?d3 ?d4 ?d5 ?_)
      case d1 =>
        intro j u hj
        match j, hj with
        | 0, hj => simp at hj; subst hj; simp [Addr.add]
      case d2 => intro u hu; simp at hu; subst hu; rfl
      case d3 => unfold maxLen; omega
      case d4 => omega
      case d5 => have := hb.size; simp; omega
      intro v' w5 r3 g3 hne
      have hb5 : Below w.heap.size w w5 := (hb.alloc hb.size _).grown g3 (by have := hb.size; simp; omega) (fun j hj => ((hown.alloc (Obj.cells #[.string (s.extract fr s.size)] 9)).lt j hj).1)
      rw [HE.out, ← HDL.out.2] at r3
      have hT : TxtV w5 v' (pcs S) := by rw [HO.out]; exact TxtV.of_owns r3
      clear hown g3 hne r3
      go_wp2
      go_ret
      exact ⟨_, rfl, hT, hb5⟩
def okG (t : List UInt8) : Bool := (getS t).isSome
def gv (t : List UInt8) : List UInt8 := (getR t).1
theorem ok_yes {t : List UInt8} (h : okG t = true) : getR t = (gv t, 0) := by
  unfold okG at h
  cases hg : getS t with
  | none => rw [hg] at h; cases h
  | some r => rw [gv, getR, hg]
theorem ok_no {t : List UInt8} (h : okG t = false) : getR t = ([], 3) := by
  unfold okG at h
  cases hg : getS t with
  | none => rw [getR, hg]
  | some r => rw [hg] at h; cases h
/-- What a piece becomes. -/
def gsv (t : List UInt8) : Value := sv (gv t)
theorem gsv_map (D : List (List UInt8)) : D.map gsv = (D.map gv).map sv := by rw [List.map_map]; rfl
def FrP (S : List UInt8) (z : Nat) (D : List (List UInt8)) (fr : Nat) : Prop := (fr ≤ z ∧ pcs S = D ++ pcsG [] (S.drop fr)) ∨ (fr = z + 1 ∧ pcs S = D)
def UnlP (S : List UInt8) (v : Value) (rc : Int) (w' : World) : Prop := (rc = 0 ∧ (pcs S).all okG = true ∧ TxtV w' v ((pcs S).map gv)) ∨ (rc = 3 ∧ v = .slice none 0 0 ∧ (pcs S).all okG = false)
set_option maxHeartbeats 12800000 in
set_option maxRecDepth 100000 in
theorem unl_any (s : ByteArray) (S : List UInt8) (w : World) (hs : s.size ≤ 1000000) (hS : Hid (s.data.toList = S)) :
    Calls Try.prog 11 #[.string s] w fun e w' => ∃ v rc, e = .returned (.tuple #[v, .int .i64 rc]) ∧ UnlP S v rc w' ∧ Below w.heap.size w w' := by
  have hl : S.length = s.size := by rw [← hS.out]; simp
  have HL := Lib.hid hl
  clear hl
  have gx : Hid (∀ (k : Nat) (h : k < S.length) (h2 : k < s.size), s[k] = S[k]) := Lib.hid (fun k h h2 => by
    have : s[k] = s.data.toList[k]'(by simpa using h2) := by simp [ByteArray.getElem_eq_getElem_data]
    rw [this]
    exact List.getElem_of_eq hS.out _)
  obtain ⟨i0, hi, hz0, hz1, hz2⟩ := info_parts is
  go_enter Try.func11, Try.ntmps11
  go_wp2
  go_loopw [4, 5] (fun lv fv wr => ∃ (D : List (List UInt8)) (fr : Nat), fv = .int .i64 fr ∧ FrP S s.size D fr ∧ fr ≤ s.size + 1 ∧ D.length ≤ fr ∧ Hid (D.all okG = true) ∧ wr.ownsRow w.heap.size 9 1 lv D.length (D.map gsv) ∧ Below w.heap.size w wr) (fun _ fv _ => s.size + 1 - (intOf fv).toNat)
  case atStart => exact ⟨[], 0, rfl, Or.inl ⟨Nat.zero_le _, rfl⟩, Nat.zero_le _, Nat.le_refl _, Lib.hid rfl, World.ownsRow_nil _ _ _ _, Below.refl _ _⟩
  case round =>
    obtain ⟨D, fr, rfl, hfr, hf1, hD, hok, hown, hb⟩ := hrel
    by_cases hend : fr = s.size + 1
    · have HD : Hid (pcs S = D) := Lib.hid (by
        rcases hfr with ⟨h, _⟩ | ⟨_, h⟩
        · omega
        · exact h)
      have hT : TxtV wr _ (D.map gv) := TxtV.of_owns (by rw [← gsv_map]; exact hown)
      subst hend
      clear hfr hown
      go_wp2
      go_ret2
      exact ⟨_, 0, rfl, Or.inl ⟨rfl, by rw [HD.out]; exact hok.out, by rw [HD.out]; exact hT⟩, hb⟩
    · have hfs : fr ≤ s.size := by omega
      have HPC : Hid (pcs S = D ++ pcsG [] (S.drop fr)) := Lib.hid (by
        rcases hfr with ⟨_, h⟩ | ⟨h, _⟩
        · exact h
        · omega)
      clear hfr hend hf1
      obtain ⟨wo, hwo⟩ : ∃ wo : World, wo = wr := ⟨_, rfl⟩
      rw [← hwo] at hown hb ⊢
      clear hwo
      go_wp2
      go_loopw [6] (fun tv wx => ∃ (to : Nat), fr ≤ to ∧ to ≤ s.size + 1 ∧ tv = .int .i64 to ∧ Hid (pcs S = D ++ pcsG ((S.drop fr).take (to - fr)) (S.drop to)) ∧ wo = wx) (fun tv _ => s.size + 1 - (intOf tv).toNat)
      case atStart => exact ⟨fr, Nat.le_refl _, by omega, rfl, Lib.hid (by rw [HPC.out, Nat.sub_self, List.take_zero]), rfl⟩
      case round =>
        obtain ⟨to, ht1, ht2, rfl, hU, rfl⟩ := hrel
        have hst : (∃ h : to < s.size, s[to] = 92 ∧ pcs S = D ++ pcsG ((S.drop fr).take (to + 2 - fr)) (S.drop (to + 2))) ∨ (∃ (h : to < s.size), ((s[to].toNat : Int) == 92) = false ∧ ((s[to].toNat : Int) != 44) = true ∧ pcs S = D ++ pcsG ((S.drop fr).take (to + 1 - fr)) (S.drop (to + 1))) ∨
            (∃ e, min (to : Int) (s.size : Int) = ((e : Nat) : Int) ∧ fr ≤ e ∧ e ≤ s.size ∧ e ≤ to ∧ ((to < s.size ∧ e = to ∧ ∃ h : to < s.size, s[to] = 44) ∨ s.size ≤ to) ∧ ((e + 1 ≤ s.size ∧ pcs S = D ++ [(S.drop fr).take (e - fr)] ++ pcsG [] (S.drop (e + 1))) ∨ (e + 1 = s.size + 1 ∧ pcs S = D ++ [(S.drop fr).take (e - fr)]))) := by
          have h := hU.out
          by_cases hlt : to < s.size
          · have hkS : to < S.length := by rw [HL.out]; exact hlt
            have hxx := gx.out to hkS hlt
            by_cases x1 : S[to] = 92
            · exact Or.inl ⟨hlt, by rw [hxx, x1], by rw [h, pcs_step2 ht1 hkS x1]⟩
            · by_cases x2 : S[to] = 44
              · exact Or.inr (Or.inr ⟨to, Int.min_eq_left (by omega), ht1, by omega, Nat.le_refl _, Or.inl ⟨hlt, rfl, hlt, by rw [hxx, x2]⟩, Or.inl ⟨hlt, by rw [h, pcs_stepc hkS x2, Nat.sub_self, List.take_zero]; simp⟩⟩)
              · refine Or.inr (Or.inl ⟨hlt, ?_, ?_, by rw [h, pcs_step ht1 hkS x1 x2]⟩)
                · rw [hxx]; exact u8_ne (n := 92) (by decide) x1
                · rw [hxx]; have := u8_ne (n := 44) (by decide) x2; simpa [bne] using this
          · refine Or.inr (Or.inr ⟨s.size, Int.min_eq_right (by omega), hfs, Nat.le_refl _, by omega, Or.inr (by omega), Or.inr ⟨rfl, ?_⟩⟩)
            rw [h, pcs_end (by rw [HL.out]; omega), List.take_of_length_le (by rw [List.length_drop, HL.out]; exact Nat.le_refl _)]
        clear hU
        rcases hst with ⟨hlt, h92, ho⟩ | ⟨hlt, n1, n2, ho⟩ | ⟨e, hmin, he1, he2, he3, hex, ho⟩
        · have HO := Lib.hid ho
          clear ho
          go_wp2
          go_roundw
          case rel => exact ⟨to + 2, by omega, by omega, by first | go_num | (apply congrArg; omega), HO, trivial⟩
          case measure => simp [intOf]; omega
        · have HO := Lib.hid ho
          have cb := (s[to]).toNat_lt
          clear ho
          go_wp2
          go_roundw
          case rel => exact ⟨to + 1, by omega, by omega, by first | go_num | (apply congrArg; omega), HO, trivial⟩
          case measure => simp [intOf]; omega
        · have HO := Lib.hid ho
          clear ho
          obtain ⟨Q, hQ⟩ : ∃ Q, (S.drop fr).take (e - fr) = Q := ⟨_, rfl⟩
          have HE : Hid ((s.extract fr e).data.toList = Q) := Lib.hid (by rw [Lib.extract_data, hS.out, hQ])
          have hsl : s.data.toList.length = s.size := by simp
          have hz : Hid ((s.extract fr e).size ≤ 1000000) := Lib.hid (by rw [Lib.size_eq, Lib.extract_data, List.length_take, List.length_drop]; omega)
          clear hsl
          rw [hQ] at HO
          have HNX : FrP S s.size (D ++ [Q]) (e + 1) := HO.out
          have HBAD : Hid (okG Q = false → (pcs S).all okG = false) := Lib.hid (fun h => by
            rcases HO.out with ⟨_, h2⟩ | ⟨_, h2⟩ <;> rw [h2] <;> simp [h])
          clear hQ HO
          obtain ⟨X, hX⟩ : ∃ X, s.extract fr e = X := ⟨_, rfl⟩
          rw [hX] at HE hz
          have HX := Lib.hid hX
          clear hX
          rcases hex with ⟨hlt, rfl, hlt2, h44⟩ | hge
          · cases hq : okG Q with
            | true =>
              have HG := Lib.hid (ok_yes hq)
              have HDL : Hid ((D ++ [Q]).length = D.length + 1 ∧ (D ++ [Q]).map gsv = D.map gsv ++ [.string ⟨(gv Q).toArray⟩]) := Lib.hid ⟨by rw [List.length_append]; rfl, by rw [List.map_append]; rfl⟩
              have HOK : Hid ((D ++ [Q]).all okG = true) := Lib.hid (by rw [List.all_append, hok.out, List.all_cons, hq]; rfl)
              clear hq HBAD
              go_wp2_with fail
              rw [HX.out]
              refine (get_to X Q _ _ _ hz.out HE HG).mono ?_
              rintro e1 w1 ⟨rfl, b1⟩
              have hb1 : Below w.heap.size w w1 := hb.trans (b1.mono hb.size)
              have r2 := owns_below hown b1
              clear b1
              go_wp2_with (at_builtin; refine wpList_append_own _ rfl _ _ 22 rfl w.heap.size 9 i0 (.string ⟨#[]⟩) 1 16 (by kernel_rfl) hi hz0 hz1 hz2 rfl (by decide) _ _ _ rfl (r2.alloc _) ⟨w1.heap.size, 0, none⟩ 1 1 [.string ⟨(gv Q).toArray⟩] rfl rfl ?d1 ?d2 ?d3 ?d4 ?d5 ?_)
              case d1 =>
                intro j u hj
                match j, hj with
                | 0, hj => simp at hj; subst hj; simp [Addr.add]
              case d2 => intro u hu; simp at hu; subst hu; rfl
              case d3 => unfold maxLen; omega
              case d4 => omega
              case d5 => have := hb1.size; simp; omega
              intro v' w5 r3 g3 hne
              have hb5 : Below w.heap.size w w5 := (hb1.alloc hb1.size _).grown g3 (by have := hb1.size; simp; omega) (fun j hj => ((r2.alloc (Obj.cells #[.string ⟨(gv Q).toArray⟩] 9)).lt j hj).1)
              clear r2 g3 hne
              go_wp2
              go_roundw
              case rel => exact ⟨D ++ [Q], e + 1, by first | go_num | (apply congrArg; omega), HNX, by omega, by rw [HDL.out.1]; omega, HOK, by rw [HDL.out.1, HDL.out.2]; exact r3, hb5⟩
              case measure => simp [intOf]; omega
            | false =>
              have HG := Lib.hid (ok_no hq)
              have HP : Hid ((pcs S).all okG = false) := Lib.hid (HBAD.out hq)
              clear hq HBAD
              go_wp2_with fail
              rw [HX.out]
              refine (get_to X Q _ _ _ hz.out HE HG).mono ?_
              rintro e1 w1 ⟨rfl, b1⟩
              have hb1 : Below w.heap.size w w1 := hb.trans (b1.mono hb.size)
              clear b1
              go_wp2
              go_ret2
              exact ⟨_, 3, rfl, Or.inr ⟨rfl, rfl, HP.out⟩, hb1⟩
          by_cases hts : to = s.size
          · obtain rfl : e = s.size := by omega
            subst hts
            cases hq : okG Q with
            | true =>
              have HG := Lib.hid (ok_yes hq)
              have HDL : Hid ((D ++ [Q]).length = D.length + 1 ∧ (D ++ [Q]).map gsv = D.map gsv ++ [.string ⟨(gv Q).toArray⟩]) := Lib.hid ⟨by rw [List.length_append]; rfl, by rw [List.map_append]; rfl⟩
              have HOK : Hid ((D ++ [Q]).all okG = true) := Lib.hid (by rw [List.all_append, hok.out, List.all_cons, hq]; rfl)
              clear hq HBAD
              go_wp2_with fail
              rw [HX.out]
              refine (get_to X Q _ _ _ hz.out HE HG).mono ?_
              rintro e1 w1 ⟨rfl, b1⟩
              have hb1 : Below w.heap.size w w1 := hb.trans (b1.mono hb.size)
              have r2 := owns_below hown b1
              clear b1
              go_wp2_with (at_builtin; refine wpList_append_own _ rfl _ _ 22 rfl w.heap.size 9 i0 (.string ⟨#[]⟩) 1 16 (by kernel_rfl) hi hz0 hz1 hz2 rfl (by decide) _ _ _ rfl (r2.alloc _) ⟨w1.heap.size, 0, none⟩ 1 1 [.string ⟨(gv Q).toArray⟩] rfl rfl ?d1 ?d2 ?d3 ?d4 ?d5 ?_)
              case d1 =>
                intro j u hj
                match j, hj with
                | 0, hj => simp at hj; subst hj; simp [Addr.add]
              case d2 => intro u hu; simp at hu; subst hu; rfl
              case d3 => unfold maxLen; omega
              case d4 => omega
              case d5 => have := hb1.size; simp; omega
              intro v' w5 r3 g3 hne
              have hb5 : Below w.heap.size w w5 := (hb1.alloc hb1.size _).grown g3 (by have := hb1.size; simp; omega) (fun j hj => ((r2.alloc (Obj.cells #[.string ⟨(gv Q).toArray⟩] 9)).lt j hj).1)
              clear r2 g3 hne
              go_wp2
              go_roundw
              case rel => exact ⟨D ++ [Q], s.size + 1, by first | go_num | (apply congrArg; omega), HNX, by omega, by rw [HDL.out.1]; omega, HOK, by rw [HDL.out.1, HDL.out.2]; exact r3, hb5⟩
              case measure => simp [intOf]; omega
            | false =>
              have HG := Lib.hid (ok_no hq)
              have HP : Hid ((pcs S).all okG = false) := Lib.hid (HBAD.out hq)
              clear hq HBAD
              go_wp2_with fail
              rw [HX.out]
              refine (get_to X Q _ _ _ hz.out HE HG).mono ?_
              rintro e1 w1 ⟨rfl, b1⟩
              have hb1 : Below w.heap.size w w1 := hb.trans (b1.mono hb.size)
              clear b1
              go_wp2
              go_ret2
              exact ⟨_, 3, rfl, Or.inr ⟨rfl, rfl, HP.out⟩, hb1⟩
          · obtain rfl : e = s.size := by omega
            have hgt : ¬ to ≤ s.size := by omega
            clear hts hge
            cases hq : okG Q with
            | true =>
              have HG := Lib.hid (ok_yes hq)
              have HDL : Hid ((D ++ [Q]).length = D.length + 1 ∧ (D ++ [Q]).map gsv = D.map gsv ++ [.string ⟨(gv Q).toArray⟩]) := Lib.hid ⟨by rw [List.length_append]; rfl, by rw [List.map_append]; rfl⟩
              have HOK : Hid ((D ++ [Q]).all okG = true) := Lib.hid (by rw [List.all_append, hok.out, List.all_cons, hq]; rfl)
              clear hq HBAD
              go_wp2_with fail
              rw [HX.out]
              refine (get_to X Q _ _ _ hz.out HE HG).mono ?_
              rintro e1 w1 ⟨rfl, b1⟩
              have hb1 : Below w.heap.size w w1 := hb.trans (b1.mono hb.size)
              have r2 := owns_below hown b1
              clear b1
              go_wp2_with (at_builtin; refine wpList_append_own _ rfl _ _ 22 rfl w.heap.size 9 i0 (.string ⟨#[]⟩) 1 16 (by kernel_rfl) hi hz0 hz1 hz2 rfl (by decide) _ _ _ rfl (r2.alloc _) ⟨w1.heap.size, 0, none⟩ 1 1 [.string ⟨(gv Q).toArray⟩] rfl rfl ?d1 ?d2 ?d3 ?d4 ?d5 ?_)
              case d1 =>
                intro j u hj
                match j, hj with
                | 0, hj => simp at hj; subst hj; simp [Addr.add]
              case d2 => intro u hu; simp at hu; subst hu; rfl
              case d3 => unfold maxLen; omega
              case d4 => omega
              case d5 => have := hb1.size; simp; omega
              intro v' w5 r3 g3 hne
              have hb5 : Below w.heap.size w w5 := (hb1.alloc hb1.size _).grown g3 (by have := hb1.size; simp; omega) (fun j hj => ((r2.alloc (Obj.cells #[.string ⟨(gv Q).toArray⟩] 9)).lt j hj).1)
              clear r2 g3 hne
              go_wp2
              go_roundw
              case rel => exact ⟨D ++ [Q], s.size + 1, by first | go_num | (apply congrArg; omega), HNX, by omega, by rw [HDL.out.1]; omega, HOK, by rw [HDL.out.1, HDL.out.2]; exact r3, hb5⟩
              case measure => simp [intOf]; omega
            | false =>
              have HG := Lib.hid (ok_no hq)
              have HP : Hid ((pcs S).all okG = false) := Lib.hid (HBAD.out hq)
              clear hq HBAD
              go_wp2_with fail
              rw [HX.out]
              refine (get_to X Q _ _ _ hz.out HE HG).mono ?_
              rintro e1 w1 ⟨rfl, b1⟩
              have hb1 : Below w.heap.size w w1 := hb.trans (b1.mono hb.size)
              clear b1
              go_wp2
              go_ret2
              exact ⟨_, 3, rfl, Or.inr ⟨rfl, rfl, HP.out⟩, hb1⟩
end Esc
end Go.Proofs.Ytbfknaccffiafaa
