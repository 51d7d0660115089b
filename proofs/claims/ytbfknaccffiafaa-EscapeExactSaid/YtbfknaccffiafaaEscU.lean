/-
  Contract of escape.Unlist over texts that were put together.
-/
import Derived.Test.YtbfknaccffiafaaEscL
namespace Go.Proofs.Ytbfknaccffiafaa
open Go.RowKit
namespace Esc
def jp (T : List (List UInt8)) : List UInt8 := Lib.join (T.map putL) [44]
def tl (T : List (List UInt8)) : List UInt8 := Lib.joinTail [44] (T.map putL)
def sv (t : List UInt8) : Value := .string ⟨t.toArray⟩
theorem jp_cons (t : List UInt8) (T : List (List UInt8)) : jp (t :: T) = putL t ++ tl T := by
  rw [jp, List.map_cons, Lib.join_cons, tl]
theorem tl_nil : tl [] = [] := rfl
theorem tl_cons (t : List UInt8) (T : List (List UInt8)) : tl (t :: T) = 44 :: jp (t :: T) := by
  rw [jp_cons, tl, tl, List.map_cons, Lib.joinTail, Lib.joinTail]
  simp
theorem udrop_head {Z T : List UInt8} {k : Nat} {d : UInt8} (h : Z.drop k = d :: T) : ∃ hk : k < Z.length, Z[k] = d ∧ Z.drop (k + 1) = T := by
  have hk : k < Z.length := by
    have := congrArg List.length h
    rw [List.length_drop] at this; simp at this; omega
  rw [List.drop_eq_getElem_cons hk] at h
  injection h with a b
  exact ⟨hk, a, b⟩
theorem take_more {J R N : List UInt8} {fr to : Nat} (hf : fr ≤ to) (h : J.drop to = N ++ R) : (J.drop fr).take (to + N.length - fr) = (J.drop fr).take (to - fr) ++ N := by
  have e : to + N.length - fr = (to - fr) + N.length := by omega
  rw [e, List.take_add, List.drop_drop, show fr + (to - fr) = to by omega, h]
  simp
theorem putC_two (c : UInt8) : (∃ d, putC c = [92, d]) ∨ (putC c = [c] ∧ ((c.toNat : Int) == 92) = false ∧ ((c.toNat : Int) != 44) = true) := by
  unfold putC
  by_cases x1 : c = 10
  · rw [if_pos x1]; exact Or.inl ⟨_, rfl⟩
  · rw [if_neg x1]
    by_cases x2 : c = 92 ∨ c = 59 ∨ c = 44
    · rw [if_pos x2]; exact Or.inl ⟨_, rfl⟩
    · rw [if_neg x2]
      exact Or.inr ⟨rfl, u8_ne (n := 92) (by decide) (fun h => x2 (Or.inl h)), by have := u8_ne (n := 44) (by decide) (fun h => x2 (Or.inr (Or.inr h))); simpa [bne] using this⟩
set_option maxHeartbeats 12800000 in
set_option maxRecDepth 100000 in
theorem unl_to (s : ByteArray) (J : List UInt8) (L0 : List (List UInt8)) (w : World) (hs : s.size ≤ 200000) (hS : Hid (s.data.toList = J)) (hJ : Hid (J = jp L0)) (h0 : L0 ≠ []) (h60 : L0.length ≤ 60) (hP : Hid (∀ t ∈ L0, putB t = true)) :
    Calls Try.prog 11 #[.string s] w fun e w' => ∃ v, e = .returned (.tuple #[v, .int .i64 0]) ∧ w'.ownsRow w.heap.size 9 1 v L0.length (L0.map sv) ∧ Below w.heap.size w w' := by
  have hl : J.length = s.size := by rw [← hS.out]; simp
  have HL := Lib.hid hl
  have H60 := Lib.hid h60
  clear hl h60
  have gx : Hid (∀ (k : Nat) (h : k < J.length) (h2 : k < s.size), s[k] = J[k]) := Lib.hid (fun k h h2 => by
    have : s[k] = s.data.toList[k]'(by simpa using h2) := by simp [ByteArray.getElem_eq_getElem_data]
    rw [this]
    exact List.getElem_of_eq hS.out _)
  obtain ⟨i0, hi, hz0, hz1, hz2⟩ := info_parts is
  go_enter Try.func11, Try.ntmps11
  go_wp2
  go_loopw [4, 5] (fun lv fv wr => ∃ (D T : List (List UInt8)) (fr : Nat), Hid (D ++ T = L0) ∧ fv = .int .i64 fr ∧ Hid ((T ≠ [] ∧ fr ≤ J.length ∧ J.drop fr = jp T) ∨ (T = [] ∧ fr = J.length + 1)) ∧ wr.ownsRow w.heap.size 9 1 lv D.length (D.map sv) ∧ Below w.heap.size w wr) (fun _ fv _ => J.length + 1 - (intOf fv).toNat)
  case atStart => exact ⟨[], L0, 0, Lib.hid rfl, rfl, Lib.hid (Or.inl ⟨h0, Nat.zero_le _, by rw [List.drop_zero]; exact hJ.out⟩), World.ownsRow_nil _ _ _ _, Below.refl _ _⟩
  case round =>
    obtain ⟨D, T, fr, hDT, rfl, hT, hown, hb⟩ := hrel
    cases T with
    | nil =>
      have hfr : fr = J.length + 1 := by
        rcases hT.out with ⟨h, _⟩ | ⟨_, h⟩
        · exact absurd rfl h
        · exact h
      have hD : D = L0 := by have := hDT.out; simpa using this
      have hfs : fr = s.size + 1 := by rw [hfr, HL.out]
      subst hD
      clear hfr
      subst hfs
      go_wp2
      go_ret2
      exact ⟨_, rfl, hown, hb⟩
    | cons t T' =>
      obtain ⟨hfr, hdr⟩ : fr ≤ J.length ∧ J.drop fr = jp (t :: T') := by
        rcases hT.out with ⟨_, h1, h2⟩ | ⟨h, _⟩
        · exact ⟨h1, h2⟩
        · cases h
      have hfs : fr ≤ s.size := by rw [← HL.out]; exact hfr
      have hpt : putB t = true := hP.out t (by rw [← hDT.out]; simp)
      have hGT : Hid (getR (putL t) = (t, 0)) := Lib.hid (by rw [getR, get_put t hpt])
      have hD60 : D.length + 1 ≤ 60 := by have h1 := congrArg List.length hDT.out; have h2 := H60.out; simp at h1; omega
      rw [jp_cons] at hdr
      have HDR := Lib.hid hdr
      clear hT hdr hpt
      obtain ⟨wo, hwo⟩ : ∃ wo : World, wo = wr := ⟨_, rfl⟩
      have HWO := Lib.hid hwo
      rw [← hwo] at hown hb ⊢
      clear hwo
      go_wp2
      go_loopw [6] (fun tv wx => ∃ (to : Nat) (U : List UInt8), fr ≤ to ∧ to ≤ s.size ∧ tv = .int .i64 to ∧ Hid (J.drop to = putL U ++ tl T') ∧ Hid ((J.drop fr).take (to - fr) ++ putL U = putL t) ∧ wo = wx) (fun tv _ => s.size - (intOf tv).toNat)
      case atStart => exact ⟨fr, t, Nat.le_refl _, hfs, rfl, HDR, Lib.hid (by rw [Nat.sub_self]; simp), rfl⟩
      case round =>
        obtain ⟨to, U, ht1, ht2, rfl, hU, hV, rfl⟩ := hrel
        cases U with
        | cons c U' =>
          have h1 := hU.out
          have h2 := hV.out
          rw [mputL_cons, List.append_assoc] at h1
          rw [mputL_cons] at h2
          have h3 := take_more ht1 h1
          rcases putC_two c with ⟨d, hd⟩ | ⟨hd, n1, n2⟩
          · rw [hd] at h1 h2 h3
            obtain ⟨k1, e1, h4⟩ := udrop_head h1
            obtain ⟨k2, e2, h5⟩ := udrop_head h4
            have ks : to < s.size := by rw [← HL.out]; exact k1
            have ks2 : to + 2 ≤ s.size := by rw [← HL.out]; omega
            have hz : s[to] = 92 := by rw [gx.out to k1 ks]; exact e1
            have HU : Hid (J.drop (to + 2) = putL U' ++ tl T') := Lib.hid h5
            have HV : Hid ((J.drop fr).take (to + 2 - fr) ++ putL U' = putL t) := Lib.hid (by rw [← h2, show to + 2 - fr = to + ([92, d] : List UInt8).length - fr from rfl, h3, List.append_assoc])
            clear h1 h2 h3 h4 h5 e1 e2 k1 k2 hd hU hV
            go_wp2
            go_roundw
            case rel => exact ⟨to + 2, U', by omega, by omega, by first | go_num | (apply congrArg; omega), HU, HV, trivial⟩
            case measure => simp [intOf]; omega
          · rw [hd] at h1 h2 h3
            obtain ⟨k1, e1, h4⟩ := udrop_head h1
            have ks : to < s.size := by rw [← HL.out]; exact k1
            have hz : s[to] = c := by rw [gx.out to k1 ks]; exact e1
            have HU : Hid (J.drop (to + 1) = putL U' ++ tl T') := Lib.hid h4
            have HV : Hid ((J.drop fr).take (to + 1 - fr) ++ putL U' = putL t) := Lib.hid (by rw [← h2, show to + 1 - fr = to + ([c] : List UInt8).length - fr from rfl, h3, List.append_assoc])
            have cb := c.toNat_lt
            clear h1 h2 h3 h4 e1 k1 hd hU hV
            go_wp2
            go_roundw
            case rel => exact ⟨to + 1, U', by omega, by omega, by first | go_num | (apply congrArg; omega), HU, HV, trivial⟩
            case measure => simp [intOf]; omega
        | nil =>
          have hE : Hid ((s.extract fr to).data.toList = putL t) := Lib.hid (by
            rw [Lib.extract_data, hS.out]
            have := hV.out
            simpa [putL] using this)
          have hz : Hid ((s.extract fr to).size ≤ 1000000) := Lib.hid (by rw [Lib.size_eq, Lib.extract_data, List.length_take, List.length_drop]; have : s.data.toList.length = s.size := by simp
                                                                          omega)
          have hst : (to = s.size ∧ T' = []) ∨ (∃ h : to < s.size, s[to] = 44 ∧ T' ≠ [] ∧ J.drop (to + 1) = jp T') := by
            have h1 := hU.out
            rw [show putL [] = [] from rfl, List.nil_append] at h1
            cases T' with
            | nil =>
              rw [tl_nil] at h1
              have := congrArg List.length h1
              rw [List.length_drop, HL.out] at this
              simp at this
              exact Or.inl ⟨by omega, rfl⟩
            | cons u T'' =>
              rw [tl_cons] at h1
              obtain ⟨k1, e1, h4⟩ := udrop_head h1
              have ks : to < s.size := by rw [← HL.out]; exact k1
              exact Or.inr ⟨ks, by rw [gx.out to k1 ks]; exact e1, by simp, h4⟩
          have hNX : Hid ((T' ≠ [] ∧ to + 1 ≤ J.length ∧ J.drop (to + 1) = jp T') ∨ (T' = [] ∧ to + 1 = J.length + 1)) := Lib.hid (by
            rcases hst with ⟨h1, h2⟩ | ⟨h1, _, h2, h3⟩
            · exact Or.inr ⟨h2, by rw [HL.out, h1]⟩
            · exact Or.inl ⟨h2, by rw [HL.out]; omega, h3⟩)
          have hst2 : (to = s.size) ∨ (∃ h : to < s.size, s[to] = 44) := by
            rcases hst with ⟨h1, _⟩ | ⟨h1, h2, _⟩
            · exact Or.inl h1
            · exact Or.inr ⟨h1, h2⟩
          obtain ⟨X, hX⟩ : ∃ X, s.extract fr to = X := ⟨_, rfl⟩
          rw [hX] at hE hz
          have HDL : Hid ((D ++ [t]).length = D.length + 1 ∧ (D ++ [t]).map sv = D.map sv ++ [.string ⟨t.toArray⟩]) := Lib.hid ⟨by rw [List.length_append]; rfl, by rw [List.map_append]; rfl⟩
          have HDT : Hid (D ++ [t] ++ T' = L0) := Lib.hid (by rw [← hDT.out]; simp)
          clear hst hU hV
          have hmin : min (to : Int) (s.size : Int) = (to : Int) := Int.min_eq_left (by omega)
          rcases hst2 with rfl | ⟨hk, h44⟩
          all_goals
            go_wp2_with fail
            first | rw [hX] | skip
            refine (get_to X _ _ _ _ hz.out hE hGT).mono ?_
            rintro e w1 ⟨rfl, b1⟩
            have hb1 : Below w.heap.size w w1 := hb.trans (b1.mono hb.size)
            have r2 := owns_below hown b1
            clear b1
            go_wp2_with (at_builtin; refine wpList_append_own _ rfl _ _ 22 rfl w.heap.size 9 i0 (.string ⟨#[]⟩) 1 16 (by kernel_rfl) hi hz0 hz1 hz2 rfl (by decide) _ _ _ rfl (r2.alloc _) ⟨w1.heap.size, 0, none⟩ 1 1 [.string ⟨t.toArray⟩] rfl rfl ?d1 ?d2 ?d3 ?d4 ?d5 ?_)
            case d1 =>
              intro j u hj
              match j, hj with
              | 0, hj => simp at hj; subst hj; simp [Addr.add]
            case d2 => intro u hu; simp at hu; subst hu; rfl
            case d3 => unfold maxLen; omega
            case d4 => omega
            case d5 => have := hb1.size; simp; omega
            intro v' w5 r3 g3 hne
            have hb5 : Below w.heap.size w w5 := (hb1.alloc hb1.size _).grown g3 (by have := hb1.size; simp; omega) (fun j hj => ((r2.alloc (Obj.cells #[.string ⟨t.toArray⟩] 9)).lt j hj).1)
            clear r2 g3 hne
            go_wp2
            go_roundw
            case rel => exact ⟨D ++ [t], T', _, HDT, rfl, hNX, by rw [HDL.out.1, HDL.out.2]; exact r3, hb5⟩
            case measure => simp [intOf]; have := HL.out; omega
end Esc
end Go.Proofs.Ytbfknaccffiafaa
