/-
  Package fields: isBlank, read, Split.
-/
import Derived.Test.YtdehpljpionpfaaFdM
import Derived.Test.YtdehpljpionpfaaRow
import Derived.Test.YtdehpljpionpfaaBld
namespace Go.Proofs.Ytdehpljpionpfaa
open Go.RowKit
namespace Fds
open Opn (sv TxtV)
open Rws (RowB RowS)
theorem bl_to (c : UInt8) (b : Bool) (w : World) (h : Hid (isBl c = b)) : Calls Try.prog 17 #[.int .u8 (c.toNat : Int)] w fun e w' => e = .returned (.bool b) ∧ w = w' := by
  have HH := h.out
  unfold isBl at HH
  clear h
  have cb := c.toNat_lt
  by_cases h1 : c = 32
  · subst h1
    have : b = true := HH.symm
    subst this
    go_enter Try.func17, Try.ntmps17
    go_wp2
    go_ret
    exact ⟨rfl, rfl⟩
  by_cases h2 : c = 9
  · subst h2
    have : b = true := HH.symm
    subst this
    go_enter Try.func17, Try.ntmps17
    go_wp2
    go_ret
    exact ⟨rfl, rfl⟩
  by_cases h3 : c = 13
  · subst h3
    have : b = true := HH.symm
    subst this
    go_enter Try.func17, Try.ntmps17
    go_wp2
    go_ret
    exact ⟨rfl, rfl⟩
  have : b = false := by
    rw [← HH]
    simp [h1, h2, h3]
  subst this
  have n1 : ((c.toNat : Int) == 32) = false := Esc.u8_ne (n := 32) (by decide) h1
  have n2 : ((c.toNat : Int) == 9) = false := Esc.u8_ne (n := 9) (by decide) h2
  have n3 : ((c.toNat : Int) == 13) = false := Esc.u8_ne (n := 13) (by decide) h3
  clear HH
  go_enter Try.func17, Try.ntmps17
  go_wp2
  go_ret
  exact ⟨ret_b (by simp [*]), rfl⟩
theorem iby_to (s : ByteArray) (S : List UInt8) (c : UInt8) (w : World) (hS : Hid (s.data.toList = S)) : Calls Try.prog 16 #[.string s, .int .u8 (c.toNat : Int)] w fun e w' => e = .returned (.int .i64 (Lib.indexByte S c)) ∧ w = w' := by
  have h := Try.strings_IndexByte s (c.toNat : Int) w
  have e1 : ((c.toNat : Int)).toNat.toUInt8 = c := by simp
  rw [e1, hS.out] at h
  exact h.mono fun e w' ⟨h1, h2⟩ => ⟨h1, h2.symm⟩
theorem dtE (s : ByteArray) (a : Nat) : (s.extract a s.size).data.toList = s.data.toList.drop a := by
  rw [Lib.extract_data, List.take_of_length_le]
  rw [List.length_drop]
  simp
/-- What read answers. -/
def RdP (S : List UInt8) (at0 : Nat) (F : List UInt8) (e : Int) (ok : Bool) : Prop :=
  (ok = true ∧ ∃ k : Nat, e = k ∧ at0 < k ∧ k ≤ S.length ∧ F.length ≤ S.length ∧ spG 0 [] (S.drop at0) = (spG 0 [] (S.drop k)).map (fun r => F :: r)) ∨ (ok = false ∧ e = 0 ∧ F = [] ∧ spG 0 [] (S.drop at0) = none)
theorem ret_sib {s s' : ByteArray} {a a' : Int} {b b' : Bool} (k : s = s') (h : a = a') (g : b = b') : Ending.returned (.tuple #[.string s, .int .i64 a, .bool b]) = .returned (.tuple #[.string s', .int .i64 a', .bool b']) := by rw [h, k, g]
set_option maxHeartbeats 6400000 in
set_option maxRecDepth 100000 in
theorem rd_to (s : ByteArray) (S : List UInt8) (at0 : Nat) (w : World) (hs : s.size ≤ 1000000) (hS : Hid (s.data.toList = S)) (h0 : at0 < s.size) (hb0 : Hid (isBl (S.getD at0 0) = false ∧ S.getD at0 0 ≠ 35)) :
    Calls Try.prog 18 #[.string s, .int .i64 (at0 : Int)] w fun e w' => ∃ F v ok, e = .returned (.tuple #[.string ⟨F.toArray⟩, .int .i64 v, .bool ok]) ∧ RdP S at0 F v ok ∧ Below w.heap.size w w' := by
  have hl : S.length = s.size := by rw [← hS.out]; simp
  have HL := Lib.hid hl
  clear hl
  have HB : Hid (spG 0 [] (S.drop at0) = spG 1 [] (S.drop at0)) := Lib.hid (by
    have hlt : at0 < S.length := by rw [HL.out]; exact h0
    have h := hb0.out
    rw [List.getD_eq_getElem?_getD, List.getElem?_eq_getElem hlt] at h
    rw [List.drop_eq_getElem_cons hlt]
    exact sp_begin _ h.2 h.1)
  go_enter Try.func18, Try.ntmps18
  go_wp2
  go_loopw [1, 7] (fun av bv wr => ∃ (k : Nat) (P : List UInt8), at0 ≤ k ∧ k ≤ s.size ∧ P.length ≤ k ∧ av = .int .i64 k ∧ Hid (spG 0 [] (S.drop at0) = spG 1 P (S.drop k)) ∧ RowB w.heap.size wr bv P ∧ Below w.heap.size w wr) (fun av _ _ => s.size - (intOf av).toNat)
  case atStart => exact ⟨at0, [], Nat.le_refl _, by omega, Nat.zero_le _, rfl, HB, RowB.nil _ _, Below.refl _ _⟩
  case round =>
    obtain ⟨k, P, hak, hks, hPk, rfl, hsp, hp, hb⟩ := hrel
    by_cases hlt : k < s.size
    · obtain ⟨hkS, hx⟩ := SAny.get_list hS.out k hlt
      obtain ⟨c, hc⟩ : ∃ c, s[k] = c := ⟨_, rfl⟩
      rw [hc] at hx
      have cb := c.toNat_lt
      have hd : S.drop k = c :: S.drop (k + 1) := by rw [List.drop_eq_getElem_cons hkS, hx]
      have hsp1 := hsp.out
      rw [hd] at hsp1
      have hne : k = at0 → isBl c = false ∧ c ≠ 35 := fun e => by
        subst e
        have h := hb0.out
        rw [List.getD_eq_getElem?_getD, List.getElem?_eq_getElem hkS] at h
        rw [hx]
        exact h
      cases hbl : isBl c with
      | true =>
        have HR : RdP S at0 P (k : Int) true := Or.inl ⟨rfl, k, rfl, by
          by_cases e : k = at0
          · have := (hne e).1; rw [hbl] at this; cases this
          · omega, by omega, by omega, by rw [hsp1, hd]; exact sp_ends _ _ (Or.inr hbl)⟩
        have HBL := Lib.hid hbl
        have hcv := hp.conv
        clear hsp1 hsp hne hbl hd hx
        go_wp2_with fail
        refine (bl_to c true _ HBL).mono ?_
        rintro e w2 ⟨rfl, rfl⟩
        go_wp2
        refine bodyPost_ret (v := .tuple #[.string ⟨P.toArray⟩, .int .i64 k, .bool true]) (by simp [results, Try.results18, go_sem]) rfl ⟨_, _, _, rfl, HR, hb⟩
      | false =>
        have HBL := Lib.hid hbl
        by_cases h35 : c = 35
        · subst h35
          have HR : RdP S at0 P (k : Int) true := Or.inl ⟨rfl, k, rfl, by
            by_cases e : k = at0
            · exact absurd rfl (hne e).2
            · omega, by omega, by omega, by rw [hsp1, hd]; exact sp_ends _ _ (Or.inl rfl)⟩
          have hcv := hp.conv
          clear hsp1 hsp hne hbl hd hx
          go_wp2_with fail
          refine (bl_to 35 false _ HBL).mono ?_
          rintro e w2 ⟨rfl, rfl⟩
          go_wp2
          refine bodyPost_ret (v := .tuple #[.string ⟨P.toArray⟩, .int .i64 k, .bool true]) (by simp [results, Try.results18, go_sem]) rfl ⟨_, _, _, rfl, HR, hb⟩
        · have n35 : ((c.toNat : Int) != 35) = true := by have := Esc.u8_ne (n := 35) (by decide) h35; simpa [bne] using this
          by_cases h34 : c = 34
          · subst h34
            have HX : Hid ((s.extract (k + 1) s.size).data.toList = S.drop (k + 1)) := Lib.hid (by rw [dtE, hS.out])
            have hsp2 : spG 0 [] (S.drop at0) = spG 2 P (S.drop (k + 1)) := by rw [hsp1, sp_quote]
            have hib := fun W => iby_to (s.extract (k + 1) s.size) (S.drop (k + 1)) 34 W HX
            have hge : -1 ≤ Lib.indexByte (S.drop (k + 1)) 34 := by
              have : ∀ l : List UInt8, -1 ≤ Lib.indexByte l 34 := fun l => by
                induction l with
                | nil => exact Int.le_refl _
                | cons a l ih => rw [Lib.indexByte]; repeat' split
                                 all_goals omega
              exact this _
            obtain ⟨ib, hibv⟩ : ∃ ib, Lib.indexByte (S.drop (k + 1)) 34 = ib := ⟨_, rfl⟩
            rw [hibv] at hib hge
            have HIB := Lib.hid hib
            by_cases hn : ib < 0
            · have HR : RdP S at0 [] 0 false := Or.inr ⟨rfl, rfl, rfl, by rw [hsp2]; exact sp_qnone _ _ (by omega)⟩
              clear hsp1 hsp hne hbl hd hx hsp2 hib hibv
              go_wp2_with fail
              refine (bl_to 34 false _ HBL).mono ?_
              rintro e w2 ⟨rfl, rfl⟩
              go_wp2_with fail
              refine (HIB.out _).mono ?_
              rintro e w2 ⟨rfl, rfl⟩
              go_wp2
              refine bodyPost_ret (v := .tuple #[.string ⟨#[]⟩, .int .i64 0, .bool false]) (by simp [results, Try.results18, go_sem]) rfl ⟨[], _, _, rfl, HR, hb⟩
            · obtain ⟨m, rfl⟩ : ∃ m : Nat, ib = m := ⟨ib.toNat, by omega⟩
              obtain ⟨hm, hq⟩ := sp_qsome (S.drop (k + 1)) P m hibv
              rw [List.length_drop, HL.out] at hm
              have HN : Hid (spG 0 [] (S.drop at0) = spG 1 (P ++ (S.drop (k + 1)).take m) (S.drop (k + m + 2))) := Lib.hid (by rw [hsp2, hq, List.drop_drop, show k + 1 + (m + 1) = k + m + 2 from by omega])
              have HY : Hid ((s.extract (k + 1) (k + 1 + m)).data.toList = (S.drop (k + 1)).take m) := Lib.hid (by rw [Lib.extract_data, hS.out]; congr 1; omega)
              have hyz : (s.extract (k + 1) (k + 1 + m)).size = m := by rw [Lib.size_eq, HY.out, List.length_take, List.length_drop, HL.out]; omega
              have HYZ := Lib.hid hyz
              have HPL : Hid ((P ++ (S.drop (k + 1)).take m).length ≤ k + m + 2) := Lib.hid (by rw [List.length_append, List.length_take]; omega)
              clear hsp1 hsp hne hbl hd hx hsp2 hib hibv hq hyz hn hge
              go_wp2_with fail
              refine (bl_to 34 false _ HBL).mono ?_
              rintro e w2 ⟨rfl, rfl⟩
              go_wp2_with fail
              refine (HIB.out _).mono ?_
              rintro e w2 ⟨rfl, rfl⟩
              go_wp2_with (at_builtin; refine Rws.appT rfl _ _ rfl w.heap.size _ P rfl hp _ rfl ?d1 hb.size ?_)
              case d1 => rw [HYZ.out]; omega
              intro v' w5 r5 g5
              have hb5 := g5.below _ _ (Nat.le_refl _) hb hb.size
              first | rw [HY.out] at r5 | rw [hS.out] at r5
              clear g5 hp hb
              go_wp2
              go_roundw
              case rel => exact ⟨k + m + 2, P ++ (S.drop (k + 1)).take m, by omega, by omega, HPL.out, by first | go_num | (apply congrArg; omega), HN, r5, hb5⟩
              case measure => simp [intOf]; omega
          · have n34 : ((c.toNat : Int) != 34) = true := by have := Esc.u8_ne (n := 34) (by decide) h34; simpa [bne] using this
            have HN : Hid (spG 0 [] (S.drop at0) = spG 1 (P ++ [c]) (S.drop (k + 1))) := Lib.hid (by rw [hsp1, sp_more _ _ h35 hbl h34])
            have HPL : Hid ((P ++ [c]).length ≤ k + 1) := Lib.hid (by rw [List.length_append]; simp; omega)
            clear hsp1 hsp hne hbl hd hx
            go_wp2_with fail
            refine (bl_to c false _ HBL).mono ?_
            rintro e w2 ⟨rfl, rfl⟩
            go_wp2_with (at_builtin; refine Rws.appB rfl _ _ rfl w.heap.size _ P rfl hp c rfl (by omega) hb.size ?_)
            intro w5 gg gcap r5 g5
            have hb5 := g5.below _ _ (Nat.le_refl _) hb hb.size
            clear g5 hp hb
            go_wp2
            go_roundw
            case rel => exact ⟨k + 1, P ++ [c], by omega, by omega, HPL.out, by go_num, HN, r5, hb5⟩
            case measure => simp [intOf]; omega
    · obtain rfl : k = s.size := by omega
      have HR : RdP S at0 P (s.size : Int) true := Or.inl ⟨rfl, s.size, rfl, by omega, by rw [HL.out]; exact Nat.le_refl _, by rw [HL.out]; exact hPk, by rw [hsp.out, List.drop_eq_nil_of_le (by rw [HL.out]; exact Nat.le_refl _)]; exact sp_end _⟩
      have hcv := hp.conv
      clear hsp
      go_wp2
      refine bodyPost_ret (v := .tuple #[.string ⟨P.toArray⟩, .int .i64 s.size, .bool true]) (by simp [results, Try.results18, go_sem]) rfl ⟨_, _, _, rfl, HR, hb⟩
end Fds
end Go.Proofs.Ytdehpljpionpfaa
