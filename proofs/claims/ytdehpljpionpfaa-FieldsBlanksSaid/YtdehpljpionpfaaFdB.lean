/-
  Package fields: Split, whole.
-/
import Derived.Test.YtdehpljpionpfaaFdA
namespace Go.Proofs.Ytdehpljpionpfaa
open Go.RowKit
namespace Fds
open Opn (sv TxtV)
open Rws (RowB RowS)
theorem split_cases (S : List UInt8) (L : List (List UInt8)) (rc : Int) (h : splitR S = (L, rc)) :
    (600 < S.length ∧ L = [] ∧ rc = 2) ∨ (S.length ≤ 600 ∧ bad0 S = true ∧ L = [] ∧ rc = 6) ∨ (S.length ≤ 600 ∧ bad0 S = false ∧ ((spG 0 [] S = none ∧ L = [] ∧ rc = 6) ∨ (spG 0 [] S = some L ∧ rc = 0))) := by
  unfold splitR at h
  by_cases h1 : 600 < S.length
  · rw [if_pos h1] at h
    injection h with a b
    exact Or.inl ⟨h1, a.symm, b.symm⟩
  · rw [if_neg h1] at h
    cases hb : bad0 S with
    | true =>
      rw [hb, if_pos rfl] at h
      injection h with a b
      exact Or.inr (Or.inl ⟨by omega, rfl, a.symm, b.symm⟩)
    | false =>
      rw [hb, if_neg (by decide)] at h
      refine Or.inr (Or.inr ⟨by omega, rfl, ?_⟩)
      cases hs : spG 0 [] S with
      | none => rw [hs] at h; injection h with a b; exact Or.inl ⟨rfl, a.symm, b.symm⟩
      | some M => rw [hs] at h; injection h with a b; exact Or.inr ⟨by rw [a], b.symm⟩
set_option maxHeartbeats 6400000 in
set_option maxRecDepth 100000 in
theorem spl_loop (s : ByteArray) (S : List UInt8) (L : List (List UInt8)) (rc : Int) (w : World) (hs : s.size ≤ 600) (hS : Hid (s.data.toList = S)) (hbad : Hid (bad0 S = false)) (hfin : Hid ((spG 0 [] S = none ∧ L = [] ∧ rc = 6) ∨ (spG 0 [] S = some L ∧ rc = 0))) :
    Calls Try.prog 8 #[.string s] w fun e w' => ∃ v, e = .returned (.tuple #[v, .int .i64 rc]) ∧ TxtV w' v L ∧ Below w.heap.size w w' := by
  have hl : S.length = s.size := by rw [← hS.out]; simp
  have HL := Lib.hid hl
  clear hl
  have hD0 := Lib.contains_iff_indexByte S 0
  have hD1 := Lib.contains_iff_indexByte S 10
  have hb := hbad.out
  unfold bad0 at hb
  rw [Bool.or_eq_false_iff] at hb
  rw [hb.1] at hD0
  rw [hb.2] at hD1
  have c0 := Lib.hid (fun W => iby_to s S 0 W hS)
  have c1 := Lib.hid (fun W => iby_to s S 10 W hS)
  obtain ⟨i0, hi0⟩ : ∃ i0, Lib.indexByte S 0 = i0 := ⟨_, rfl⟩
  obtain ⟨i1, hi1⟩ : ∃ i1, Lib.indexByte S 10 = i1 := ⟨_, rfl⟩
  rw [hi0] at hD0 c0
  rw [hi1] at hD1 c1
  have n0 : ¬ (0 : Int) ≤ i0 := of_decide_eq_false hD0.symm
  have n1 : ¬ (0 : Int) ≤ i1 := of_decide_eq_false hD1.symm
  clear hD0 hD1 hb hi0 hi1
  go_enter Try.func8, Try.ntmps8
  go_wp2_with fail
  refine (c0.out _).mono ?_
  rintro e w1 ⟨rfl, rfl⟩
  go_wp2_with fail
  refine (c1.out _).mono ?_
  rintro e w1 ⟨rfl, rfl⟩
  go_wp2
  go_loopw [4, 5] (fun lv av wr => ∃ (k : Nat) (M : List (List UInt8)), k ≤ s.size ∧ av = .int .i64 k ∧ M.length ≤ k ∧ Hid (spG 0 [] S = (spG 0 [] (S.drop k)).map (fun r => M ++ r)) ∧ RowS w.heap.size wr lv M ∧ Below w.heap.size w wr) (fun _ av _ => s.size - (intOf av).toNat)
  case atStart => exact ⟨0, [], Nat.zero_le _, rfl, Nat.le_refl _, Lib.hid (by simp), RowS.nil _ _, Below.refl _ _⟩
  case round =>
    obtain ⟨k, M, hk, rfl, hMk, hsp, hM, hb⟩ := hrel
    have hend : spG 0 [] (S.drop k) = some [] → TxtV wr _ L ∧ rc = 0 := fun h => by
      have h1 := hsp.out
      rw [h, Option.map_some, List.append_nil] at h1
      rcases hfin.out with ⟨g, _⟩ | ⟨g, g2⟩
      · rw [g] at h1; cases h1
      · rw [g] at h1
        injection h1 with h1
        subst h1
        exact ⟨hM.txt, g2⟩
    by_cases hlt : k < s.size
    · obtain ⟨hkS, hx⟩ := SAny.get_list hS.out k hlt
      obtain ⟨c, hc⟩ : ∃ c, s[k] = c := ⟨_, rfl⟩
      rw [hc] at hx
      have cb := c.toNat_lt
      have hd : S.drop k = c :: S.drop (k + 1) := by rw [List.drop_eq_getElem_cons hkS, hx]
      by_cases h35 : c = 35
      · subst h35
        obtain ⟨hT, rfl⟩ := hend (by rw [hd]; exact sp_hash _)
        clear hend hsp hM hx hd
        go_wp2
        go_ret2
        exact ⟨_, rfl, hT, hb⟩
      · have n35 : ((c.toNat : Int) != 35) = true := by have := Esc.u8_ne (n := 35) (by decide) h35; simpa [bne] using this
        cases hbl : isBl c with
        | true =>
          have HN : Hid (spG 0 [] S = (spG 0 [] (S.drop (k + 1))).map (fun r => M ++ r)) := Lib.hid (by rw [hsp.out, hd, sp_blank _ hbl])
          have HBL := Lib.hid hbl
          clear hend hsp hx hd hbl
          go_wp2_with fail
          refine (bl_to c true _ HBL).mono ?_
          rintro e w2 ⟨rfl, rfl⟩
          go_wp2
          go_roundw
          case rel => exact ⟨k + 1, M, by omega, by go_num, by omega, HN, hM, hb⟩
          case measure => simp [intOf]; omega
        | false =>
          have HBL := Lib.hid hbl
          have HB0 : Hid (isBl (S.getD k 0) = false ∧ S.getD k 0 ≠ 35) := Lib.hid (by
            rw [List.getD_eq_getElem?_getD, List.getElem?_eq_getElem hkS]
            rw [hx] at hbl h35
            exact ⟨hbl, h35⟩)
          clear hend hx hd hbl
          go_wp2_with fail
          refine (bl_to c false _ HBL).mono ?_
          rintro e w2 ⟨rfl, rfl⟩
          go_wp2_with fail
          refine (rd_to s S k _ (by omega) hS hlt HB0).mono ?_
          rintro e w3 ⟨F, ev, ok, rfl, hrd, b3⟩
          have hM3 := hM.below b3
          have hb3 := hb.trans (b3.mono hb.size)
          rcases hrd with ⟨rfl, k2, rfl, hk2, hk3, hF, hsp2⟩ | ⟨rfl, rfl, rfl, hsp2⟩
          · have HN : Hid (spG 0 [] S = (spG 0 [] (S.drop k2)).map (fun r => (M ++ [F]) ++ r)) := Lib.hid (by
              rw [hsp.out, hsp2, Option.map_map]
              congr 1
              funext r
              simp)
            rw [HL.out] at hk3
            have HPL : Hid ((M ++ [F]).length ≤ k2) := Lib.hid (by rw [List.length_append]; simp; omega)
            clear hsp hsp2 hM b3 hb
            go_wp2_with (at_builtin; refine Rws.appS rfl _ _ rfl w.heap.size _ M rfl hM3 _ _ rfl rfl (by omega) hb3.size ?_)
            intro w5 gg gcap r5 g5
            have hb5 := g5.below _ _ (Nat.le_refl _) hb3 hb3.size
            clear g5 hM3 hb3
            go_wp2
            go_roundw
            case rel => exact ⟨k2, M ++ [F], by omega, rfl, HPL.out, HN, r5, hb5⟩
            case measure => simp [intOf]; omega
          · have hres : L = [] ∧ rc = 6 := by
              have h1 := hsp.out
              rw [hsp2, Option.map_none] at h1
              rcases hfin.out with ⟨_, g1, g2⟩ | ⟨g, _⟩
              · exact ⟨g1, g2⟩
              · rw [g] at h1; cases h1
            obtain ⟨rfl, rfl⟩ := hres
            clear hsp hsp2 hM b3 hb hM3
            go_wp2
            go_ret2
            exact ⟨_, rfl, TxtV.none _, hb3⟩
    · obtain ⟨hT, rfl⟩ := hend (by rw [List.drop_eq_nil_of_le (by rw [HL.out]; omega)]; exact sp0_nil)
      clear hend hsp hM
      go_wp2
      go_ret2
      exact ⟨_, rfl, hT, hb⟩
set_option maxHeartbeats 1600000 in
set_option maxRecDepth 100000 in
theorem spl_to (s : ByteArray) (S : List UInt8) (L : List (List UInt8)) (rc : Int) (w : World) (hs : s.size ≤ 1000000) (hS : Hid (s.data.toList = S)) (h : Hid (splitR S = (L, rc))) :
    Calls Try.prog 8 #[.string s] w fun e w' => ∃ v, e = .returned (.tuple #[v, .int .i64 rc]) ∧ TxtV w' v L ∧ Below w.heap.size w w' := by
  have hl : S.length = s.size := by rw [← hS.out]; simp
  rcases split_cases S L rc h.out with ⟨h1, rfl, rfl⟩ | ⟨h1, h2, rfl, rfl⟩ | ⟨h1, h2, h3⟩
  · have hz : 600 < s.size := by omega
    clear h hl h1
    go_enter Try.func8, Try.ntmps8
    go_wp2
    go_ret2
    exact ⟨_, rfl, TxtV.none _, Below.refl _ _⟩
  · have hz : s.size ≤ 600 := by omega
    have hD0 := Lib.contains_iff_indexByte S 0
    have hD1 := Lib.contains_iff_indexByte S 10
    unfold bad0 at h2
    have c0 := Lib.hid (fun W => iby_to s S 0 W hS)
    have c1 := Lib.hid (fun W => iby_to s S 10 W hS)
    obtain ⟨i0, hi0⟩ : ∃ i0, Lib.indexByte S 0 = i0 := ⟨_, rfl⟩
    obtain ⟨i1, hi1⟩ : ∃ i1, Lib.indexByte S 10 = i1 := ⟨_, rfl⟩
    rw [hi0] at hD0 c0
    rw [hi1] at hD1 c1
    clear h hl h1 hi0 hi1
    cases hc0 : S.contains 0 with
    | true =>
      rw [hc0] at hD0
      have n0 : (0 : Int) ≤ i0 := of_decide_eq_true hD0.symm
      clear hD0 hD1 h2 hc0
      go_enter Try.func8, Try.ntmps8
      go_wp2_with fail
      refine (c0.out _).mono ?_
      rintro e w1 ⟨rfl, rfl⟩
      go_wp2
      go_ret2
      exact ⟨_, rfl, TxtV.none _, Below.refl _ _⟩
    | false =>
      rw [hc0] at hD0 h2
      have hc1 : S.contains 10 = true := by simpa using h2
      rw [hc1] at hD1
      have n0 : ¬ (0 : Int) ≤ i0 := of_decide_eq_false hD0.symm
      have n1 : (0 : Int) ≤ i1 := of_decide_eq_true hD1.symm
      clear hD0 hD1 h2 hc0 hc1
      go_enter Try.func8, Try.ntmps8
      go_wp2_with fail
      refine (c0.out _).mono ?_
      rintro e w1 ⟨rfl, rfl⟩
      go_wp2_with fail
      refine (c1.out _).mono ?_
      rintro e w1 ⟨rfl, rfl⟩
      go_wp2
      go_ret2
      exact ⟨_, rfl, TxtV.none _, Below.refl _ _⟩
  · exact spl_loop s S L rc w (by omega) hS (Lib.hid h2) (Lib.hid h3)
end Fds
end Go.Proofs.Ytdehpljpionpfaa
