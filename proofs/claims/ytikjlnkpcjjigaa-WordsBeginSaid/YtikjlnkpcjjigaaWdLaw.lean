/-
  The words' laws: tell, first, the waking call; WordsExact.
-/
import Derived.Test.YtikjlnkpcjjigaaRefWd
namespace Go.Proofs.Ytikjlnkpcjjigaa
open Go.RowKit
namespace Wrd
set_option maxRecDepth 100000 in
theorem tell_to (k : Int) (s : ByteArray) (S : List UInt8) (v c : Int) (w : World) (hk : 1 ≤ k ∧ k ≤ 4) (hs : s.size ≤ 1000) (hS : Hid (s.data.toList = S)) (h : Hid (wdP k S = (v, c))) :
    Calls Try.prog 5 #[.int .i64 k, .string s] w fun e w' => e = .returned (.tuple #[.int .i64 v, .int .i64 c]) ∧ Below w.heap.size w w' := by
  have h4 : k = 1 ∨ k = 2 ∨ k = 3 ∨ k = 4 := by omega
  clear hk
  rcases h4 with rfl | rfl | rfl | rfl
  · go_enter Try.func5, Try.ntmps5
    go_wp2_with fail
    refine (lin_to s S v c _ hs hS h).mono ?_
    rintro e w1 ⟨rfl, hb⟩
    go_wp2
    go_ret2
    exact ⟨rfl, hb⟩
  · go_enter Try.func5, Try.ntmps5
    go_wp2_with fail
    refine (mon_to s S v c _ hs hS h).mono ?_
    rintro e w1 ⟨rfl, hb⟩
    go_wp2
    go_ret2
    exact ⟨rfl, hb⟩
  · go_enter Try.func5, Try.ntmps5
    go_wp2_with fail
    refine (wkd_to s S v c _ hs hS h).mono ?_
    rintro e w1 ⟨rfl, hb⟩
    go_wp2
    go_ret2
    exact ⟨rfl, hb⟩
  · go_enter Try.func5, Try.ntmps5
    go_wp2_with fail
    refine (yea_to s S v c _ hs hS h).mono ?_
    rintro e w1 ⟨rfl, hb⟩
    go_wp2
    go_ret2
    exact ⟨rfl, hb⟩
theorem lfirst_to (k f : Int) (w : World) (h : Hid (fstV k = f)) :
    Calls Try.prog 7 #[.int .i64 k] w fun e w' => e = .returned (.int .i64 f) ∧ w = w' := by
  have H : Hid (k = 3 ∧ f = 0 ∨ (k == 3) = false ∧ f = 1) := Lib.hid (by
    rw [← h.out, fstV]
    by_cases hk : k = 3
    · exact Or.inl ⟨hk, if_pos hk⟩
    · exact Or.inr ⟨beq_eq_false_iff_ne.2 hk, if_neg hk⟩)
  clear h
  rcases H.out with ⟨rfl, rfl⟩ | ⟨h3, rfl⟩
  all_goals
    clear H
    go_enter Try.func7, Try.ntmps7
    go_wp2
    go_ret
    exact ⟨rfl, rfl⟩
theorem wk6_1 : wdP 2 [115, 69, 112] = (9, 0) := by decide +kernel
theorem wk6_2 : wdP 3 [84, 104, 117, 114, 115] = (4, 0) := by decide +kernel
theorem wk6_3 : wdP 4 [109] = (0, 7) := by decide +kernel
theorem wk6_4 : nmT 3 0 = [83, 117, 110, 100, 97, 121] ∧ nmE 3 0 = 0 := by decide +kernel
theorem wk6_5 : wdP 1 [122] = (2, 0) := by decide +kernel
set_option maxHeartbeats 1600000 in
set_option maxRecDepth 100000 in
theorem wakes6_any (w : World) :
    Calls Try.prog 10 #[] w fun e w' => e = .returned (.bool true) ∧ Below w.heap.size w w' := by
  have W1 := Lib.hid wk6_1
  have W2 := Lib.hid wk6_2
  have W3 := Lib.hid wk6_3
  have W4 := Lib.hid wk6_4
  have W5 := Lib.hid wk6_5
  go_enter Try.func10, Try.ntmps10
  go_wp2_with fail
  refine (mon_to _ _ _ _ _ (by decide) (Lib.hid rfl) W1).mono ?_
  rintro e w1 ⟨rfl, hb1⟩
  go_wp2_with fail
  refine (wkd_to _ _ _ _ _ (by decide) (Lib.hid rfl) W2).mono ?_
  rintro e w2 ⟨rfl, hb2⟩
  go_wp2_with fail
  refine (yea_to _ _ _ _ _ (by decide) (Lib.hid rfl) W3).mono ?_
  rintro e w3 ⟨rfl, hb3⟩
  go_wp2_with fail
  refine (name_to _ _ _ _ _ (by decide) W4).mono ?_
  rintro e w4 ⟨rfl, hb4⟩
  go_wp2_with fail
  refine (lin_to _ _ _ _ _ (by decide) (Lib.hid rfl) W5).mono ?_
  rintro e w5 ⟨rfl, hb5⟩
  have h2 := hb1.trans (hb2.mono hb1.size)
  have h3 := h2.trans (hb3.mono h2.size)
  have h4 := h3.trans (hb4.mono h3.size)
  have h5 := h4.trans (hb5.mono h4.size)
  clear h2 h3 h4 hb1 hb2 hb3 hb4 hb5
  go_wp2
  go_ret
  exact ⟨rfl, h5⟩
theorem rgo_bd {m : Int} {S : List UInt8} (xs : List (List UInt8)) : ∀ (i wh : Int), 0 ≤ i → wh < i → rgo m S xs i wh < i + xs.length := by
  induction xs with
  | nil =>
    intro i wh h0 h
    rw [rgo]
    split <;> simp <;> omega
  | cons x xs ih =>
    intro i wh h0 h
    rw [rgo]
    have e : ((x :: xs).length : Int) = xs.length + 1 := by simp
    rw [e]
    split
    · split
      · omega
      · split
        · omega
        · have := ih (i + 1) i (by omega) (by omega); omega
    · have := ih (i + 1) wh (by omega) (by omega); omega
theorem rwP_bd {k : Int} (hk : 1 ≤ k ∧ k ≤ 4) (S : List UInt8) : rwP k S ≤ 12 := by
  have h1 := rgo_bd (m := lstV k) (S := S) (wds k) 0 (-1) (by omega) (by omega)
  have h2 := (WK_of hk).1.short.1
  unfold rwP
  omega
set_option maxHeartbeats 3200000 in
set_option maxRecDepth 100000 in
theorem wexact_any (s : ByteArray) (k i : Int) (w : World) (i1 : -9223372036854775808 ≤ i) (i2 : i ≤ 9223372036854775807) :
    Calls Try.prog 3 #[.string s, .int .i64 k, .int .i64 i] w fun e w' => e = .returned (.bool true) ∧ Below w.heap.size w w' := by
  by_cases hbig : 60 < s.size
  · go_enter Try.func3, Try.ntmps3
    go_wp2
    go_ret
    exact ⟨rfl, Below.refl _ _⟩
  · have hs : s.size ≤ 60 := by omega
    have HS : Hid (s.size ≤ 1000) := Lib.hid (by omega)
    clear hbig
    obtain ⟨S, hS⟩ : ∃ S, s.data.toList = S := ⟨_, rfl⟩
    have HSS := Lib.hid hS
    clear hS
    go_enter Try.func3, Try.ntmps3
    go_wp2_with fail
    go_loopw [7] (fun kk wr => ∃ j : Nat, 1 ≤ j ∧ j ≤ 5 ∧ kk = .int .i64 j ∧ Hid (Below w.heap.size w wr)) (fun kk _ => 5 - (intOf kk).toNat)
    case atStart => exact ⟨1, by omega, by omega, rfl, Lib.hid (Below.refl _ _)⟩
    case round =>
      obtain ⟨j, hj1, hj5, rfl, HB⟩ := hrel
      by_cases hlt : j ≤ 4
      · have hk : 1 ≤ (j : Int) ∧ (j : Int) ≤ 4 := by omega
        have HK := Lib.hid hk
        have hbd := rwP_bd hk S
        have hw := rw_wd hk S
        have hf := fstV_bd (j : Int)
        obtain ⟨v, hv⟩ : ∃ v, rwP (j : Int) S = v := ⟨_, rfl⟩
        obtain ⟨f, hf1⟩ : ∃ v, fstV (j : Int) = v := ⟨_, rfl⟩
        have HV := Lib.hid hv
        have HF := Lib.hid hf1
        rw [hv] at hbd hw
        rw [hf1] at hf hw
        clear hk hv hf1
        rcases hw with ⟨rfl, hw⟩ | ⟨v0, hw⟩
        · have HW := Lib.hid hw
          clear hw
          go_wp2_with fail
          refine (tell_to _ s S 0 7 wr HK.out HS.out HSS HW).mono ?_
          rintro e w1 ⟨rfl, hb1⟩
          have HB1 := Lib.hid (HB.out.trans (hb1.mono HB.out.size))
          clear hb1
          go_wp2_with fail
          refine (rword_to _ s S (-1) w1 HK.out HS.out HSS HV).mono ?_
          rintro e w2 ⟨rfl, hb2⟩
          have HB2 := Lib.hid (HB1.out.trans (hb2.mono HB1.out.size))
          clear hb2
          go_wp2
          go_roundw
          case rel => exact ⟨j + 1, by omega, by omega, by go_num, HB2⟩
          case measure => simp [intOf]; omega
        · have HW : Hid (wdP (j : Int) S = (v + f, 0)) := Lib.hid (by rw [hw, Int.add_comm])
          clear hw
          go_wp2_with fail
          refine (tell_to _ s S (v + f) 0 wr HK.out HS.out HSS HW).mono ?_
          rintro e w1 ⟨rfl, hb1⟩
          have HB1 := Lib.hid (HB.out.trans (hb1.mono HB.out.size))
          clear hb1
          go_wp2_with fail
          refine (rword_to _ s S v w1 HK.out HS.out HSS HV).mono ?_
          rintro e w2 ⟨rfl, hb2⟩
          have HB2 := Lib.hid (HB1.out.trans (hb2.mono HB1.out.size))
          clear hb2
          go_wp2_with fail
          refine (lfirst_to _ f w2 HF).mono ?_
          rintro e w3 ⟨rfl, rfl⟩
          go_wp2
          go_roundw
          case rel => exact ⟨j + 1, by omega, by omega, by go_num, HB2⟩
          case measure => simp [intOf]; omega
      · obtain rfl : j = 5 := by omega
        clear hj1 hj5 hlt
        have HWK := Lib.hid (WK_any k)
        have HT : Hid (nmT k i = if fstV k ≤ i ∧ i - fstV k < ((wds k).length : Int) then ((wds k)[(i - fstV k).toNat]?).getD [] else []) := Lib.hid rfl
        have HE : Hid (nmE k i = if fstV k ≤ i ∧ i - fstV k < ((wds k).length : Int) then 0 else 1) := Lib.hid rfl
        have hf := fstV_bd k
        obtain ⟨f, hf1⟩ : ∃ v, fstV k = v := ⟨_, rfl⟩
        have HF := Lib.hid hf1
        rw [hf1] at hf HT HE
        obtain ⟨L, hL⟩ : ∃ v, wds k = v := ⟨_, rfl⟩
        rw [hL] at HWK HT HE
        obtain ⟨n, hn⟩ : ∃ v, L.length = v := ⟨_, rfl⟩
        rw [hn] at HWK HT HE
        have HN := Lib.hid hn
        have hn12 := HWK.out.short.1
        obtain ⟨T, hT⟩ : ∃ v, nmT k i = v := ⟨_, rfl⟩
        obtain ⟨c, hc⟩ : ∃ v, nmE k i = v := ⟨_, rfl⟩
        have HNM := Lib.hid (And.intro hT hc)
        rw [hT] at HT
        rw [hc] at HE
        clear hf1 hL hn hT hc
        by_cases hg : f ≤ i ∧ i - f < n
        · obtain ⟨g1, g2⟩ := hg
          have E : c = 0 := by rw [HE.out, if_pos ⟨g1, g2⟩]
          subst E
          obtain ⟨q, hq⟩ : ∃ q : Nat, i = f + q := ⟨(i - f).toNat, by omega⟩
          subst hq
          have hqn : q < n := by omega
          have HQ : Hid (q < L.length) := Lib.hid (by rw [HN.out]; exact hqn)
          have HTT : Hid (L[q]'HQ.out = T) := Lib.hid (by
            rw [HT.out, if_pos ⟨g1, g2⟩, show (f + (q : Int) - f).toNat = q by omega, List.getElem?_eq_getElem HQ.out]; rfl)
          have hq2 : (f + (q : Int) - f).toNat = q := by omega
          have HQ2 := Lib.hid hq2
          clear HT HE g1 g2 hq2
          go_wp2_with fail
          refine (name_to k _ T 0 wr (by omega) HNM).mono ?_
          rintro e w1 ⟨rfl, hb1⟩
          have HB1 := Lib.hid (HB.out.trans (hb1.mono HB.out.size))
          clear hb1
          go_wp2_with fail
          refine (rwordsg_to k n L w1 HWK (by omega)).mono ?_
          rintro e w2 ⟨g, rfl, hb2, hg1, hg2, hcell⟩
          have HB2 := Lib.hid (HB1.out.trans (hb2.mono HB1.out.size))
          have cw : w2.cell? ⟨g, q, none⟩ = some (.string ⟨T.toArray⟩) := by
            rw [← HTT.out]
            exact hcell.out q HQ.out
          clear hb2
          have n0 : ((n : Int) == 0) = false := beq_eq_false_iff_ne.2 (by omega)
          have hq2 := HQ2.out
          go_wp2_with fail
          refine (lfirst_to _ f _ HF).mono ?_
          rintro e w3 ⟨rfl, rfl⟩
          go_wp2_with fail
          refine (lfirst_to _ f _ HF).mono ?_
          rintro e w3 ⟨rfl, rfl⟩
          go_wp2_with fail
          refine (lfirst_to _ f _ HF).mono ?_
          rintro e w3 ⟨rfl, rfl⟩
          go_wp2_with fail
          refine (wakes6_any _).mono ?_
          rintro e w3 ⟨rfl, hb3⟩
          go_wp2
          go_ret
          exact ⟨rfl, HB2.out.trans (hb3.mono HB2.out.size)⟩
        · have E : c = 1 ∧ T = [] := ⟨by rw [HE.out, if_neg hg], by rw [HT.out, if_neg hg]⟩
          obtain ⟨rfl, rfl⟩ := E
          clear HT HE
          go_wp2_with fail
          refine (name_to k _ [] 1 wr (by omega) HNM).mono ?_
          rintro e w1 ⟨rfl, hb1⟩
          have HB1 := Lib.hid (HB.out.trans (hb1.mono HB.out.size))
          clear hb1
          go_wp2_with fail
          refine (rwords_to k n L w1 HWK).mono ?_
          rintro e w2 ⟨A, rfl, hb2, _⟩
          have HB2 := Lib.hid (HB1.out.trans (hb2.mono HB1.out.size))
          clear hb2
          by_cases hn0 : n = 0
          · subst hn0
            go_wp2_with fail
            refine (lfirst_to _ f _ HF).mono ?_
            rintro e w3 ⟨rfl, rfl⟩
            go_wp2_with fail
            refine (wakes6_any _).mono ?_
            rintro e w3 ⟨rfl, hb3⟩
            go_wp2
            go_ret
            exact ⟨rfl, HB2.out.trans (hb3.mono HB2.out.size)⟩
          · have n0 : ((n : Int) == 0) = false := beq_eq_false_iff_ne.2 (by omega)
            by_cases hif : i < f
            · clear hg
              go_wp2_with fail
              refine (lfirst_to _ f _ HF).mono ?_
              rintro e w3 ⟨rfl, rfl⟩
              go_wp2_with fail
              refine (lfirst_to _ f _ HF).mono ?_
              rintro e w3 ⟨rfl, rfl⟩
              go_wp2_with fail
              refine (wakes6_any _).mono ?_
              rintro e w3 ⟨rfl, hb3⟩
              go_wp2
              go_ret
              exact ⟨rfl, HB2.out.trans (hb3.mono HB2.out.size)⟩
            · have hif' : f ≤ i := by omega
              have hin : (n : Int) ≤ i - f := by omega
              clear hg hif
              go_wp2_with fail
              refine (lfirst_to _ f _ HF).mono ?_
              rintro e w3 ⟨rfl, rfl⟩
              go_wp2_with fail
              refine (lfirst_to _ f _ HF).mono ?_
              rintro e w3 ⟨rfl, rfl⟩
              go_wp2_with fail
              refine (lfirst_to _ f _ HF).mono ?_
              rintro e w3 ⟨rfl, rfl⟩
              go_wp2_with fail
              refine (wakes6_any _).mono ?_
              rintro e w3 ⟨rfl, hb3⟩
              go_wp2
              go_ret
              exact ⟨rfl, HB2.out.trans (hb3.mono HB2.out.size)⟩
end Wrd
end Go.Proofs.Ytikjlnkpcjjigaa
