/-
  Package words: a lexicon's find.
-/
import Derived.Test.YtpcnpacllkiieaaGreatDoorWords2
import Derived.Test.YtpcnpacllkiieaaGreatDoorShelf
namespace Go.Proofs.YtpcnpacllkiieaaGreatDoor
open Go.RowKit
namespace Wrd
def fgo (f m : Int) (S : List UInt8) : List (List UInt8) → Int → Int → Int → Int × Int
  | [], _, fv, cv => if cv = 1 ∧ m ≤ (S.length : Int) then (fv, 0) else (0, 7)
  | x :: xs, i, fv, cv => if smL x = S then (f + i, 0) else if S.isPrefixOf (smL x) then fgo f m S xs (i + 1) (f + i) (cv + 1) else fgo f m S xs (i + 1) fv cv
theorem fgo_nil {f m : Int} {S : List UInt8} {i fv cv : Int} {R : Int × Int} (h : fgo f m S [] i fv cv = R) : R = if cv = 1 ∧ m ≤ (S.length : Int) then (fv, 0) else (0, 7) := h.symm
theorem fgo_eq {f m : Int} {S x : List UInt8} {xs : List (List UInt8)} {i fv cv : Int} {R : Int × Int} (h : fgo f m S (x :: xs) i fv cv = R) (e : smL x = S) : R = (f + i, 0) := by
  rw [← h, fgo, if_pos e]
theorem fgo_pre {f m : Int} {S x : List UInt8} {xs : List (List UInt8)} {i fv cv : Int} {R : Int × Int} (h : fgo f m S (x :: xs) i fv cv = R) (e : ¬ smL x = S) (p : S.isPrefixOf (smL x) = true) : fgo f m S xs (i + 1) (f + i) (cv + 1) = R := by
  rw [← h, fgo, if_neg e, if_pos p]
theorem fgo_no {f m : Int} {S x : List UInt8} {xs : List (List UInt8)} {i fv cv : Int} {R : Int × Int} (h : fgo f m S (x :: xs) i fv cv = R) (e : ¬ smL x = S) (p : S.isPrefixOf (smL x) = false) : fgo f m S xs (i + 1) fv cv = R := by
  rw [← h, fgo, if_neg e, if_neg (by simp [p])]
theorem hasPre_to (s p : ByteArray) (S P : List UInt8) (b : Bool) (w : World) (hs : Hid (s.data.toList = S)) (hp : Hid (p.data.toList = P)) (hb : Hid (P.isPrefixOf S = b)) :
    Calls Tryz.prog 136 #[.string s, .string p] w fun e w' => e = .returned (.bool b) ∧ w = w' :=
  (Tryz.strings_HasPrefix s p w).mono fun _ _ ⟨he, hw⟩ => ⟨by rw [he, hs.out, hp.out]; show _ = Ending.returned (.bool b); rw [← hb.out]; rfl, hw.symm⟩
theorem WK.short {k : Int} {n : Nat} {L : List (List UInt8)} (h : WK k n L) : n ≤ 12 ∧ ∀ x ∈ L, x.length ≤ 9 := by
  rcases h with ⟨_, rfl, rfl⟩ | ⟨_, rfl, rfl⟩ | ⟨_, rfl, rfl⟩ | ⟨_, rfl, rfl⟩ | ⟨_, _, _, _, rfl, rfl⟩ <;> exact ⟨by decide, by decide⟩
/-- list of a fresh lexicon that has words. -/
def LisG (b n : Nat) (k : Int) (L : List (List UInt8)) (w : World) (e : Ending) (w' : World) : Prop := ∃ g, e = .returned (.slice (some ⟨g, 0, none⟩) n n) ∧ Laid b k (some ⟨g, 0, none⟩) n L w' ∧ Below b w w' ∧ w.heap.size < w'.heap.size
theorem list0g (b n : Nat) (k : Int) (L : List (List UInt8)) (w : World) (h : Hid (WK k n L)) (hn : 0 < n) (hf : Fresh b k w) :
    Calls Tryz.prog 92 #[.pointer (some ⟨b, 0, none⟩)] w (LisG b n k L w) :=
  (list0 b n k L w h hf).mono fun _ _ ⟨A, he, hl, hb, hz⟩ => by
    obtain ⟨g, hA, _⟩ := hl.2.2.2.2 0 (by rw [h.out.len]; exact hn)
    subst hA
    exact ⟨g, he, hl, hb, hz⟩
theorem ret_ii {a a' c c' : Int} (h : a = a') (h' : c = c') : Ending.returned (.tuple #[.int .i64 a, .int .i64 c]) = .returned (.tuple #[.int .i64 a', .int .i64 c']) := by rw [h, h']
theorem fstV_bd (k : Int) : 0 ≤ fstV k ∧ fstV k ≤ 1 := by unfold fstV; split <;> omega
set_option maxHeartbeats 1600000 in
set_option maxRecDepth 100000 in
theorem lfind_to (s : ByteArray) (S : List UInt8) (b n : Nat) (k f m v c : Int) (L : List (List UInt8)) (w : World) (hs : s.size ≤ 1000) (hS : Hid (s.data.toList = S)) (h : Hid (WK k n L)) (hn : 0 < n) (hf : Fresh b k w)
    (h1 : Hid (fstV k = f)) (h2 : Hid (lstV k = m)) (hR : Hid (fgo f m (smL S) L 0 0 0 = (v, c))) :
    Calls Tryz.prog 145 #[.pointer (some ⟨b, 0, none⟩), .string s] w fun e w' => e = .returned (.tuple #[.int .i64 v, .int .i64 c]) ∧ Below b w w' := by
  have HF := Lib.hid hf
  have hbw := hf.1
  have hf1 : 0 ≤ f ∧ f ≤ 1 := by rw [← h1.out]; exact fstV_bd k
  have hn12 := h.out.short.1
  have HL9 := Lib.hid h.out.short.2
  have HLn := Lib.hid h.out.len
  obtain ⟨T, hT⟩ : ∃ T, smL S = T := ⟨_, rfl⟩
  rw [hT] at hR
  have HT := Lib.hid hT
  have hTl : T.length ≤ 1000 := by rw [← hT, smL, List.length_map, ← hS.out]; simpa using hs
  clear hf hT
  go_enter Tryz.func145, Tryz.ntmps145
  go_wp2_with fail
  refine (small_any s S T w hs hS HT).mono ?_
  rintro e w1 ⟨rfl, hb1⟩
  have HF1 := Lib.hid (HF.out.below hb1)
  go_wp2_with fail
  refine (list0g b n k L w1 h hn HF1.out).mono ?_
  rintro e w2 ⟨g, rfl, hl, hb2, hz2⟩
  have HL := Lib.hid hl
  have hB2 : Below b w w2 := (hb1.mono (by omega)).trans hb2
  clear hl hb1 hb2
  go_wp2_with fail
  go_loopw [6, 7, 15] (fun fd ct i wr => ∃ (j : Nat) (fv cv : Int), j ≤ n ∧ i = .int .i64 j ∧ fd = .int .i64 fv ∧ ct = .int .i64 cv ∧ 0 ≤ cv ∧ cv ≤ j ∧ Hid (fgo f m T (L.drop j) j fv cv = (v, c)) ∧ Below w2.heap.size w2 wr) (fun _ _ i _ => n - (intOf i).toNat)
  case atStart => exact ⟨0, 0, 0, Nat.zero_le _, rfl, rfl, rfl, by omega, by omega, hR, Below.refl _ _⟩
  case round =>
    obtain ⟨j, fv, cv, hj, rfl, rfl, rfl, hc0, hc1, HR, hb⟩ := hrel
    have HLr := Lib.hid (HL.out.below hb)
    have ck := HLr.out.2.1
    by_cases hlt : j < n
    · have hjl : j < L.length := by rw [HLn.out]; exact hlt
      obtain ⟨X, hX⟩ : ∃ X, L[j] = X := ⟨_, rfl⟩
      have hX9 : X.length ≤ 9 := HL9.out X (by rw [← hX]; exact List.getElem_mem _)
      have HD : Hid (fgo f m T (X :: L.drop (j + 1)) j fv cv = (v, c)) := Lib.hid (by rw [← hX, ← List.drop_eq_getElem_cons hjl]; exact HR.out)
      have cw : wr.cell? ⟨g, j, none⟩ = some (.string ⟨X.toArray⟩) := by
        obtain ⟨g', e1, _, _, h4⟩ := HLr.out.2.2.2.2 j hjl
        injection e1 with e1
        injection e1 with e1
        subst e1
        rw [h4, hX]
      clear HR hX
      obtain ⟨M, hM⟩ : ∃ M, smL X = M := ⟨_, rfl⟩
      have HM := Lib.hid hM
      have hMl : M.length ≤ 9 := by rw [← hM, smL, List.length_map]; exact hX9
      clear hM
      go_wp2_with fail
      refine (small_any ⟨X.toArray⟩ X M _ (by show X.toArray.size ≤ 1000; simp; omega) (Lib.hid (by simp)) HM).mono ?_
      rintro e w3 ⟨rfl, hb3⟩
      have hB3 : Below w2.heap.size w2 w3 := hb.trans (hb3.mono hb.size)
      have ck3 : w3.cell? ⟨b, 0, none⟩ = some (.int .i64 k) := (hb3.cell (p := ⟨b, 0, none⟩) HLr.out.1).trans ck
      by_cases hMT : M = T
      · have HV := Lib.hid (fgo_eq HD.out (HM.out.trans hMT))
        subst hMT
        go_wp2_with fail
        refine (first_to b k f w3 ck3 h1).mono ?_
        rintro e w4 ⟨rfl, rfl⟩
        have E : f + (j : Int) = v ∧ 0 = c := by have := HV.out; simp at this; omega
        have HE := Lib.hid E
        clear E
        go_wp2
        go_ret2
        refine ⟨?_, hB2.trans (hB3.mono (by have := HL.out.1; omega))⟩
        first | exact ret_ii HE.out.1 HE.out.2 | exact ret_ii rfl HE.out.2 | exact ret_ii HE.out.1 rfl | exact ret_ii rfl rfl
      · have hMT' : (M == T) = false := by simpa using hMT
        have HN := Lib.hid hMT
        clear hMT
        cases hP : T.isPrefixOf M with
        | true =>
          have HV := Lib.hid (fgo_pre HD.out (by rw [HM.out]; exact HN.out) (by rw [HM.out]; exact hP))
          have HP := Lib.hid hP
          clear hP
          go_wp2_with fail
          refine (hasPre_to _ _ M T true w3 (Lib.hid (by simp)) (Lib.hid (by simp)) HP).mono ?_
          rintro e w4 ⟨rfl, rfl⟩
          go_wp2_with fail
          refine (first_to b k f w3 ck3 h1).mono ?_
          rintro e w4 ⟨rfl, rfl⟩
          go_wp2
          go_roundw
          case rel => exact ⟨j + 1, f + j, cv + 1, by omega, by go_num, rfl, rfl, by omega, by omega, HV, hB3⟩
          case measure => simp [intOf]; omega
        | false =>
          have HV := Lib.hid (fgo_no HD.out (by rw [HM.out]; exact HN.out) (by rw [HM.out]; exact hP))
          have HP := Lib.hid hP
          clear hP
          go_wp2_with fail
          refine (hasPre_to _ _ M T false w3 (Lib.hid (by simp)) (Lib.hid (by simp)) HP).mono ?_
          rintro e w4 ⟨rfl, rfl⟩
          go_wp2
          go_roundw
          case rel => exact ⟨j + 1, fv, cv, by omega, by go_num, rfl, rfl, by omega, by omega, HV, hB3⟩
          case measure => simp [intOf]; omega
    · obtain rfl : j = n := by omega
      have hr0 : fgo f m T [] (j : Int) fv cv = (v, c) := by have := HR.out; rwa [List.drop_of_length_le (Nat.le_of_eq HLn.out)] at this
      have HE := Lib.hid (fgo_nil hr0)
      clear hr0
      clear HR
      have hbB : Below b w wr := hB2.trans (hb.mono (by have := HL.out.1; omega))
      by_cases h1c : cv = 1
      · subst h1c
        by_cases hm : m ≤ (T.length : Int)
        · have E : v = fv ∧ c = 0 := by have := HE.out; rw [if_pos ⟨rfl, hm⟩] at this; simpa using this
          obtain ⟨rfl, rfl⟩ := E
          go_wp2_with fail
          refine (least_to b k m _ ck h2).mono ?_
          rintro e w4 ⟨rfl, rfl⟩
          go_wp2
          go_ret2
          exact ⟨rfl, hbB⟩
        · have E : v = 0 ∧ c = 7 := by have := HE.out; rw [if_neg (by omega)] at this; simpa using this
          obtain ⟨rfl, rfl⟩ := E
          have hm' : (T.length : Int) < m := by omega
          clear hm
          go_wp2_with fail
          refine (least_to b k m _ ck h2).mono ?_
          rintro e w4 ⟨rfl, rfl⟩
          go_wp2
          go_ret2
          exact ⟨rfl, hbB⟩
      · have E : v = 0 ∧ c = 7 := by have := HE.out; rw [if_neg (by omega)] at this; simpa using this
        obtain ⟨rfl, rfl⟩ := E
        have hc' : (cv == 1) = false := beq_eq_false_iff_ne.2 h1c
        have hc2 : (cv != 1) = true := by simp [bne, hc']
        go_wp2
        go_ret2
        exact ⟨rfl, hbB⟩
end Wrd
end Go.Proofs.YtpcnpacllkiieaaGreatDoor
