/-
  Several texts in one (Words3, Words4, Num2, Num3, Pow).
-/
import Derived.Test.YthefgagmjamdkaaGreatDoorBdB
import Derived.Test.YthefgagmjamdkaaGreatDoorShelf
import Derived.Test.YthefgagmjamdkaaGreatDoorBdA
import Derived.Lib.AppendIntMem
import Derived.Lib.Repeat
import Derived.Outline
/-
  Package words: a lexicon's find.
-/
namespace Go.Proofs.YthefgagmjamdkaaGreatDoor
open Go.RowKit
namespace Wrd
def fgo (f m : Int) (S : List UInt8) : List (List UInt8) → Int → Int → Int → Int × Int
  | [], _, fv, cv => if cv = 1 ∧ m ≤ (S.length : Int) then (fv, 0) else (0, 7)
  | x :: xs, i, fv, cv => if smL x = S then (f + i, 0) else if S.isPrefixOf (smL x) then fgo f m S xs (i + 1) (f + i) (cv + 1) else fgo f m S xs (i + 1) fv cv
theorem fgo_nil {f m : Int} {S : List UInt8} {i fv cv : Int} {R : Int × Int} (h : fgo f m S [] i fv cv = R) : R = if cv = 1 ∧ m ≤ (S.length : Int) then (fv, 0) else (0, 7) := h.symm
theorem fgo_eq {f m : Int} {S x : List UInt8} {xs : List (List UInt8)} {i fv cv : Int} {R : Int × Int} (h : fgo f m S (x :: xs) i fv cv = R) (e : smL x = S) : R = (f + i, 0) := by
  rw [← h, fgo, if_pos e]
theorem fgo_pre {f m : Int} {S x : List UInt8} {xs : List (List UInt8)} {i fv cv : Int} {R : Int × Int} (h : fgo f m S (x :: xs) i fv cv = R) (e : ¬ smL x = S) (p : S.isPrefixOf (smL x) = true) : fgo f m S xs (i + 1) (f + i) (cv + 1) = R := by
  rw [← h, fgo, if_neg e, if_pos p]
theorem fgo_no {f m : Int} {S x : List UInt8} {xs : List (List UInt8)} {i fv cv : Int} {R : Int × Int} (h : fgo f m S (x :: xs) i fv cv = R) (e : ¬ smL x = S) (p : S.isPrefixOf (smL x) = false) : fgo f m S xs (i + 1) fv cv = R := by
  rw [← h, fgo, if_neg e, if_neg (by simp [p])]
theorem hasPre_to (s p : ByteArray) (S P : List UInt8) (b : Bool) (w : World) (hs : Hid (s.data.toList = S)) (hp : Hid (p.data.toList = P)) (hb : Hid (P.isPrefixOf S = b)) :
    Calls Tryz.prog 108 #[.string s, .string p] w fun e w' => e = .returned (.bool b) ∧ w = w' :=
  (Tryz.strings_HasPrefix s p w).mono fun _ _ ⟨he, hw⟩ => ⟨by rw [he, hs.out, hp.out]; show _ = Ending.returned (.bool b); rw [← hb.out]; rfl, hw.symm⟩
theorem WK.short {k : Int} {n : Nat} {L : List (List UInt8)} (h : WK k n L) : n ≤ 12 ∧ ∀ x ∈ L, x.length ≤ 9 := by
  rcases h with ⟨_, rfl, rfl⟩ | ⟨_, rfl, rfl⟩ | ⟨_, rfl, rfl⟩ | ⟨_, rfl, rfl⟩ | ⟨_, _, _, _, rfl, rfl⟩ <;> exact ⟨by decide, by decide⟩
/-- list of a fresh lexicon that has words. -/
def LisG (b n : Nat) (k : Int) (L : List (List UInt8)) (w : World) (e : Ending) (w' : World) : Prop := ∃ g, e = .returned (.slice (some ⟨g, 0, none⟩) n n) ∧ Laid b k (some ⟨g, 0, none⟩) n L w' ∧ Below b w w' ∧ w.heap.size < w'.heap.size
theorem list0g (b n : Nat) (k : Int) (L : List (List UInt8)) (w : World) (h : Hid (WK k n L)) (hn : 0 < n) (hf : Fresh b k w) :
    Calls Tryz.prog 86 #[.pointer (some ⟨b, 0, none⟩)] w (LisG b n k L w) :=
  (list0 b n k L w h hf).mono fun _ _ ⟨A, he, hl, hb, hz⟩ => by
    obtain ⟨g, hA, _⟩ := hl.2.2.2.2 0 (by rw [h.out.len]; exact hn)
    subst hA
    exact ⟨g, he, hl, hb, hz⟩
theorem ret_ii {a a' c c' : Int} (h : a = a') (h' : c = c') : Ending.returned (.tuple #[.int .i64 a, .int .i64 c]) = .returned (.tuple #[.int .i64 a', .int .i64 c']) := by rw [h, h']
theorem fstV_bd (k : Int) : 0 ≤ fstV k ∧ fstV k ≤ 1 := by unfold fstV; split <;> omega
set_option maxHeartbeats 1600000 in
set_option maxRecDepth 100000 in
theorem lfind_to (s : ByteArray) (S : List UInt8) (b n : Nat) (k f m v c : Int) (L : List (List UInt8)) (w : World) (hs : s.size ≤ 1000) (hS : Hid (s.data.toList = S)) (h : Hid (WK k n L)) (hn : 0 < n) (hf : Fresh b k w)
    (h1 : Hid (fstV k = f)) (h2 : Hid (lstV k = m)) (hR : Hid (fgo f m (smL S) L 0 0 0 = (v, c))) :
    Calls Tryz.prog 122 #[.pointer (some ⟨b, 0, none⟩), .string s] w fun e w' => e = .returned (.tuple #[.int .i64 v, .int .i64 c]) ∧ Below b w w' := by
  have HF := Lib.hid hf
  have hbw := hf.1
  have hf1 : 0 ≤ f ∧ f ≤ 1 := by rw [← h1.out]; exact fstV_bd k
  have hn12 := h.out.short.1
  have HL9 := Lib.hid h.out.short.2
  have HLn := Lib.hid h.out.len
  obtain ⟨T, hT⟩ : ∃ T, smL S = T := ⟨_, rfl⟩
  rw [hT] at hR
  have HT := Lib.hid hT
  have hTl : T.length ≤ 1000 := by rw [← hT, smL, List.length_map, ← hS.out]; simpa using hs
  clear hf hT
  go_enter Tryz.func122, Tryz.ntmps122
  go_wp2_with fail
  refine (small_any s S T w hs hS HT).mono ?_
  rintro e w1 ⟨rfl, hb1⟩
  have HF1 := Lib.hid (HF.out.below hb1)
  go_wp2_with fail
  refine (list0g b n k L w1 h hn HF1.out).mono ?_
  rintro e w2 ⟨g, rfl, hl, hb2, hz2⟩
  have HL := Lib.hid hl
  have hB2 : Below b w w2 := (hb1.mono (by omega)).trans hb2
  clear hl hb1 hb2
  go_wp2_with fail
  go_loopw [6, 7, 15] (fun fd ct i wr => ∃ (j : Nat) (fv cv : Int), j ≤ n ∧ i = .int .i64 j ∧ fd = .int .i64 fv ∧ ct = .int .i64 cv ∧ 0 ≤ cv ∧ cv ≤ j ∧ Hid (fgo f m T (L.drop j) j fv cv = (v, c)) ∧ Below w2.heap.size w2 wr) (fun _ _ i _ => n - (intOf i).toNat)
  case atStart => exact ⟨0, 0, 0, Nat.zero_le _, rfl, rfl, rfl, by omega, by omega, hR, Below.refl _ _⟩
  case round =>
    obtain ⟨j, fv, cv, hj, rfl, rfl, rfl, hc0, hc1, HR, hb⟩ := hrel
    have HLr := Lib.hid (HL.out.below hb)
    have ck := HLr.out.2.1
    by_cases hlt : j < n
    · have hjl : j < L.length := by rw [HLn.out]; exact hlt
      obtain ⟨X, hX⟩ : ∃ X, L[j] = X := ⟨_, rfl⟩
      have hX9 : X.length ≤ 9 := HL9.out X (by rw [← hX]; exact List.getElem_mem _)
      have HD : Hid (fgo f m T (X :: L.drop (j + 1)) j fv cv = (v, c)) := Lib.hid (by rw [← hX, ← List.drop_eq_getElem_cons hjl]; exact HR.out)
      have cw : wr.cell? ⟨g, j, none⟩ = some (.string ⟨X.toArray⟩) := by
        obtain ⟨g', e1, _, _, h4⟩ := HLr.out.2.2.2.2 j hjl
        injection e1 with e1
        injection e1 with e1
        subst e1
        rw [h4, hX]
      clear HR hX
      obtain ⟨M, hM⟩ : ∃ M, smL X = M := ⟨_, rfl⟩
      have HM := Lib.hid hM
      have hMl : M.length ≤ 9 := by rw [← hM, smL, List.length_map]; exact hX9
      clear hM
      go_wp2_with fail
      refine (small_any ⟨X.toArray⟩ X M _ (by show X.toArray.size ≤ 1000; simp; omega) (Lib.hid (by simp)) HM).mono ?_
      rintro e w3 ⟨rfl, hb3⟩
      have hB3 : Below w2.heap.size w2 w3 := hb.trans (hb3.mono hb.size)
      have ck3 : w3.cell? ⟨b, 0, none⟩ = some (.int .i64 k) := (hb3.cell (p := ⟨b, 0, none⟩) HLr.out.1).trans ck
      by_cases hMT : M = T
      · have HV := Lib.hid (fgo_eq HD.out (HM.out.trans hMT))
        subst hMT
        go_wp2_with fail
        refine (first_to b k f w3 ck3 h1).mono ?_
        rintro e w4 ⟨rfl, rfl⟩
        have E : f + (j : Int) = v ∧ 0 = c := by have := HV.out; simp at this; omega
        have HE := Lib.hid E
        clear E
        go_wp2
        go_ret2
        refine ⟨?_, hB2.trans (hB3.mono (by have := HL.out.1; omega))⟩
        first | exact ret_ii HE.out.1 HE.out.2 | exact ret_ii rfl HE.out.2 | exact ret_ii HE.out.1 rfl | exact ret_ii rfl rfl
      · have hMT' : (M == T) = false := by simpa using hMT
        have HN := Lib.hid hMT
        clear hMT
        cases hP : T.isPrefixOf M with
        | true =>
          have HV := Lib.hid (fgo_pre HD.out (by rw [HM.out]; exact HN.out) (by rw [HM.out]; exact hP))
          have HP := Lib.hid hP
          clear hP
          go_wp2_with fail
          refine (hasPre_to _ _ M T true w3 (Lib.hid (by simp)) (Lib.hid (by simp)) HP).mono ?_
          rintro e w4 ⟨rfl, rfl⟩
          go_wp2_with fail
          refine (first_to b k f w3 ck3 h1).mono ?_
          rintro e w4 ⟨rfl, rfl⟩
          go_wp2
          go_roundw
          case rel => exact ⟨j + 1, f + j, cv + 1, by omega, by go_num, rfl, rfl, by omega, by omega, HV, hB3⟩
          case measure => simp [intOf]; omega
        | false =>
          have HV := Lib.hid (fgo_no HD.out (by rw [HM.out]; exact HN.out) (by rw [HM.out]; exact hP))
          have HP := Lib.hid hP
          clear hP
          go_wp2_with fail
          refine (hasPre_to _ _ M T false w3 (Lib.hid (by simp)) (Lib.hid (by simp)) HP).mono ?_
          rintro e w4 ⟨rfl, rfl⟩
          go_wp2
          go_roundw
          case rel => exact ⟨j + 1, fv, cv, by omega, by go_num, rfl, rfl, by omega, by omega, HV, hB3⟩
          case measure => simp [intOf]; omega
    · obtain rfl : j = n := by omega
      have hr0 : fgo f m T [] (j : Int) fv cv = (v, c) := by have := HR.out; rwa [List.drop_of_length_le (Nat.le_of_eq HLn.out)] at this
      have HE := Lib.hid (fgo_nil hr0)
      clear hr0
      clear HR
      have hbB : Below b w wr := hB2.trans (hb.mono (by have := HL.out.1; omega))
      by_cases h1c : cv = 1
      · subst h1c
        by_cases hm : m ≤ (T.length : Int)
        · have E : v = fv ∧ c = 0 := by have := HE.out; rw [if_pos ⟨rfl, hm⟩] at this; simpa using this
          obtain ⟨rfl, rfl⟩ := E
          go_wp2_with fail
          refine (least_to b k m _ ck h2).mono ?_
          rintro e w4 ⟨rfl, rfl⟩
          go_wp2
          go_ret2
          exact ⟨rfl, hbB⟩
        · have E : v = 0 ∧ c = 7 := by have := HE.out; rw [if_neg (by omega)] at this; simpa using this
          obtain ⟨rfl, rfl⟩ := E
          have hm' : (T.length : Int) < m := by omega
          clear hm
          go_wp2_with fail
          refine (least_to b k m _ ck h2).mono ?_
          rintro e w4 ⟨rfl, rfl⟩
          go_wp2
          go_ret2
          exact ⟨rfl, hbB⟩
      · have E : v = 0 ∧ c = 7 := by have := HE.out; rw [if_neg (by omega)] at this; simpa using this
        obtain ⟨rfl, rfl⟩ := E
        have hc' : (cv == 1) = false := beq_eq_false_iff_ne.2 h1c
        have hc2 : (cv != 1) = true := by simp [bne, hc']
        go_wp2
        go_ret2
        exact ⟨rfl, hbB⟩
end Wrd
end Go.Proofs.YthefgagmjamdkaaGreatDoor
/-
  Package words: find, Line, Month, Weekday, Year, Name; ascii.Same; strings.Cut below a world that holds bytealg's bound.
-/
namespace Go.Proofs.YthefgagmjamdkaaGreatDoor
open Go.RowKit
namespace Wrd
/-- Which word of a kind a text is, and why none. -/
def wdP (k : Int) (S : List UInt8) : Int × Int := fgo (fstV k) (lstV k) (smL S) (wds k) 0 0 0
theorem WK_of {k : Int} (h : 1 ≤ k ∧ k ≤ 4) : WK k (wds k).length (wds k) ∧ 0 < (wds k).length := by
  have h4 : k = 1 ∨ k = 2 ∨ k = 3 ∨ k = 4 := by omega
  rcases h4 with rfl | rfl | rfl | rfl
  · exact ⟨Or.inl ⟨rfl, rfl, rfl⟩, by decide⟩
  · exact ⟨Or.inr (Or.inl ⟨rfl, rfl, rfl⟩), by decide⟩
  · exact ⟨Or.inr (Or.inr (Or.inl ⟨rfl, rfl, rfl⟩)), by decide⟩
  · exact ⟨Or.inr (Or.inr (Or.inr (Or.inl ⟨rfl, rfl, rfl⟩))), by decide⟩
theorem WK_any (k : Int) : WK k (wds k).length (wds k) := by
  by_cases h : 1 ≤ k ∧ k ≤ 4
  · exact (WK_of h).1
  · have e1 : k ≠ 1 := by omega
    have e2 : k ≠ 2 := by omega
    have e3 : k ≠ 3 := by omega
    have e4 : k ≠ 4 := by omega
    have e : wds k = [] := by rw [wds, if_neg e1, if_neg e2, if_neg e3, if_neg e4]
    rw [e]
    exact Or.inr (Or.inr (Or.inr (Or.inr ⟨beq_eq_false_iff_ne.2 e1, beq_eq_false_iff_ne.2 e2, beq_eq_false_iff_ne.2 e3, beq_eq_false_iff_ne.2 e4, rfl, rfl⟩)))
theorem fresh_new (k : Int) (w : World) (t : TypeId) : Fresh w.heap.size k (w.alloc (Obj.cells #[.int .i64 k, .int .u32 0, .int .i32 0, .int .u32 0, .slice none 0 0] t)) := by
  refine ⟨by simp, ?_, ?_, ?_, ?_, ?_, ?_, ?_⟩ <;> go_simp
set_option maxRecDepth 100000 in
theorem find_to (k : Int) (s : ByteArray) (S : List UInt8) (v c : Int) (w : World) (hk : 1 ≤ k ∧ k ≤ 4) (hs : s.size ≤ 1000) (hS : Hid (s.data.toList = S)) (h : Hid (wdP k S = (v, c))) :
    Calls Tryz.prog 94 #[.int .i64 k, .string s] w fun e w' => e = .returned (.tuple #[.int .i64 v, .int .i64 c]) ∧ Below w.heap.size w w' := by
  have HW := Lib.hid (WK_of hk)
  have HF := Lib.hid (fresh_new k w 116)
  clear hk
  go_enter Tryz.func94, Tryz.ntmps94
  go_wp2_with fail
  refine (lfind_to s S w.heap.size _ k _ _ v c _ _ hs hS (Lib.hid HW.out.1) HW.out.2 HF.out (Lib.hid rfl) (Lib.hid rfl) h).mono ?_
  rintro e w1 ⟨rfl, hb⟩
  go_wp2
  go_ret2
  exact ⟨rfl, ((Below.refl _ _).alloc (Nat.le_refl _) _).trans hb⟩
set_option maxRecDepth 100000 in
theorem wkd_to (s : ByteArray) (S : List UInt8) (v c : Int) (w : World) (hs : s.size ≤ 1000) (hS : Hid (s.data.toList = S)) (h : Hid (wdP 3 S = (v, c))) :
    Calls Tryz.prog 124 #[.string s] w fun e w' => e = .returned (.tuple #[.int .i64 v, .int .i64 c]) ∧ Below w.heap.size w w' := by
  go_enter Tryz.func124, Tryz.ntmps124
  go_wp2_with fail
  refine (find_to 3 s S v c _ (by omega) hs hS h).mono ?_
  rintro e w1 ⟨rfl, hb⟩
  go_wp2
  go_ret2
  exact ⟨rfl, hb⟩
set_option maxRecDepth 100000 in
theorem mon_to (s : ByteArray) (S : List UInt8) (v c : Int) (w : World) (hs : s.size ≤ 1000) (hS : Hid (s.data.toList = S)) (h : Hid (wdP 2 S = (v, c))) :
    Calls Tryz.prog 78 #[.string s] w fun e w' => e = .returned (.tuple #[.int .i64 v, .int .i64 c]) ∧ Below w.heap.size w w' := by
  go_enter Tryz.func78, Tryz.ntmps78
  go_wp2_with fail
  refine (find_to 2 s S v c _ (by omega) hs hS h).mono ?_
  rintro e w1 ⟨rfl, hb⟩
  go_wp2
  go_ret2
  exact ⟨rfl, hb⟩
/-- A kind's i-th word, and why none. -/
def nmT (k i : Int) : List UInt8 := if fstV k ≤ i ∧ i - fstV k < ((wds k).length : Int) then ((wds k)[(i - fstV k).toNat]?).getD [] else []
def nmE (k i : Int) : Int := if fstV k ≤ i ∧ i - fstV k < ((wds k).length : Int) then 0 else 1
theorem ret_si' {s s' : ByteArray} {a a' : Int} (k : s = s') (h : a = a') : Ending.returned (.tuple #[.string s, .int .i64 a]) = .returned (.tuple #[.string s', .int .i64 a']) := by rw [h, k]
set_option maxHeartbeats 1600000 in
set_option maxRecDepth 100000 in
theorem name_to (k i : Int) (T : List UInt8) (c : Int) (w : World) (hi : i ≤ 9223372036854775807) (h : Hid (nmT k i = T ∧ nmE k i = c)) :
    Calls Tryz.prog 57 #[.int .i64 k, .int .i64 i] w fun e w' => e = .returned (.tuple #[.string ⟨T.toArray⟩, .int .i64 c]) ∧ Below w.heap.size w w' := by
  have HW := Lib.hid (WK_any k)
  have HF := Lib.hid (fresh_new k w 116)
  have HK : (w.alloc (Obj.cells #[.int .i64 k, .int .u32 0, .int .i32 0, .int .u32 0, .slice none 0 0] 116)).cell? ⟨w.heap.size, 0, none⟩ = some (.int .i64 k) := HF.out.2.1
  have HT : Hid (nmT k i = if fstV k ≤ i ∧ i - fstV k < ((wds k).length : Int) then ((wds k)[(i - fstV k).toNat]?).getD [] else []) := Lib.hid rfl
  have HE : Hid (nmE k i = if fstV k ≤ i ∧ i - fstV k < ((wds k).length : Int) then 0 else 1) := Lib.hid rfl
  have hf1 := fstV_bd k
  obtain ⟨f, hf⟩ : ∃ f, fstV k = f := ⟨_, rfl⟩
  rw [hf] at HT HE hf1
  have hn12 : (wds k).length ≤ 12 := HW.out.short.1
  obtain ⟨n, hn⟩ : ∃ n, (wds k).length = n := ⟨_, rfl⟩
  have HW2 : Hid (WK k n (wds k)) := Lib.hid (by rw [← hn]; exact HW.out)
  have HN := Lib.hid hn
  rw [hn] at HT HE hn12
  have F1 := Lib.hid hf
  clear hn hf HW
  by_cases hlt : i < f
  · have e1 : T = [] ∧ c = 1 := ⟨by rw [← h.out.1, HT.out, if_neg (by omega)], by rw [← h.out.2, HE.out, if_neg (by omega)]⟩
    obtain ⟨rfl, rfl⟩ := e1
    clear h
    go_enter Tryz.func57, Tryz.ntmps57
    go_wp2_with fail
    refine (first_to w.heap.size k f _ HK F1).mono ?_
    rintro e w1 ⟨rfl, rfl⟩
    go_wp2
    go_ret2
    exact ⟨rfl, (Below.refl _ _).alloc (Nat.le_refl _) _⟩
  · have hlt' : f ≤ i := by omega
    clear hlt
    by_cases hin : i - f < n
    · obtain ⟨j, hj⟩ : ∃ j : Nat, (i - f).toNat = j := ⟨_, rfl⟩
      have hji : i - f = (j : Int) := by omega
      have HJ := Lib.hid hj
      have hjn : j < n := by omega
      have hjl : j < (wds k).length := by rw [HN.out]; exact hjn
      have e1 : T = (wds k)[j] ∧ c = 0 := ⟨by rw [← h.out.1, HT.out, if_pos ⟨hlt', hin⟩, HJ.out, List.getElem?_eq_getElem hjl]; rfl, by rw [← h.out.2, HE.out, if_pos ⟨hlt', hin⟩]⟩
      obtain ⟨e1, rfl⟩ := e1
      have E1 := Lib.hid e1
      obtain rfl : i = f + j := by omega
      clear h e1 hj hji hin HT HE
      go_enter Tryz.func57, Tryz.ntmps57
      go_wp2_with fail
      refine (first_to w.heap.size k f _ HK F1).mono ?_
      rintro e w1 ⟨rfl, rfl⟩
      go_wp2_with fail
      refine (first_to w.heap.size k f _ HK F1).mono ?_
      rintro e w1 ⟨rfl, rfl⟩
      go_wp2_with fail
      refine (list0g w.heap.size n k _ _ HW2 (by omega) HF.out).mono ?_
      rintro e w1 ⟨g, rfl, hl, hb, hz⟩
      have HL := Lib.hid hl
      clear hl
      go_wp2_with fail
      refine (list1 w.heap.size n k _ _ _ HL.out).mono ?_
      rintro e w2 ⟨rfl, rfl⟩
      have ck : (w1.alloc (Obj.cells #[.pointer (some ⟨w.heap.size, 0, none⟩)] 141)).cell? ⟨w.heap.size, 0, none⟩ = some (.int .i64 k) := (World.cell?_alloc_lt w1 _ ⟨w.heap.size, 0, none⟩ HL.out.1).trans HL.out.2.1
      go_wp2_with fail
      refine (first_to w.heap.size k f _ ck F1).mono ?_
      rintro e w2 ⟨rfl, rfl⟩
      have cw : (w1.alloc (Obj.cells #[.pointer (some ⟨w.heap.size, 0, none⟩)] 141)).cell? ⟨g, j, none⟩ = some (.string ⟨T.toArray⟩) := by
        obtain ⟨g', x1, _, x3, x4⟩ := HL.out.2.2.2.2 j hjl
        injection x1 with x1
        injection x1 with x1
        subst x1
        rw [World.cell?_alloc_lt w1 _ ⟨g, j, none⟩ x3, x4, E1.out]
      have hj2 : (f + (j : Int) - f).toNat = j := by omega
      go_wp2
      go_ret2
      exact ⟨rfl, (((Below.refl _ _).alloc (Nat.le_refl _) _).trans hb).alloc (by have := HL.out.1; omega) _⟩
    · have e1 : T = [] ∧ c = 1 := ⟨by rw [← h.out.1, HT.out, if_neg (by omega)], by rw [← h.out.2, HE.out, if_neg (by omega)]⟩
      obtain ⟨rfl, rfl⟩ := e1
      clear h
      go_enter Tryz.func57, Tryz.ntmps57
      go_wp2_with fail
      refine (first_to w.heap.size k f _ HK F1).mono ?_
      rintro e w1 ⟨rfl, rfl⟩
      go_wp2_with fail
      refine (first_to w.heap.size k f _ HK F1).mono ?_
      rintro e w1 ⟨rfl, rfl⟩
      go_wp2_with fail
      refine (list0 w.heap.size n k _ _ HW2 HF.out).mono ?_
      rintro e w1 ⟨A, rfl, hl, hb, hz⟩
      clear hl
      go_wp2
      go_ret2
      exact ⟨rfl, ((Below.refl _ _).alloc (Nat.le_refl _) _).trans hb⟩
theorem same_to (a b : ByteArray) (A B A' B' : List UInt8) (r : Bool) (w : World) (ha : a.size ≤ 1000) (hb : b.size ≤ 1000) (hA : Hid (a.data.toList = A)) (hB : Hid (b.data.toList = B)) (hA' : Hid (smL A = A')) (hB' : Hid (smL B = B')) (h : Hid (decide (A.length = B.length ∧ A' = B') = r)) :
    Calls Tryz.prog 96 #[.string a, .string b] w fun e w' => e = .returned (.bool r) ∧ Below w.heap.size w w' := by
  have hla : a.size = A.length := by rw [← hA.out]; simp
  have hlb : b.size = B.length := by rw [← hB.out]; simp
  by_cases hl : a.size = b.size
  · have hd : ((a.size : Int) == (b.size : Int)) = true := by simp [hl]
    by_cases hAB : A' = B'
    · have HR : Hid (r = true) := Lib.hid (by rw [← h.out, decide_eq_true ⟨by omega, hAB⟩])
      subst hAB
      clear hla hlb h
      have HLs := Lib.hid hl
      clear hl
      go_enter Tryz.func96, Tryz.ntmps96
      go_wp2_with fail
      refine (small_any a A A' _ ha hA hA').mono ?_
      rintro e w1 ⟨rfl, hb1⟩
      go_wp2_with fail
      refine (small_any b B A' _ hb hB hB').mono ?_
      rintro e w2 ⟨rfl, hb2⟩
      go_wp2
      go_ret
      exact ⟨ret_b HR.out.symm, hb1.trans (hb2.mono hb1.size)⟩
    · have HR : Hid (r = false) := Lib.hid (by rw [← h.out, decide_eq_false (fun x => hAB x.2)])
      have hAB' : (A' == B') = false := by simpa using hAB
      clear hla hlb h hAB
      have HLs := Lib.hid hl
      clear hl
      go_enter Tryz.func96, Tryz.ntmps96
      go_wp2_with fail
      refine (small_any a A A' _ ha hA hA').mono ?_
      rintro e w1 ⟨rfl, hb1⟩
      go_wp2_with fail
      refine (small_any b B B' _ hb hB hB').mono ?_
      rintro e w2 ⟨rfl, hb2⟩
      go_wp2
      go_ret
      exact ⟨ret_b HR.out.symm, hb1.trans (hb2.mono hb1.size)⟩
  · have hd : ((a.size : Int) == (b.size : Int)) = false := beq_eq_false_iff_ne.2 (by omega)
    have HR : Hid (r = false) := Lib.hid (by rw [← h.out, decide_eq_false (fun x => hl (by omega))])
    clear hla hlb h hl
    go_enter Tryz.func96, Tryz.ntmps96
    go_wp2
    go_ret
    exact ⟨ret_b HR.out.symm, Below.refl _ _⟩
/-- The library's own bound holds some number. -/
def MaxL (w : World) : Prop := ∃ m, 0 < w.heap.size ∧ w.cell? ⟨0, 0, none⟩ = some (.int .i64 m)
theorem MaxL.stays {w w' : World} (h : MaxL w) (hb : Below w.heap.size w w') : MaxL w' := by
  obtain ⟨m, h1, h2⟩ := h
  exact ⟨m, Nat.lt_of_lt_of_le h1 hb.size, (hb.cell (p := ⟨0, 0, none⟩) h1).trans h2⟩
theorem MaxL.of_shape {w : World} (h : w.ShapedOpen Tryz.prog) : MaxL w := by
  obtain ⟨m, hm⟩ := Tryz.laysM219.s1_3 w h
  refine ⟨m, ?_, hm⟩
  rcases Nat.lt_or_ge 0 w.heap.size with h | h
  · exact h
  · have e : w.cell? ⟨0, 0, none⟩ = none := by
      unfold World.cell?
      rw [Array.getElem?_eq_none h]
    have hm' : w.cell? ⟨0, 0, none⟩ = some (.int .i64 m) := hm
    rw [e] at hm'
    cases hm'
theorem cut_to (s p : ByteArray) (S P X Y : List UInt8) (b : Bool) (w : World) (hm : MaxL w) (hs : s.size ≤ 1000000) (hS : Hid (s.data.toList = S)) (hP : Hid (p.data.toList = P)) (h : Hid (Lib.cut S P = (X, Y, b))) :
    Calls Tryz.prog 98 #[.string s, .string p] w fun e w' => e = .returned (.tuple #[.string ⟨X.toArray⟩, .string ⟨Y.toArray⟩, .bool b]) ∧ ∃ n, w' = w.drewN n := by
  obtain ⟨m, _, hc⟩ := hm
  exact (Tryz.strings_Cut s p m w (by omega) hc).mono fun _ _ ⟨he, hw⟩ => ⟨by rw [he, hS.out, hP.out, h.out], hw⟩
end Wrd
end Go.Proofs.YthefgagmjamdkaaGreatDoor
/-
  Contracts of package num, its second part: Parse, for every text.
-/
namespace Go.Proofs.YthefgagmjamdkaaGreatDoor
open Go.RowKit

set_option maxHeartbeats 400000 in
theorem parse_any (s : ByteArray) (w : World) (hs : s.size ≤ maxLen) :
    Calls Tryz.prog 51 #[.string s] w fun e w' => e = .returned (.tuple #[.int .i64 (Sol.parseV s.data.toList), .bool (Sol.parseB s.data.toList)]) ∧ w = w' := by
  unfold maxLen at hs
  have hlen := Sol.list_len s
  by_cases h1 : 1 ≤ s.size
  · by_cases h2 : s.size ≤ 18
    · have HL := Lib.hid hlen
      clear hlen
      go_enter Tryz.func51, Tryz.ntmps51
      go_wp2
      go_loop [4, 5] (fun n i => ∃ k : Nat, k ≤ s.size ∧ (s.data.toList.take k).all Sol.isDig = true ∧ i = .int .i64 k ∧ n = .int .i64 (Sol.digVal (s.data.toList.take k))) (fun _ i => s.size - (intOf i).toNat)
      case atStart => exact ⟨0, Nat.zero_le _, rfl, rfl, rfl⟩
      case round =>
        obtain ⟨k, hk, hall, rfl, rfl⟩ := hrel
        have HA := Lib.hid hall
        clear hall
        by_cases hlt : k < s.size
        · have hl : (s.data.toList.take k).length ≤ 17 := by have := List.length_take_le k s.data.toList; omega
          obtain ⟨d0, d1⟩ := Sol.digVal_le17 _ HA.out hl
          clear hl
          have HS := Lib.hid (Sol.take_snoc s k hlt)
          have hb := s[k].toNat_lt
          by_cases c1 : 48 ≤ (s[k].toNat : Int)
          · by_cases c2 : (s[k].toNat : Int) ≤ 57
            · have HD := Lib.hid ((Sol.isDig_iff s[k]).2 ⟨c1, c2⟩)
              go_wp2
              go_round
              case rel => exact ⟨k + 1, by omega, by rw [HS.out, Sol.all_snoc, HA.out, HD.out]; rfl, by go_num, by rw [HS.out, Sol.digVal_snoc]⟩
              case measure => simp [intOf]; omega
            · have HD := Lib.hid (Sol.isDig_hi c2)
              have H := Lib.hid (Sol.parseB_at (l := s.data.toList) (k := k) (by rw [HL.out]; exact hlt) HD.out)
              go_wp2
              go_ret2
              exact ⟨ret_ib (Sol.parseV_no H.out).symm H.out.symm, rfl⟩
          · have HD := Lib.hid (Sol.isDig_lo c1)
            have H := Lib.hid (Sol.parseB_at (l := s.data.toList) (k := k) (by rw [HL.out]; exact hlt) HD.out)
            go_wp2
            go_ret2
            exact ⟨ret_ib (Sol.parseV_no H.out).symm H.out.symm, rfl⟩
        · have HT : Hid (s.data.toList.take k = s.data.toList) := Lib.hid (List.take_of_length_le (by rw [HL.out]; omega))
          have H : Hid (Sol.parseB s.data.toList = true) := Lib.hid (Sol.parseB_yes (by rw [HL.out]; omega) (by rw [HL.out]; omega) (by have := HA.out; rwa [HT.out] at this))
          go_wp2
          go_ret2
          exact ⟨ret_ib (by rw [HT.out]; exact (Sol.parseV_yes H.out).symm) H.out.symm, rfl⟩
    · have H := Lib.hid (Sol.parseB_long (l := s.data.toList) (by omega))
      clear hlen
      go_enter Tryz.func51, Tryz.ntmps51
      go_wp2
      go_ret2
      exact ⟨ret_ib (Sol.parseV_no H.out).symm H.out.symm, rfl⟩
  · have H := Lib.hid (Sol.parseB_short (l := s.data.toList) (by omega))
    clear hlen
    go_enter Tryz.func51, Tryz.ntmps51
    go_wp2
    go_ret2
    exact ⟨ret_ib (Sol.parseV_no H.out).symm H.out.symm, rfl⟩
end Go.Proofs.YthefgagmjamdkaaGreatDoor
/-
  Contracts of package num, its third part: Text, for every two integers; the law's own waking call.
-/
namespace Go.Proofs.YthefgagmjamdkaaGreatDoor
open Go.RowKit

theorem repeat48 (k : Nat) : Lib.repeatL [48] k = List.replicate k 48 := by
  induction k with
  | zero => rfl
  | succ k ih => rw [Lib.repeatL, ih]; rfl
theorem itoa_nn {n : Int} (h : 0 ≤ n) : Lib.itoa n = Lib.decDigits n.toNat := by rw [Lib.itoa, if_neg (by omega)]
theorem textL_neg {n d : Int} (h : n < 0) : Sol.textL n d = [] := by rw [Sol.textL, if_pos h]
theorem textL_in {n d : Int} (h : 0 ≤ n) (h1 : 0 ≤ d) (h2 : d ≤ 20) : Sol.textL n d = Sol.padL d.toNat (Lib.decDigits n.toNat) := by
  rw [Sol.textL, if_neg (by omega), if_pos ⟨h1, h2⟩]
theorem textL_out {n d : Int} (h : 0 ≤ n) (h1 : ¬ (0 ≤ d ∧ d ≤ 20)) : Sol.textL n d = Lib.decDigits n.toNat := by
  rw [Sol.textL, if_neg (by omega), if_neg h1, Sol.padL]; simp
theorem padL_short {d : Nat} {l : List UInt8} (h : d ≤ l.length) : Sol.padL d l = l := by
  rw [Sol.padL, show d - l.length = 0 by omega]; rfl
theorem ret_s {s t : ByteArray} (h : s = t) : Ending.returned (.string s) = .returned (.string t) := by rw [h]

theorem itoa_any (n : Int) (l : List UInt8) (w : World) (h0 : 0 ≤ n) (hl : Hid (l = Lib.decDigits n.toNat)) (n2 : n ≤ 9223372036854775807)
    (htab : Lib.TabIs Tryz.prog w "internal/strconv.uint64pow10" .u64 Lib.pow10Tab) :
    Calls Tryz.prog 83 #[.int .i64 n] w fun e w' => e = .returned (.string ⟨l.toArray⟩) ∧ Below w.heap.size w w' := by
  refine (Tryz.strconv_Itoa n (by omega) n2 w htab).mono ?_
  rintro e w' ⟨rfl, k, os, rfl⟩
  exact ⟨by rw [itoa_nn h0, hl.out], Lib.below_grow w.heap.size w (Nat.le_refl _) k os⟩
theorem rep_any (c : Nat) (r : List UInt8) (w : World) (hr : Hid (r = List.replicate c 48)) (hc : c ≤ 20) :
    Calls Tryz.prog 84 #[.string ⟨#[48]⟩, .int .i64 c] w fun e w' => e = .returned (.string ⟨r.toArray⟩) ∧ Below w.heap.size w w' := by
  refine (Tryz.strings_Repeat ⟨#[48]⟩ c w (by omega) (by show 1 * c ≤ _; omega)).mono ?_
  rintro e w' ⟨rfl, hb⟩
  exact ⟨by rw [hr.out, ← repeat48 c], hb⟩

theorem pad_str {d : Nat} {l r : List UInt8} (hr : r = List.replicate (d - l.length) 48) : (⟨r.toArray⟩ : ByteArray) ++ ⟨l.toArray⟩ = ⟨(Sol.padL d l).toArray⟩ := by
  rw [Sol.padL, ← hr]
  apply ByteArray.ext
  simp

set_option maxHeartbeats 400000 in
theorem text_any (n d : Int) (w : World) (_n1 : -9223372036854775808 ≤ n) (n2 : n ≤ 9223372036854775807) (_d1 : -9223372036854775808 ≤ d) (_d2 : d ≤ 9223372036854775807)
    (htab : Lib.TabIs Tryz.prog w "internal/strconv.uint64pow10" .u64 Lib.pow10Tab) :
    Calls Tryz.prog 56 #[.int .i64 n, .int .i64 d] w fun e w' => e = .returned (.string ⟨(Sol.textL n d).toArray⟩) ∧ Below w.heap.size w w' := by
  by_cases hn : n < 0
  · have H := Lib.hid (textL_neg (d := d) hn)
    clear htab
    go_enter Tryz.func56, Tryz.ntmps56
    go_wp2
    go_ret
    exact ⟨ret_s (by rw [H.out]), Below.refl _ _⟩
  · have hlen : (Lib.decDigits n.toNat).length ≤ 19 := Sol.decDigits_len (k := 18) (by omega)
    obtain ⟨l, hl⟩ : ∃ l, l = Lib.decDigits n.toNat := ⟨_, rfl⟩
    rw [← hl] at hlen
    have HL := Lib.hid hl
    have HB := Lib.hid htab
    clear htab
    by_cases hd1 : 0 ≤ d
    · by_cases hd2 : d ≤ 20
      · have HT := Lib.hid (textL_in (n := n) (d := d) (by omega) hd1 hd2)
        rw [← hl] at HT
        clear hl
        by_cases hs : (l.length : Int) < d
        · obtain ⟨r, hr⟩ : ∃ r, r = List.replicate (d.toNat - l.length) (48 : UInt8) := ⟨_, rfl⟩
          have hrl : r.length ≤ 20 := by rw [hr, List.length_replicate]; omega
          have HR := Lib.hid hr
          clear hr
          have HC : Hid (d - (l.length : Int) = ((d.toNat - l.length : Nat) : Int)) := Lib.hid (by omega)
          go_enter Tryz.func56, Tryz.ntmps56
          go_wp2_with fail
          refine (itoa_any n l _ (by omega) HL n2 HB.out).mono ?_
          rintro e w1 ⟨rfl, hb⟩
          go_wp2_with fail
          rw [HC.out]
          refine (rep_any _ r _ HR (by omega)).mono ?_
          rintro e w2 ⟨rfl, hb2⟩
          go_wp2
          go_ret
          exact ⟨ret_s (by rw [HT.out]; exact pad_str HR.out), hb.trans (hb2.mono hb.size)⟩
        · have HP := Lib.hid (padL_short (d := d.toNat) (l := l) (by omega))
          go_enter Tryz.func56, Tryz.ntmps56
          go_wp2_with fail
          refine (itoa_any n l _ (by omega) HL n2 HB.out).mono ?_
          rintro e w1 ⟨rfl, hb⟩
          go_wp2
          go_ret
          exact ⟨ret_s (by rw [HT.out, HP.out]), hb⟩
      · have HT := Lib.hid (textL_out (n := n) (d := d) (by omega) (fun h => hd2 h.2))
        rw [← hl] at HT
        clear hl
        go_enter Tryz.func56, Tryz.ntmps56
        go_wp2_with fail
        refine (itoa_any n l _ (by omega) HL n2 HB.out).mono ?_
        rintro e w1 ⟨rfl, hb⟩
        go_wp2
        go_ret
        exact ⟨ret_s (by rw [HT.out]), hb⟩
    · have HT := Lib.hid (textL_out (n := n) (d := d) (by omega) (fun h => hd1 h.1))
      rw [← hl] at HT
      clear hl
      go_enter Tryz.func56, Tryz.ntmps56
      go_wp2_with fail
      refine (itoa_any n l _ (by omega) HL n2 HB.out).mono ?_
      rintro e w1 ⟨rfl, hb⟩
      go_wp2
      go_ret
      exact ⟨ret_s (by rw [HT.out]), hb⟩
end Go.Proofs.YthefgagmjamdkaaGreatDoor
/-
  Package num: the table of powers of ten.
-/
namespace Go.Proofs.YthefgagmjamdkaaGreatDoor
open Go.RowKit

/-- The table of powers of ten lies in the world, and whatever is made later leaves it. -/
def Pow (w : World) : Prop := Lib.TabBelow Tryz.prog w.heap.size w "internal/strconv.uint64pow10" .u64 Lib.pow10Tab
theorem Pow.here {w : World} (h : Pow w) : Lib.TabIs Tryz.prog w "internal/strconv.uint64pow10" .u64 Lib.pow10Tab := Lib.TabBelow.here h
theorem Pow.stays {w w' : World} (h : Pow w) (hb : Below w.heap.size w w') : Pow w' := fun w'' hb2 => h w'' (hb.trans (hb2.mono hb.size))
theorem Pow.drewN {w : World} (h : Pow w) (n : Nat) : Pow (w.drewN n) := h.stays (below_drewN (Below.refl _ _) n)

end Go.Proofs.YthefgagmjamdkaaGreatDoor
