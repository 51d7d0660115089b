/-
  Package words: find, Line, Month, Weekday, Year, Name; ascii.Same; strings.Cut below a world that holds bytealg's bound.
-/
import Derived.Test.YtpcnpacllkiieaaGreatDoorWords3
namespace Go.Proofs.YtpcnpacllkiieaaGreatDoor
open Go.RowKit
namespace Wrd
/-- Which word of a kind a text is, and why none. -/
def wdP (k : Int) (S : List UInt8) : Int × Int := fgo (fstV k) (lstV k) (smL S) (wds k) 0 0 0
theorem WK_of {k : Int} (h : 1 ≤ k ∧ k ≤ 4) : WK k (wds k).length (wds k) ∧ 0 < (wds k).length := by
  have h4 : k = 1 ∨ k = 2 ∨ k = 3 ∨ k = 4 := by omega
  rcases h4 with rfl | rfl | rfl | rfl
  · exact ⟨Or.inl ⟨rfl, rfl, rfl⟩, by decide⟩
  · exact ⟨Or.inr (Or.inl ⟨rfl, rfl, rfl⟩), by decide⟩
  · exact ⟨Or.inr (Or.inr (Or.inl ⟨rfl, rfl, rfl⟩)), by decide⟩
  · exact ⟨Or.inr (Or.inr (Or.inr (Or.inl ⟨rfl, rfl, rfl⟩))), by decide⟩
theorem WK_any (k : Int) : WK k (wds k).length (wds k) := by
  by_cases h : 1 ≤ k ∧ k ≤ 4
  · exact (WK_of h).1
  · have e1 : k ≠ 1 := by omega
    have e2 : k ≠ 2 := by omega
    have e3 : k ≠ 3 := by omega
    have e4 : k ≠ 4 := by omega
    have e : wds k = [] := by rw [wds, if_neg e1, if_neg e2, if_neg e3, if_neg e4]
    rw [e]
    exact Or.inr (Or.inr (Or.inr (Or.inr ⟨beq_eq_false_iff_ne.2 e1, beq_eq_false_iff_ne.2 e2, beq_eq_false_iff_ne.2 e3, beq_eq_false_iff_ne.2 e4, rfl, rfl⟩)))
theorem fresh_new (k : Int) (w : World) (t : TypeId) : Fresh w.heap.size k (w.alloc (Obj.cells #[.int .i64 k, .int .u32 0, .int .i32 0, .int .u32 0, .slice none 0 0] t)) := by
  refine ⟨by simp, ?_, ?_, ?_, ?_, ?_, ?_, ?_⟩ <;> go_simp
set_option maxRecDepth 100000 in
theorem find_to (k : Int) (s : ByteArray) (S : List UInt8) (v c : Int) (w : World) (hk : 1 ≤ k ∧ k ≤ 4) (hs : s.size ≤ 1000) (hS : Hid (s.data.toList = S)) (h : Hid (wdP k S = (v, c))) :
    Calls Tryz.prog 120 #[.int .i64 k, .string s] w fun e w' => e = .returned (.tuple #[.int .i64 v, .int .i64 c]) ∧ Below w.heap.size w w' := by
  have HW := Lib.hid (WK_of hk)
  have HF := Lib.hid (fresh_new k w 120)
  clear hk
  go_enter Tryz.func120, Tryz.ntmps120
  go_wp2_with fail
  refine (lfind_to s S w.heap.size _ k _ _ v c _ _ hs hS (Lib.hid HW.out.1) HW.out.2 HF.out (Lib.hid rfl) (Lib.hid rfl) h).mono ?_
  rintro e w1 ⟨rfl, hb⟩
  go_wp2
  go_ret2
  exact ⟨rfl, ((Below.refl _ _).alloc (Nat.le_refl _) _).trans hb⟩
set_option maxRecDepth 100000 in
theorem wkd_to (s : ByteArray) (S : List UInt8) (v c : Int) (w : World) (hs : s.size ≤ 1000) (hS : Hid (s.data.toList = S)) (h : Hid (wdP 3 S = (v, c))) :
    Calls Tryz.prog 147 #[.string s] w fun e w' => e = .returned (.tuple #[.int .i64 v, .int .i64 c]) ∧ Below w.heap.size w w' := by
  go_enter Tryz.func147, Tryz.ntmps147
  go_wp2_with fail
  refine (find_to 3 s S v c _ (by omega) hs hS h).mono ?_
  rintro e w1 ⟨rfl, hb⟩
  go_wp2
  go_ret2
  exact ⟨rfl, hb⟩
set_option maxRecDepth 100000 in
theorem lin_to (s : ByteArray) (S : List UInt8) (v c : Int) (w : World) (hs : s.size ≤ 1000) (hS : Hid (s.data.toList = S)) (h : Hid (wdP 1 S = (v, c))) :
    Calls Tryz.prog 84 #[.string s] w fun e w' => e = .returned (.tuple #[.int .i64 v, .int .i64 c]) ∧ Below w.heap.size w w' := by
  go_enter Tryz.func84, Tryz.ntmps84
  go_wp2_with fail
  refine (find_to 1 s S v c _ (by omega) hs hS h).mono ?_
  rintro e w1 ⟨rfl, hb⟩
  go_wp2
  go_ret2
  exact ⟨rfl, hb⟩
set_option maxRecDepth 100000 in
theorem mon_to (s : ByteArray) (S : List UInt8) (v c : Int) (w : World) (hs : s.size ≤ 1000) (hS : Hid (s.data.toList = S)) (h : Hid (wdP 2 S = (v, c))) :
    Calls Tryz.prog 87 #[.string s] w fun e w' => e = .returned (.tuple #[.int .i64 v, .int .i64 c]) ∧ Below w.heap.size w w' := by
  go_enter Tryz.func87, Tryz.ntmps87
  go_wp2_with fail
  refine (find_to 2 s S v c _ (by omega) hs hS h).mono ?_
  rintro e w1 ⟨rfl, hb⟩
  go_wp2
  go_ret2
  exact ⟨rfl, hb⟩
set_option maxRecDepth 100000 in
theorem yea_to (s : ByteArray) (S : List UInt8) (v c : Int) (w : World) (hs : s.size ≤ 1000) (hS : Hid (s.data.toList = S)) (h : Hid (wdP 4 S = (v, c))) :
    Calls Tryz.prog 121 #[.string s] w fun e w' => e = .returned (.tuple #[.int .i64 v, .int .i64 c]) ∧ Below w.heap.size w w' := by
  go_enter Tryz.func121, Tryz.ntmps121
  go_wp2_with fail
  refine (find_to 4 s S v c _ (by omega) hs hS h).mono ?_
  rintro e w1 ⟨rfl, hb⟩
  go_wp2
  go_ret2
  exact ⟨rfl, hb⟩
/-- A kind's i-th word, and why none. -/
def nmT (k i : Int) : List UInt8 := if fstV k ≤ i ∧ i - fstV k < ((wds k).length : Int) then ((wds k)[(i - fstV k).toNat]?).getD [] else []
def nmE (k i : Int) : Int := if fstV k ≤ i ∧ i - fstV k < ((wds k).length : Int) then 0 else 1
theorem ret_si' {s s' : ByteArray} {a a' : Int} (k : s = s') (h : a = a') : Ending.returned (.tuple #[.string s, .int .i64 a]) = .returned (.tuple #[.string s', .int .i64 a']) := by rw [h, k]
set_option maxHeartbeats 1600000 in
set_option maxRecDepth 100000 in
theorem name_to (k i : Int) (T : List UInt8) (c : Int) (w : World) (hi : i ≤ 9223372036854775807) (h : Hid (nmT k i = T ∧ nmE k i = c)) :
    Calls Tryz.prog 42 #[.int .i64 k, .int .i64 i] w fun e w' => e = .returned (.tuple #[.string ⟨T.toArray⟩, .int .i64 c]) ∧ Below w.heap.size w w' := by
  have HW := Lib.hid (WK_any k)
  have HF := Lib.hid (fresh_new k w 120)
  have HK : (w.alloc (Obj.cells #[.int .i64 k, .int .u32 0, .int .i32 0, .int .u32 0, .slice none 0 0] 120)).cell? ⟨w.heap.size, 0, none⟩ = some (.int .i64 k) := HF.out.2.1
  have HT : Hid (nmT k i = if fstV k ≤ i ∧ i - fstV k < ((wds k).length : Int) then ((wds k)[(i - fstV k).toNat]?).getD [] else []) := Lib.hid rfl
  have HE : Hid (nmE k i = if fstV k ≤ i ∧ i - fstV k < ((wds k).length : Int) then 0 else 1) := Lib.hid rfl
  have hf1 := fstV_bd k
  obtain ⟨f, hf⟩ : ∃ f, fstV k = f := ⟨_, rfl⟩
  rw [hf] at HT HE hf1
  have hn12 : (wds k).length ≤ 12 := HW.out.short.1
  obtain ⟨n, hn⟩ : ∃ n, (wds k).length = n := ⟨_, rfl⟩
  have HW2 : Hid (WK k n (wds k)) := Lib.hid (by rw [← hn]; exact HW.out)
  have HN := Lib.hid hn
  rw [hn] at HT HE hn12
  have F1 := Lib.hid hf
  clear hn hf HW
  by_cases hlt : i < f
  · have e1 : T = [] ∧ c = 1 := ⟨by rw [← h.out.1, HT.out, if_neg (by omega)], by rw [← h.out.2, HE.out, if_neg (by omega)]⟩
    obtain ⟨rfl, rfl⟩ := e1
    clear h
    go_enter Tryz.func42, Tryz.ntmps42
    go_wp2_with fail
    refine (first_to w.heap.size k f _ HK F1).mono ?_
    rintro e w1 ⟨rfl, rfl⟩
    go_wp2
    go_ret2
    exact ⟨rfl, (Below.refl _ _).alloc (Nat.le_refl _) _⟩
  · have hlt' : f ≤ i := by omega
    clear hlt
    by_cases hin : i - f < n
    · obtain ⟨j, hj⟩ : ∃ j : Nat, (i - f).toNat = j := ⟨_, rfl⟩
      have hji : i - f = (j : Int) := by omega
      have HJ := Lib.hid hj
      have hjn : j < n := by omega
      have hjl : j < (wds k).length := by rw [HN.out]; exact hjn
      have e1 : T = (wds k)[j] ∧ c = 0 := ⟨by rw [← h.out.1, HT.out, if_pos ⟨hlt', hin⟩, HJ.out, List.getElem?_eq_getElem hjl]; rfl, by rw [← h.out.2, HE.out, if_pos ⟨hlt', hin⟩]⟩
      obtain ⟨e1, rfl⟩ := e1
      have E1 := Lib.hid e1
      obtain rfl : i = f + j := by omega
      clear h e1 hj hji hin HT HE
      go_enter Tryz.func42, Tryz.ntmps42
      go_wp2_with fail
      refine (first_to w.heap.size k f _ HK F1).mono ?_
      rintro e w1 ⟨rfl, rfl⟩
      go_wp2_with fail
      refine (first_to w.heap.size k f _ HK F1).mono ?_
      rintro e w1 ⟨rfl, rfl⟩
      go_wp2_with fail
      refine (list0g w.heap.size n k _ _ HW2 (by omega) HF.out).mono ?_
      rintro e w1 ⟨g, rfl, hl, hb, hz⟩
      have HL := Lib.hid hl
      clear hl
      go_wp2_with fail
      refine (list1 w.heap.size n k _ _ _ HL.out).mono ?_
      rintro e w2 ⟨rfl, rfl⟩
      have ck : (w1.alloc (Obj.cells #[.pointer (some ⟨w.heap.size, 0, none⟩)] 147)).cell? ⟨w.heap.size, 0, none⟩ = some (.int .i64 k) := (World.cell?_alloc_lt w1 _ ⟨w.heap.size, 0, none⟩ HL.out.1).trans HL.out.2.1
      go_wp2_with fail
      refine (first_to w.heap.size k f _ ck F1).mono ?_
      rintro e w2 ⟨rfl, rfl⟩
      have cw : (w1.alloc (Obj.cells #[.pointer (some ⟨w.heap.size, 0, none⟩)] 147)).cell? ⟨g, j, none⟩ = some (.string ⟨T.toArray⟩) := by
        obtain ⟨g', x1, _, x3, x4⟩ := HL.out.2.2.2.2 j hjl
        injection x1 with x1
        injection x1 with x1
        subst x1
        rw [World.cell?_alloc_lt w1 _ ⟨g, j, none⟩ x3, x4, E1.out]
      have hj2 : (f + (j : Int) - f).toNat = j := by omega
      go_wp2
      go_ret2
      exact ⟨rfl, (((Below.refl _ _).alloc (Nat.le_refl _) _).trans hb).alloc (by have := HL.out.1; omega) _⟩
    · have e1 : T = [] ∧ c = 1 := ⟨by rw [← h.out.1, HT.out, if_neg (by omega)], by rw [← h.out.2, HE.out, if_neg (by omega)]⟩
      obtain ⟨rfl, rfl⟩ := e1
      clear h
      go_enter Tryz.func42, Tryz.ntmps42
      go_wp2_with fail
      refine (first_to w.heap.size k f _ HK F1).mono ?_
      rintro e w1 ⟨rfl, rfl⟩
      go_wp2_with fail
      refine (first_to w.heap.size k f _ HK F1).mono ?_
      rintro e w1 ⟨rfl, rfl⟩
      go_wp2_with fail
      refine (list0 w.heap.size n k _ _ HW2 HF.out).mono ?_
      rintro e w1 ⟨A, rfl, hl, hb, hz⟩
      clear hl
      go_wp2
      go_ret2
      exact ⟨rfl, ((Below.refl _ _).alloc (Nat.le_refl _) _).trans hb⟩
theorem same_to (a b : ByteArray) (A B A' B' : List UInt8) (r : Bool) (w : World) (ha : a.size ≤ 1000) (hb : b.size ≤ 1000) (hA : Hid (a.data.toList = A)) (hB : Hid (b.data.toList = B)) (hA' : Hid (smL A = A')) (hB' : Hid (smL B = B')) (h : Hid (decide (A.length = B.length ∧ A' = B') = r)) :
    Calls Tryz.prog 123 #[.string a, .string b] w fun e w' => e = .returned (.bool r) ∧ Below w.heap.size w w' := by
  have hla : a.size = A.length := by rw [← hA.out]; simp
  have hlb : b.size = B.length := by rw [← hB.out]; simp
  by_cases hl : a.size = b.size
  · have hd : ((a.size : Int) == (b.size : Int)) = true := by simp [hl]
    by_cases hAB : A' = B'
    · have HR : Hid (r = true) := Lib.hid (by rw [← h.out, decide_eq_true ⟨by omega, hAB⟩])
      subst hAB
      clear hla hlb h
      have HLs := Lib.hid hl
      clear hl
      go_enter Tryz.func123, Tryz.ntmps123
      go_wp2_with fail
      refine (small_any a A A' _ ha hA hA').mono ?_
      rintro e w1 ⟨rfl, hb1⟩
      go_wp2_with fail
      refine (small_any b B A' _ hb hB hB').mono ?_
      rintro e w2 ⟨rfl, hb2⟩
      go_wp2
      go_ret
      exact ⟨ret_b HR.out.symm, hb1.trans (hb2.mono hb1.size)⟩
    · have HR : Hid (r = false) := Lib.hid (by rw [← h.out, decide_eq_false (fun x => hAB x.2)])
      have hAB' : (A' == B') = false := by simpa using hAB
      clear hla hlb h hAB
      have HLs := Lib.hid hl
      clear hl
      go_enter Tryz.func123, Tryz.ntmps123
      go_wp2_with fail
      refine (small_any a A A' _ ha hA hA').mono ?_
      rintro e w1 ⟨rfl, hb1⟩
      go_wp2_with fail
      refine (small_any b B B' _ hb hB hB').mono ?_
      rintro e w2 ⟨rfl, hb2⟩
      go_wp2
      go_ret
      exact ⟨ret_b HR.out.symm, hb1.trans (hb2.mono hb1.size)⟩
  · have hd : ((a.size : Int) == (b.size : Int)) = false := beq_eq_false_iff_ne.2 (by omega)
    have HR : Hid (r = false) := Lib.hid (by rw [← h.out, decide_eq_false (fun x => hl (by omega))])
    clear hla hlb h hl
    go_enter Tryz.func123, Tryz.ntmps123
    go_wp2
    go_ret
    exact ⟨ret_b HR.out.symm, Below.refl _ _⟩
/-- The library's own bound holds some number. -/
def MaxL (w : World) : Prop := ∃ m, 0 < w.heap.size ∧ w.cell? ⟨0, 0, none⟩ = some (.int .i64 m)
theorem MaxL.stays {w w' : World} (h : MaxL w) (hb : Below w.heap.size w w') : MaxL w' := by
  obtain ⟨m, h1, h2⟩ := h
  exact ⟨m, Nat.lt_of_lt_of_le h1 hb.size, (hb.cell (p := ⟨0, 0, none⟩) h1).trans h2⟩
theorem MaxL.of_shape {w : World} (h : w.ShapedOpen Tryz.prog) : MaxL w := by
  obtain ⟨m, hm⟩ := Tryz.laysM219.s1_3 w h
  refine ⟨m, ?_, hm⟩
  rcases Nat.lt_or_ge 0 w.heap.size with h | h
  · exact h
  · have e : w.cell? ⟨0, 0, none⟩ = none := by
      unfold World.cell?
      rw [Array.getElem?_eq_none h]
    have hm' : w.cell? ⟨0, 0, none⟩ = some (.int .i64 m) := hm
    rw [e] at hm'
    cases hm'
theorem cut_to (s p : ByteArray) (S P X Y : List UInt8) (b : Bool) (w : World) (hm : MaxL w) (hs : s.size ≤ 1000000) (hS : Hid (s.data.toList = S)) (hP : Hid (p.data.toList = P)) (h : Hid (Lib.cut S P = (X, Y, b))) :
    Calls Tryz.prog 125 #[.string s, .string p] w fun e w' => e = .returned (.tuple #[.string ⟨X.toArray⟩, .string ⟨Y.toArray⟩, .bool b]) ∧ ∃ n, w' = w.drewN n := by
  obtain ⟨m, _, hc⟩ := hm
  exact (Tryz.strings_Cut s p m w (by omega) hc).mono fun _ _ ⟨he, hw⟩ => ⟨by rw [he, hS.out, hP.out, h.out], hw⟩
end Wrd
end Go.Proofs.YtpcnpacllkiieaaGreatDoor
