/-
  TreeReads: what is read is right, written and read again.
-/
import Derived.Test.YtdakpncfophjnaaTrS
import Derived.Test.YtdakpncfophjnaaTrZ
namespace Go.Proofs.Ytdakpncfophjnaa
open Go.RowKit
namespace Tre
open Lin CutB Cel Ap
open Opn (TxtV)
set_option maxHeartbeats 6400000 in
set_option maxRecDepth 100000 in
theorem trd_0 (s : ByteArray) (w : World) (h : 3000 < s.size) (hs : s.size ≤ maxLen) :
    Calls Try.prog 9 #[.string s] w fun e w' => e = .returned (.bool true) ∧ Below w.heap.size w w' := by
  unfold maxLen at hs
  go_enter Try.func9, Try.ntmps9
  go_wp2
  go_ret
  exact ⟨rfl, Below.refl _ _⟩
set_option maxHeartbeats 6400000 in
set_option maxRecDepth 100000 in
theorem trd_1 (s : ByteArray) (x : Int) (w : World) (h : s.size ≤ 3000) (hx : ¬ x = 0) (hp : Hid (pTr s.data.toList = ([], x))) :
    Calls Try.prog 9 #[.string s] w fun e w' => e = .returned (.bool true) ∧ Below w.heap.size w w' := by
  go_enter Try.func9, Try.ntmps9
  go_wp2_with fail
  refine (pa_to s _ ([], x) _ (by omega) rfl hp).mono ?_
  rintro e w1 ⟨A1, n1, c1, rfl, hq1, k1⟩
  obtain ⟨a1, m1, z1⟩ := hq1.out.slice
  injection z1 with _ z2 _
  simp only [List.length_nil] at z2
  subst z2
  have B1 := Lib.hid k1
  clear k1 hq1
  go_wp2_with fail
  refine (wakes19_any _).mono ?_
  rintro e w2 ⟨rfl, k2⟩
  go_wp2
  go_ret
  exact ⟨rfl, bstep B1.out k2⟩
set_option maxHeartbeats 12800000 in
set_option maxRecDepth 100000 in
theorem trd_2 (s : ByteArray) (L : List CV) (T : List UInt8) (w : World) (h : s.size ≤ 3000) (hp : Hid (pTr s.data.toList = (L, 0))) (hc : Hid (chkB L = true)) (hn : L.length ≤ 1000000) (h1 : Hid (∀ c ∈ L, i64B c.own)) (h2 : Hid (∀ c ∈ L, smlC c)) (h3 : Hid (∀ c ∈ L, ∀ l ∈ c.ls, smlW l)) (ht : Hid (txT L = (T, 0))) (hT : T.length ≤ 360000) (hq : Hid (pTr T = (L, 0))) :
    Calls Try.prog 9 #[.string s] w fun e w' => e = .returned (.bool true) ∧ Below w.heap.size w w' := by
  go_enter Try.func9, Try.ntmps9
  go_wp2_with fail
  refine (pa_to s _ (L, 0) _ (by omega) rfl hp).mono ?_
  rintro e w1 ⟨A1, n1, c1, rfl, hq1, k1⟩
  have V1 := hq1
  have B1 := Lib.hid k1
  clear k1 hq1
  go_wp2_with fail
  refine (tx_to _ L (T, 0) _ V1.out hn h1.out h2.out h3.out ht).mono ?_
  rintro e w2 ⟨rfl, k1⟩
  have V2 := Lib.hid (V1.out.below k1)
  have B2 := Lib.hid (bstep B1.out k1)
  clear k1 V1 B1
  go_wp2_with fail
  refine (pa_to ⟨T.toArray⟩ T (L, 0) _ (by show T.toArray.size ≤ _; simp; omega) rfl hq).mono ?_
  rintro e w3 ⟨A3, n3, c3, rfl, hq3, k1⟩
  have V3 := Lib.hid (V2.out.below k1)
  have Q3 := hq3
  have B3 := Lib.hid (bstep B2.out k1)
  clear k1 V2 B2 hq3
  go_wp2_with fail
  refine (ck_to _ L true _ V3.out hn h1.out h2.out hc).mono ?_
  rintro e w4 ⟨rfl, k1⟩
  have V4 := Lib.hid (V3.out.below k1)
  have Q4 := Lib.hid (Q3.out.below k1)
  have B4 := Lib.hid (bstep B3.out k1)
  clear k1 V3 B3 Q3
  go_wp2_with fail
  refine (kcm_t _ _ L _ Q4.out V4.out hn h2.out).mono ?_
  rintro e w5 ⟨rfl, k1⟩
  have B5 := Lib.hid (bstep B4.out k1)
  clear k1 V4 B4 Q4
  go_wp2_with fail
  refine (wakes19_any _).mono ?_
  rintro e w6 ⟨rfl, k1⟩
  go_wp2
  go_ret
  exact ⟨rfl, bstep B5.out k1⟩
theorem treads_1 (s : ByteArray) (w : World) (hs : s.size ≤ maxLen) :
    Calls Try.prog 9 #[.string s] w fun e w' => e = .returned (.bool true) ∧ Below w.heap.size w w' := by
  by_cases h : 3000 < s.size
  · exact trd_0 s w h hs
  · have hl : s.data.toList.length ≤ 3000 := by simp; omega
    rcases pTr_cases s.data.toList with ⟨x, h1, h2⟩ | ⟨xs, L, h1, _, _, _⟩
    · exact trd_1 s x w (by omega) h2 (Lib.hid h1)
    · obtain ⟨a1, a2, a3, a4, a5, T, t1, t2, t3⟩ := reads_all hl h1
      exact trd_2 s L T w (by omega) (Lib.hid h1) (Lib.hid a1) a2 (Lib.hid a3) (Lib.hid a4) (Lib.hid a5) (Lib.hid t1) t2 (Lib.hid t3)
end Tre
end Go.Proofs.Ytdakpncfophjnaa
