/-
  OnExact: the law answers true at every text and form, in whatever world that holds the tables.
-/
import Derived.Test.YtikjlnkpcjjigaaDoorOnBad
import Derived.Test.YtikjlnkpcjjigaaDoorRefOn2
import Derived.Test.YtikjlnkpcjjigaaDoorRefOnT
namespace Go.Proofs.YtikjlnkpcjjigaaDoor
open Go.RowKit
namespace Onf
open Sol Wrd Clk Wk
set_option maxHeartbeats 3200000 in
set_option maxRecDepth 100000 in
theorem oexact_any (s : ByteArray) (k v d : Int) (w : World) (hp : Pow w) (hm : MaxL w) :
    Calls Tryd.prog 3 #[.string s, .agg #[.int .i64 k, .int .i64 v, .int .i64 d]] w fun e w' => e = .returned (.bool true) ∧ Below w.heap.size w w' := by
  by_cases hbig : 60 < s.size
  · clear hp hm
    go_enter Tryd.func3, Tryd.ntmps3
    go_wp2
    go_ret
    exact ⟨rfl, (Below.refl _ _).alloc (Nat.le_refl _) _⟩
  · have hs : s.size ≤ 60 := by omega
    have HS : Hid (s.size ≤ 1000) := Lib.hid (by omega)
    have HP := Lib.hid hp
    have HM := Lib.hid hm
    clear hbig hp hm
    obtain ⟨S, hS⟩ : ∃ S, s.data.toList = S := ⟨_, rfl⟩
    have HSS := Lib.hid hS
    obtain ⟨A, B, C, E, hE⟩ : ∃ a b c e, onP S = (a, b, c, e) := ⟨_, _, _, _, rfl⟩
    have HE := Lib.hid hE
    obtain ⟨T, hT⟩ : ∃ T, onT k v d = T := ⟨_, rfl⟩
    obtain ⟨c, hc⟩ : ∃ c, chE k v d = c := ⟨_, rfl⟩
    have HT := Lib.hid (And.intro hT hc)
    have HT1 := Lib.hid hT
    obtain ⟨o, ho⟩ : ∃ o, onOk k v d = o := ⟨_, rfl⟩
    have HO := Lib.hid ho
    have HF : Hid (o = false → T = [] ∧ c = 8) := Lib.hid (fun h => by
      rw [h] at ho
      exact ⟨by rw [← hT, onT, ho]; rfl, by rw [← hc]; exact chE_no ho⟩)
    have HY : Hid (o = true → c = 0) := Lib.hid (fun h => by
      rw [h] at ho
      rw [← hc]; exact chE_yes ho)
    clear hS hE hT hc ho
    have HN0 := Lib.hid (On3.new w 23 k v d)
    have hB0 : Below w.heap.size w (w.alloc (Obj.cells #[.int .i64 k, .int .i64 v, .int .i64 d] 23)) := (Below.refl _ _).alloc (Nat.le_refl _) _
    go_enter Tryd.func3, Tryd.ntmps3
    go_wp2_with fail
    refine (oparse_to s S A B C E _ (HM.out.stays hB0) HS.out HSS HE).mono ?_
    rintro x w1 ⟨rfl, hb1⟩
    have hB1 : Below w.heap.size w w1 := hB0.trans (hb1.mono hB0.size)
    have HN1 := Lib.hid ((HN0.out.below hb1).below ((Below.refl _ _).alloc (Nat.le_refl _) (Obj.cells #[.int .i64 A, .int .i64 B, .int .i64 C] 23)))
    have HX1 := Lib.hid (On3.new w1 23 A B C)
    have hB2 : Below w.heap.size w (w1.alloc (Obj.cells #[.int .i64 A, .int .i64 B, .int .i64 C] 23)) := hB1.alloc hB1.size _
    clear hb1 hB1 hB0
    go_upto_region 4 with fail
    obtain ⟨w2, hw2⟩ : ∃ x, w1.alloc (Obj.cells #[.int .i64 A, .int .i64 B, .int .i64 C] 23) = x := ⟨_, rfl⟩
    obtain ⟨g, hg⟩ : ∃ x, w1.heap.size = x := ⟨_, rfl⟩
    rw [hw2] at HN1 HX1 hB2
    rw [hg] at HX1
    rw [hw2, hg]
    clear hw2 hg
    obtain ⟨_, n0, n1, n2⟩ := HN1.out
    go_wp2_with fail
    refine (otext_to _ _ _ _ _ _ (HP.out.stays hB2) HT).mono ?_
    rintro x w3 ⟨rfl, hb3⟩
    have hB3 : Below w.heap.size w w3 := hB2.trans (hb3.mono hB2.size)
    have HN3 := Lib.hid (HN1.out.below hb3)
    have HX3 := Lib.hid (HX1.out.below hb3)
    clear hb3 n0 n1 n2 hB2
    go_wp2_with fail
    refine (ronform_any s S _ HS.out HSS).mono ?_
    rintro x w4 ⟨A2, B2, C2, r, rfl, HR, hb4⟩
    have hB4 : Below w.heap.size w w4 := hB3.trans (hb4.mono hB3.size)
    have HN4 := Lib.hid ((HN3.out.below hb4).below ((Below.refl _ _).alloc (Nat.le_refl _) (Obj.cells #[.int .i64 A2, .int .i64 B2, .int .i64 C2] 23)))
    have HX4 := Lib.hid ((HX3.out.below hb4).below ((Below.refl _ _).alloc (Nat.le_refl _) (Obj.cells #[.int .i64 A2, .int .i64 B2, .int .i64 C2] 23)))
    have HY4 := Lib.hid (On3.new w4 23 A2 B2 C2)
    have hB5 := hB4.alloc hB4.size (Obj.cells #[.int .i64 A2, .int .i64 B2, .int .i64 C2] 23)
    clear hb4 hB3 hB4
    go_upto_region 6 with fail
    obtain ⟨w5, hw5⟩ : ∃ x, w4.alloc (Obj.cells #[.int .i64 A2, .int .i64 B2, .int .i64 C2] 23) = x := ⟨_, rfl⟩
    obtain ⟨g4, hg4⟩ : ∃ x, w4.heap.size = x := ⟨_, rfl⟩
    rw [hw5] at HN4 HX4 HY4 hB5
    rw [hg4] at HY4
    rw [hw5, hg4]
    clear hw5 hg4
    have HRR : Hid ((r = true ∧ A = A2 ∧ B = B2 ∧ C = C2 ∧ E = 0) ∨ (r = false ∧ A = 0 ∧ B = 0 ∧ C = 0 ∧ E = 8)) := Lib.hid (by
      rcases HR.out with ⟨h1, h2⟩ | ⟨h1, h2⟩
      · left; rw [HE.out] at h2; simp at h2; exact ⟨h1, h2.1, h2.2.1, h2.2.2.1, h2.2.2.2⟩
      · right; rw [HE.out] at h2; simp at h2; exact ⟨h1, h2.1, h2.2.1, h2.2.2.1, h2.2.2.2⟩)
    clear HR
    go_cut [51] (fun x wx => x = .bool false ∧ w5 = wx)
    case first =>
      obtain ⟨_, x0, x1, x2⟩ := HX4.out
      obtain ⟨_, y0, y1, y2⟩ := HY4.out
      rcases HRR.out with ⟨rfl, rfl, rfl, rfl, rfl⟩ | ⟨rfl, rfl, rfl, rfl, rfl⟩
      · clear HRR
        go_wp2
        go_meet
        exact ⟨rfl, rfl⟩
      · clear HRR
        go_wp2
        go_meet
        exact ⟨rfl, rfl⟩
    case rest =>
    obtain ⟨rfl, hwx⟩ := hcut
    subst hwx
    obtain ⟨_, n0, n1, n2⟩ := HN4.out
    clear HRR
    cases o with
    | false =>
      obtain ⟨rfl, rfl⟩ := HF.out rfl
      go_wp2_with fail
      refine (ron_b _ _ _ false _ HO).mono ?_
      rintro x w6 ⟨rfl, hb6⟩
      have hB6 : Below w.heap.size w w6 := hB5.trans (hb6.mono hB5.size)
      clear hb6
      go_wp2_with fail
      refine (wakes7_any _ (HP.out.stays hB6) (HM.out.stays hB6)).mono ?_
      rintro x w7 ⟨rfl, hb7⟩
      go_wp2
      go_ret
      exact ⟨rfl, hB6.trans (hb7.mono hB6.size)⟩
    | true =>
      obtain rfl := HY.out rfl
      go_wp2_with fail
      refine (ron_b _ _ _ true _ HO).mono ?_
      rintro x w6 ⟨rfl, hb6⟩
      have hB6 : Below w.heap.size w w6 := hB5.trans (hb6.mono hB5.size)
      obtain ⟨_, m0, m1, m2⟩ := HN4.out.below hb6
      clear hb6 n0 n1 n2
      go_wp2_with fail
      refine (rontext_to _ _ _ T _ HO.out HT1).mono ?_
      rintro x w7 ⟨rfl, hb7⟩
      have hB7 : Below w.heap.size w w7 := hB6.trans (hb7.mono hB6.size)
      clear hb7
      go_wp2_with fail
      refine (wakes7_any _ (HP.out.stays hB7) (HM.out.stays hB7)).mono ?_
      rintro x w8 ⟨rfl, hb8⟩
      go_wp2
      go_ret
      exact ⟨rfl, hB7.trans (hb8.mono hB7.size)⟩
end Onf
end Go.Proofs.YtikjlnkpcjjigaaDoor
