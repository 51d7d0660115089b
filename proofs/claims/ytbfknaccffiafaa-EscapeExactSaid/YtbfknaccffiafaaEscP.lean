/-
  Package escape: the waking call of its laws; EscapeParts.
-/
import Derived.Test.YtbfknaccffiafaaEscD
namespace Go.Proofs.Ytbfknaccffiafaa
open Go.RowKit
namespace Esc
theorem wk_1 : putR [97, 44, 98, 10] = ([97, 92, 44, 98, 92, 110], 0) := by decide +kernel
theorem wk_2 : getR [120, 92, 59, 92, 78] = ([120, 59, 10], 0) := by decide +kernel
theorem wk_3 : getR [97, 44, 98] = ([], 3) := by decide +kernel
set_option maxHeartbeats 3200000 in
set_option maxRecDepth 100000 in
theorem wakes17_any (w : World) :
    Calls Try.prog 16 #[] w fun e w' => e = .returned (.bool true) ∧ Below w.heap.size w w' := by
  go_enter Try.func16, Try.ntmps16
  go_wp2_with fail
  refine (put_to _ [97, 44, 98, 10] _ _ _ (by decide) (Lib.hid rfl) (Lib.hid wk_1)).mono ?_
  rintro e w1 ⟨rfl, b1⟩
  go_wp2_with fail
  refine (get_to _ [120, 92, 59, 92, 78] _ _ _ (by decide) (Lib.hid rfl) (Lib.hid wk_2)).mono ?_
  rintro e w2 ⟨rfl, d2⟩
  have b2 := b1.trans (d2.mono b1.size)
  go_wp2_with fail
  refine (get_to _ [97, 44, 98] _ _ _ (by decide) (Lib.hid rfl) (Lib.hid wk_3)).mono ?_
  rintro e w3 ⟨rfl, d3⟩
  have b3 := b2.trans (d3.mono b2.size)
  clear d2 d3
  go_wp2_with fail
  refine (unl_wk _ _ (Lib.hid rfl)).mono ?_
  rintro e w4 ⟨v, rfl, r4, d4⟩
  have b4 := b3.trans (d4.mono b3.size)
  obtain ⟨g, c, rfl, g0, g1⟩ := owns2 r4
  have hg := block_lt_of_cell g0
  clear r4 d4
  go_wp2_with fail
  refine (list_wk w4.heap.size _ (by simp) (by go_simp) (by go_simp)).mono ?_
  rintro e w5 ⟨rfl, d5⟩
  have b5 := (b4.alloc b4.size _).trans (d5.mono (by have := b4.size; simp; omega))
  have q0 : w5.cell? ⟨g, 0, none⟩ = some (.string ⟨#[97, 44, 98]⟩) := (d5.cell (p := ⟨g, 0, none⟩) (by simp; have : g < w4.heap.size := hg; omega)).trans ((World.cell?_alloc_lt w4 _ ⟨g, 0, none⟩ hg).trans g0)
  have q1 : w5.cell? ⟨g, 1, none⟩ = some (.string ⟨#[99]⟩) := (d5.cell (p := ⟨g, 1, none⟩) (by simp; have : g < w4.heap.size := hg; omega)).trans ((World.cell?_alloc_lt w4 _ ⟨g, 1, none⟩ hg).trans g1)
  clear g0 g1 hg d5
  go_wp2_with fail
  have q6 : Below w5.heap.size w5 (w5.alloc (Obj.cells #[.string ⟨#[97, 44, 98]⟩, .string ⟨#[99]⟩] 9)) := (Below.refl _ _).alloc (Nat.le_refl _) _
  refine (texts2 g w5.heap.size c 2 ⟨#[97, 44, 98]⟩ ⟨#[99]⟩ _ ((q6.cell (block_lt_of_cell q0)).trans q0) ((q6.cell (block_lt_of_cell q1)).trans q1) (by go_simp) (by go_simp)).mono ?_
  rintro e w7 ⟨rfl, n, rfl⟩
  go_wp2
  go_ret
  exact ⟨rfl, below_drewN (b5.alloc b5.size _) n⟩
theorem putB_app (A B : List UInt8) : putB (A ++ B) = (putB A && putB B) := by unfold putB; rw [List.all_append]
theorem putL_app (A B : List UInt8) : putL (A ++ B) = putL A ++ putL B := by unfold putL; rw [List.flatMap_append]
theorem putL_cons (c : UInt8) (S : List UInt8) : putL (c :: S) = putC c ++ putL S := by unfold putL; rw [List.flatMap_cons]
theorem drop_head {Z T : List UInt8} {k : Nat} {d : UInt8} (h : Z.drop k = d :: T) : ∃ hk : k < Z.length, Z[k] = d ∧ Z.drop (k + 1) = T := by
  have hk : k < Z.length := by
    have := congrArg List.length h
    rw [List.length_drop] at this; simp at this; omega
  rw [List.drop_eq_getElem_cons hk] at h
  injection h with a b
  exact ⟨hk, a, b⟩
set_option maxHeartbeats 6400000 in
set_option maxRecDepth 100000 in
theorem eparts_any (a b : ByteArray) (w : World) :
    Calls Try.prog 5 #[.string a, .string b] w fun e w' => e = .returned (.bool true) ∧ Below w.heap.size w w' := by
  by_cases z1 : 1000 < a.size
  · go_enter Try.func5, Try.ntmps5
    go_wp2
    go_ret
    exact ⟨rfl, Below.refl _ _⟩
  by_cases z2 : 1000 < b.size
  · have z3 : a.size ≤ 1000 := by omega
    go_enter Try.func5, Try.ntmps5
    go_wp2
    go_ret
    exact ⟨rfl, Below.refl _ _⟩
  have z3 : a.size ≤ 1000 := by omega
  have z4 : b.size ≤ 1000 := by omega
  clear z1 z2
  obtain ⟨A, hA⟩ : ∃ x, a.data.toList = x := ⟨_, rfl⟩
  obtain ⟨B, hB⟩ : ∃ x, b.data.toList = x := ⟨_, rfl⟩
  have KA := Lib.hid hA
  have KB := Lib.hid hB
  have KZ : Hid ((a ++ b).data.toList = A ++ B) := Lib.hid (by simp [hA, hB])
  have z5 : Hid ((a ++ b).size ≤ 1000000) := Lib.hid (by rw [ByteArray.size_append]; omega)
  have la : A.length ≤ 1000 := by rw [← hA]; simpa using z3
  have lb : B.length ≤ 1000 := by rw [← hB]; simpa using z4
  have xl := putL_len A
  have yl := putL_len B
  obtain ⟨X, hX⟩ : ∃ x, putL A = x := ⟨_, rfl⟩
  obtain ⟨Y, hY⟩ : ∃ x, putL B = x := ⟨_, rfl⟩
  have hcs : (putR A = ([], 3) ∧ (∃ R c, putR B = (R, c)) ∧ putR (A ++ B) = ([], 3)) ∨ (putR A = (X, 0) ∧ putR B = ([], 3) ∧ putR (A ++ B) = ([], 3)) ∨ (putR A = (X, 0) ∧ putR B = (Y, 0) ∧ putR (A ++ B) = (X ++ Y, 0)) := by
    unfold putR
    rw [putB_app, putL_app, hX, hY]
    cases hp : putB A with
    | false => exact Or.inl ⟨rfl, ⟨_, _, rfl⟩, rfl⟩
    | true =>
      cases hq : putB B with
      | false => exact Or.inr (Or.inl ⟨rfl, rfl, rfl⟩)
      | true => exact Or.inr (Or.inr ⟨rfl, rfl, rfl⟩)
  rw [hX] at xl
  rw [hY] at yl
  have HXY : Hid (X ++ Y = putL (A ++ B)) := Lib.hid (by rw [putL_app, hX, hY])
  clear hA hB hX hY
  rcases hcs with ⟨p1, ⟨R, c, p2⟩, p3⟩ | ⟨p1, p2, p3⟩ | ⟨p1, p2, p3⟩
  · have P1 := Lib.hid p1
    have P2 := Lib.hid p2
    have P3 := Lib.hid p3
    clear p1 p2 p3
    go_enter Try.func5, Try.ntmps5
    go_wp2_with fail
    refine (put_to a A _ _ _ (by omega) KA P1).mono ?_
    rintro e w1 ⟨rfl, b1⟩
    go_wp2_with fail
    refine (put_to b B _ _ _ (by omega) KB P2).mono ?_
    rintro e w2 ⟨rfl, d2⟩
    have b2 := b1.trans (d2.mono b1.size)
    go_wp2_with fail
    refine (put_to _ (A ++ B) _ _ _ z5.out KZ P3).mono ?_
    rintro e w3 ⟨rfl, d3⟩
    have b3 := b2.trans (d3.mono b2.size)
    clear d2 d3
    go_wp2_with fail
    refine (wakes17_any _).mono ?_
    rintro e w4 ⟨rfl, d4⟩
    go_wp2
    go_ret
    exact ⟨rfl, b3.trans (d4.mono b3.size)⟩
  · have P1 := Lib.hid p1
    have P2 := Lib.hid p2
    have P3 := Lib.hid p3
    clear p1 p2 p3
    go_enter Try.func5, Try.ntmps5
    go_wp2_with fail
    refine (put_to a A _ _ _ (by omega) KA P1).mono ?_
    rintro e w1 ⟨rfl, b1⟩
    go_wp2_with fail
    refine (put_to b B _ _ _ (by omega) KB P2).mono ?_
    rintro e w2 ⟨rfl, d2⟩
    have b2 := b1.trans (d2.mono b1.size)
    go_wp2_with fail
    refine (put_to _ (A ++ B) _ _ _ z5.out KZ P3).mono ?_
    rintro e w3 ⟨rfl, d3⟩
    have b3 := b2.trans (d3.mono b2.size)
    clear d2 d3
    go_wp2_with fail
    refine (wakes17_any _).mono ?_
    rintro e w4 ⟨rfl, d4⟩
    go_wp2
    go_ret
    exact ⟨rfl, b3.trans (d4.mono b3.size)⟩
  · have P1 := Lib.hid p1
    have P2 := Lib.hid p2
    obtain ⟨Z, hZ⟩ : ∃ Z, X ++ Y = Z := ⟨_, rfl⟩
    rw [hZ] at p3 HXY
    have P3 := Lib.hid p3
    have HZ := Lib.hid hZ
    have lz : Z.length ≤ 4000 := by rw [← hZ, List.length_append]; omega
    have zz : (⟨Z.toArray⟩ : ByteArray).size = Z.length := rfl
    clear p1 p2 p3 hZ
    go_enter Try.func5, Try.ntmps5
    go_wp2_with fail
    refine (put_to a A _ _ _ (by omega) KA P1).mono ?_
    rintro e w1 ⟨rfl, b1⟩
    go_wp2_with fail
    refine (put_to b B _ _ _ (by omega) KB P2).mono ?_
    rintro e w2 ⟨rfl, d2⟩
    have b2 := b1.trans (d2.mono b1.size)
    go_wp2_with fail
    refine (put_to _ (A ++ B) _ _ _ z5.out KZ P3).mono ?_
    rintro e w3 ⟨rfl, d3⟩
    have b3 := b2.trans (d3.mono b2.size)
    clear d2 d3
    go_wp2
    go_loopw [11] (fun iv wr => ∃ (k : Nat) (T : List UInt8), k ≤ Z.length ∧ iv = .int .i64 k ∧ Hid (Z.drop k = putL T) ∧ Below w.heap.size w wr) (fun iv _ => Z.length - (intOf iv).toNat)
    case atStart => exact ⟨0, A ++ B, Nat.zero_le _, rfl, Lib.hid (by rw [List.drop_zero]; exact HXY.out), b3⟩
    case round =>
      obtain ⟨k, T, hk, rfl, hT, hb⟩ := hrel
      cases T with
      | nil =>
        have hkz : k = Z.length := by
          have := congrArg List.length hT.out
          rw [List.length_drop] at this
          simp [putL] at this
          omega
        subst hkz
        have hxy : (Z == ((⟨X.toArray⟩ : ByteArray) ++ ⟨Y.toArray⟩).toList) = true := by rw [Lib.toList_data, ← HZ.out]; simp
        go_wp2_with fail
        refine (wakes17_any _).mono ?_
        rintro e w4 ⟨rfl, d4⟩
        go_wp2
        go_ret
        first | exact ⟨rfl, hb.trans (d4.mono hb.size)⟩ | exact ⟨ret_b (by simp [hxy]), hb.trans (d4.mono hb.size)⟩
      | cons c T =>
        have h1 := hT.out
        rw [putL_cons] at h1
        have hc : (∃ d, putC c = [92, d]) ∨ (putC c = [c] ∧ ((c.toNat : Int) == 92) = false ∧ ((c.toNat : Int) == 44) = false ∧ ((c.toNat : Int) == 59) = false ∧ ((c.toNat : Int) == 10) = false) := by
          unfold putC
          by_cases x1 : c = 10
          · rw [if_pos x1]; exact Or.inl ⟨_, rfl⟩
          · rw [if_neg x1]
            by_cases x2 : c = 92 ∨ c = 59 ∨ c = 44
            · rw [if_pos x2]; exact Or.inl ⟨_, rfl⟩
            · rw [if_neg x2]
              exact Or.inr ⟨rfl, u8_ne (n := 92) (by decide) (fun h => x2 (Or.inl h)), u8_ne (n := 44) (by decide) (fun h => x2 (Or.inr (Or.inr h))), u8_ne (n := 59) (by decide) (fun h => x2 (Or.inr (Or.inl h))), u8_ne (n := 10) (by decide) x1⟩
        rcases hc with ⟨d, hd⟩ | ⟨hd, n1, n2, n3, n4⟩
        · rw [hd] at h1
          obtain ⟨k1, e1, h2⟩ := drop_head h1
          obtain ⟨k2, e2, h3⟩ := drop_head h2
          have hz : (⟨Z.toArray⟩ : ByteArray)[k]'k1 = 92 := e1
          have HN : Hid (Z.drop (k + 2) = putL T) := Lib.hid h3
          clear h1 h2 h3 e1 e2 hd hT
          go_wp2
          go_roundw
          case rel => exact ⟨k + 2, T, by omega, by first | go_num | (apply congrArg; omega), HN, hb⟩
          case measure => simp [intOf]; omega
        · rw [hd] at h1
          obtain ⟨k1, e1, h2⟩ := drop_head h1
          have hz : (⟨Z.toArray⟩ : ByteArray)[k]'k1 = c := e1
          have HN : Hid (Z.drop (k + 1) = putL T) := Lib.hid h2
          have cb := c.toNat_lt
          clear h1 h2 e1 hd hT
          go_wp2
          go_roundw
          case rel => exact ⟨k + 1, T, by omega, by first | go_num | (apply congrArg; omega), HN, hb⟩
          case measure => simp [intOf]; omega
end Esc
end Go.Proofs.Ytbfknaccffiafaa
