/-
  The reference's Get: it says what the program's says. (Written by gen/gen_escg.py.)
-/
import Derived.Test.YtbfknaccffiafaaEscB
import Derived.Test.YtbfknaccffiafaaEscR
namespace Go.Proofs.Ytbfknaccffiafaa
open Go.RowKit
namespace Esc
set_option maxHeartbeats 6400000 in
set_option maxRecDepth 100000 in
theorem rget_to (s : ByteArray) (S R : List UInt8) (rc : Int) (w : World) (hs : s.size ≤ 1000000) (hS : Hid (s.data.toList = S)) (h : Hid (getR S = (R, rc))) :
    Calls Try.prog 13 #[.string s] w fun e w' => e = .returned (.tuple #[.string ⟨R.toArray⟩, .int .i64 rc]) ∧ Below w.heap.size w w' := by
  have HX := h
  clear h
  have hl : S.length = s.size := by rw [← hS.out]; simp
  have HL := Lib.hid hl
  clear hl
  obtain ⟨i0, hi0, hz0, hz1, hz2⟩ := info_parts iu
  go_enter Try.func13, Try.ntmps13
  go_wp2
  go_loopw [4, 5] (fun bs iv wr => ∃ (k : Nat) (P : List UInt8), k ≤ s.size ∧ P.length ≤ k ∧ iv = .int .i64 k ∧ Hid ((P = [] ∧ bs = .slice none 0 0) ∨ ∃ g cap, bs = .slice (some ⟨g, 0, none⟩) P.length cap) ∧ Hid (getS S = (getS (S.drop k)).map (fun r => P ++ r)) ∧ wr.ownsRow w.heap.size 5 1 bs P.length (P.map bv) ∧ Below w.heap.size w wr) (fun _ iv _ => s.size - (intOf iv).toNat)
  case atStart => exact ⟨0, [], Nat.zero_le _, Nat.le_refl _, rfl, Lib.hid (Or.inl ⟨rfl, rfl⟩), Lib.hid (by simp), World.ownsRow_nil _ _ _ _, Below.refl _ _⟩
  case round =>
    obtain ⟨k, P, hk, hPk, rfl, hform, hg, hown, hb⟩ := hrel
    by_cases hlt : k < s.size
    · have hkS : k < S.length := by rw [HL.out]; exact hlt
      obtain ⟨c, hx⟩ : ∃ c, S[k]'hkS = c := ⟨_, rfl⟩
      have hcc : s[k] = c := by
        have : s[k] = s.data.toList[k]'(by simpa using hlt) := by simp [ByteArray.getElem_eq_getElem_data]
        rw [this, ← hx]
        exact List.getElem_of_eq hS.out _
      have hd : S.drop k = c :: S.drop (k + 1) := by rw [List.drop_eq_getElem_cons hkS, hx]
      have hg1 := hg.out
      rw [hd, get_cons] at hg1
      have HNO : Hid (getS S = none → R = [] ∧ rc = 3) := Lib.hid (fun h => by have h3 := HX.out; rw [getR, h] at h3; injection h3 with a b; exact ⟨a.symm, b.symm⟩)
      have cb := c.toNat_lt
      obtain ⟨n, hn⟩ : ∃ n, P.length = n := ⟨_, rfl⟩
      have HNn := Lib.hid hn
      rw [hn] at hown hPk
      have hcs : (ctl c = true ∧ getS S = none) ∨ (ctl c = false ∧ ((c = 59 ∧ getS S = none) ∨ (c = 44 ∧ getS S = none) ∨ (c = 92 ∧ ((s.size ≤ k + 1 ∧ getS S = none) ∨ ∃ (h2 : k + 1 < s.size) (d : UInt8), s[k + 1] = d ∧ ((d = 92 ∧ getS S = (getS (S.drop (k + 2))).map (fun r => (P ++ [92]) ++ r)) ∨ (d = 59 ∧ getS S = (getS (S.drop (k + 2))).map (fun r => (P ++ [59]) ++ r)) ∨ (d = 44 ∧ getS S = (getS (S.drop (k + 2))).map (fun r => (P ++ [44]) ++ r)) ∨ (d = 110 ∧ getS S = (getS (S.drop (k + 2))).map (fun r => (P ++ [10]) ++ r)) ∨ (d = 78 ∧ getS S = (getS (S.drop (k + 2))).map (fun r => (P ++ [10]) ++ r)) ∨ (((d.toNat : Int) == 92) = false ∧ ((d.toNat : Int) == 59) = false ∧ ((d.toNat : Int) == 44) = false ∧ ((d.toNat : Int) == 110) = false ∧ ((d.toNat : Int) == 78) = false ∧ getS S = none)))) ∨
          (((c.toNat : Int) == 59) = false ∧ ((c.toNat : Int) == 44) = false ∧ ((c.toNat : Int) == 92) = false ∧ getS S = (getS (S.drop (k + 1))).map (fun r => (P ++ [c]) ++ r)))) := by
        cases hct : ctl c with
        | true => rw [if_pos (Or.inl hct)] at hg1; exact Or.inl ⟨rfl, hg1⟩
        | false =>
          refine Or.inr ⟨rfl, ?_⟩
          by_cases x1 : c = 59
          · rw [if_pos (Or.inr (Or.inl x1))] at hg1; exact Or.inl ⟨x1, hg1⟩
          · by_cases x2 : c = 44
            · rw [if_pos (Or.inr (Or.inr x2))] at hg1; exact Or.inr (Or.inl ⟨x2, hg1⟩)
            · rw [if_neg (fun h => h.elim (fun h => by rw [hct] at h; cases h) (fun h => h.elim x1 x2))] at hg1
              by_cases x3 : c = 92
              · refine Or.inr (Or.inr (Or.inl ⟨x3, ?_⟩))
                rw [if_pos x3] at hg1
                by_cases h2 : k + 1 < S.length
                · have h2s : k + 1 < s.size := by rw [← HL.out]; exact h2
                  have hd2 : S.drop (k + 1) = S[k + 1]'h2 :: S.drop (k + 2) := List.drop_eq_getElem_cons h2
                  rw [hd2] at hg1
                  obtain ⟨d, hdx⟩ : ∃ d, S[k + 1]'h2 = d := ⟨_, rfl⟩
                  rw [hdx] at hg1
                  simp only at hg1
                  have hdd : s[k + 1] = d := by
                    have : s[k + 1] = s.data.toList[k + 1]'(by simpa using h2s) := by simp [ByteArray.getElem_eq_getElem_data]
                    rw [this, ← hdx]
                    exact List.getElem_of_eq hS.out _
                  refine Or.inr ⟨h2s, d, hdd, ?_⟩
                  have hmm : ∀ m, mnt d = some m → getS S = (getS (S.drop (k + 2))).map (fun r => (P ++ [m]) ++ r) := fun m hm => by
                    rw [hm] at hg1
                    simp only [Option.map_map] at hg1
                    rw [hg1]
                    congr 1
                    funext r
                    simp
                  by_cases y1 : d = 92
                  · exact Or.inl ⟨y1, hmm 92 (by rw [y1]; rfl)⟩
                  by_cases y2 : d = 59
                  · exact Or.inr (Or.inl ⟨y2, hmm 59 (by rw [y2]; rfl)⟩)
                  by_cases y3 : d = 44
                  · exact Or.inr (Or.inr (Or.inl ⟨y3, hmm 44 (by rw [y3]; rfl)⟩))
                  by_cases y4 : d = 110
                  · exact Or.inr (Or.inr (Or.inr (Or.inl ⟨y4, hmm 10 (by rw [y4]; rfl)⟩)))
                  by_cases y5 : d = 78
                  · exact Or.inr (Or.inr (Or.inr (Or.inr (Or.inl ⟨y5, hmm 10 (by rw [y5]; rfl)⟩))))
                  have hn2 : mnt d = none := by rw [mnt, if_neg (fun h => h.elim y1 (fun h => h.elim y2 y3)), if_neg (fun h => h.elim y4 y5)]
                  rw [hn2] at hg1
                  exact Or.inr (Or.inr (Or.inr (Or.inr (Or.inr ⟨u8_ne (n := 92) (by decide) y1, u8_ne (n := 59) (by decide) y2, u8_ne (n := 44) (by decide) y3, u8_ne (n := 110) (by decide) y4, u8_ne (n := 78) (by decide) y5, hg1⟩))))
                · have hd2 : S.drop (k + 1) = [] := List.drop_eq_nil_of_le (by omega)
                  rw [hd2] at hg1
                  exact Or.inl ⟨by rw [HL.out] at h2; omega, hg1⟩
              · rw [if_neg x3] at hg1
                refine Or.inr (Or.inr (Or.inr ⟨u8_ne (n := 59) (by decide) x1, u8_ne (n := 44) (by decide) x2, u8_ne (n := 92) (by decide) x3, ?_⟩))
                rw [hg1, Option.map_map]
                congr 1
                funext r
                simp
      clear hg1 hd hx hkS hn hg hform
      rcases hcs with ⟨hct, ho⟩ | ⟨hct, ⟨rfl, ho⟩ | ⟨rfl, ho⟩ | ⟨rfl, ⟨h2, ho⟩ | ⟨h2, d, hdd, ⟨rfl, ho⟩ | ⟨rfl, ho⟩ | ⟨rfl, ho⟩ | ⟨rfl, ho⟩ | ⟨rfl, ho⟩ | ⟨y1, y2, y3, y4, y5, ho⟩⟩⟩ | ⟨x1, x2, x3, ho⟩⟩
      · have HFF := Lib.hid (HNO.out ho)
        clear ho HNO
        have HCT := Lib.hid hct
        clear hct
        go_wp2_with fail
        refine (rbad_to c true _ HCT).mono ?_
        rintro e w2 ⟨rfl, rfl⟩
        go_wp2
        go_ret2
        exact ⟨ret_si (by rw [HFF.out.1]) HFF.out.2.symm, hb⟩
      · have HFF := Lib.hid (HNO.out ho)
        clear ho HNO
        have HCT := Lib.hid hct
        clear hct
        go_wp2_with fail
        refine (rbad_to 59 false _ HCT).mono ?_
        rintro e w2 ⟨rfl, rfl⟩
        go_wp2
        go_ret2
        exact ⟨ret_si (by rw [HFF.out.1]) HFF.out.2.symm, hb⟩
      · have HFF := Lib.hid (HNO.out ho)
        clear ho HNO
        have HCT := Lib.hid hct
        clear hct
        go_wp2_with fail
        refine (rbad_to 44 false _ HCT).mono ?_
        rintro e w2 ⟨rfl, rfl⟩
        go_wp2
        go_ret2
        exact ⟨ret_si (by rw [HFF.out.1]) HFF.out.2.symm, hb⟩
      · have HFF := Lib.hid (HNO.out ho)
        clear ho HNO
        have HCT := Lib.hid hct
        clear hct
        go_wp2_with fail
        refine (rbad_to 92 false _ HCT).mono ?_
        rintro e w2 ⟨rfl, rfl⟩
        go_wp2
        go_ret2
        exact ⟨ret_si (by rw [HFF.out.1]) HFF.out.2.symm, hb⟩
      · have HG := Lib.hid ho
        clear ho HNO
        have HCT := Lib.hid hct
        clear hct
        go_wp2_with fail
        refine (rbad_to 92 false _ HCT).mono ?_
        rintro e w2 ⟨rfl, rfl⟩
        have ho2 := hown.alloc (Obj.cells #[.int .u8 92] 5)
        go_wp2_with (at_builtin; refine wpList_append_own _ rfl _ _ 36 rfl w.heap.size 5 i0 (.int .u8 0) 1 1 (by kernel_rfl) hi0 hz0 hz1 hz2 rfl (by decide) _ _ _ rfl ho2 ⟨wr.heap.size, 0, none⟩ 1 1 [.int .u8 92] rfl rfl ?d1 ?d2 ?d3 ?d4 ?d5 ?_)
        case d1 =>
          intro j u hj
          match j, hj with
          | 0, hj => simp at hj; subst hj; simp [Addr.add]
        case d2 => intro u hu; simp at hu; subst hu; rfl
        case d3 => unfold maxLen; omega
        case d4 => omega
        case d5 => have := hb.size; simp; omega
        intro s' w5 r3 g3 hne
        obtain ⟨gs, cs, rfl, _, _⟩ := r3.form (by omega)
        have hb5 : Below w.heap.size w w5 := (hb.alloc hb.size _).grown g3 (by have := hb.size; simp; omega) (fun j hj => (ho2.lt j hj).1)
        have HQ : Hid ((P ++ [92]).length = n + 1 ∧ (P ++ [92]).map bv = P.map bv ++ [.int .u8 92]) := Lib.hid ⟨by rw [List.length_append, HNn.out]; rfl, by rw [List.map_append]; rfl⟩
        clear hown ho2 g3 hne
        go_wp2
        go_roundw
        case rel => exact ⟨k + 2, P ++ [92], by omega, by rw [HQ.out.1]; omega, by first | go_num | (apply congrArg; omega), Lib.hid (Or.inr ⟨gs, cs, by rw [HQ.out.1]⟩), HG, by rw [HQ.out.1, HQ.out.2]; exact r3, hb5⟩
        case measure => simp [intOf]; omega
      · have HG := Lib.hid ho
        clear ho HNO
        have HCT := Lib.hid hct
        clear hct
        go_wp2_with fail
        refine (rbad_to 92 false _ HCT).mono ?_
        rintro e w2 ⟨rfl, rfl⟩
        have ho2 := hown.alloc (Obj.cells #[.int .u8 59] 5)
        go_wp2_with (at_builtin; refine wpList_append_own _ rfl _ _ 36 rfl w.heap.size 5 i0 (.int .u8 0) 1 1 (by kernel_rfl) hi0 hz0 hz1 hz2 rfl (by decide) _ _ _ rfl ho2 ⟨wr.heap.size, 0, none⟩ 1 1 [.int .u8 59] rfl rfl ?d1 ?d2 ?d3 ?d4 ?d5 ?_)
        case d1 =>
          intro j u hj
          match j, hj with
          | 0, hj => simp at hj; subst hj; simp [Addr.add]
        case d2 => intro u hu; simp at hu; subst hu; rfl
        case d3 => unfold maxLen; omega
        case d4 => omega
        case d5 => have := hb.size; simp; omega
        intro s' w5 r3 g3 hne
        obtain ⟨gs, cs, rfl, _, _⟩ := r3.form (by omega)
        have hb5 : Below w.heap.size w w5 := (hb.alloc hb.size _).grown g3 (by have := hb.size; simp; omega) (fun j hj => (ho2.lt j hj).1)
        have HQ : Hid ((P ++ [59]).length = n + 1 ∧ (P ++ [59]).map bv = P.map bv ++ [.int .u8 59]) := Lib.hid ⟨by rw [List.length_append, HNn.out]; rfl, by rw [List.map_append]; rfl⟩
        clear hown ho2 g3 hne
        go_wp2
        go_roundw
        case rel => exact ⟨k + 2, P ++ [59], by omega, by rw [HQ.out.1]; omega, by first | go_num | (apply congrArg; omega), Lib.hid (Or.inr ⟨gs, cs, by rw [HQ.out.1]⟩), HG, by rw [HQ.out.1, HQ.out.2]; exact r3, hb5⟩
        case measure => simp [intOf]; omega
      · have HG := Lib.hid ho
        clear ho HNO
        have HCT := Lib.hid hct
        clear hct
        go_wp2_with fail
        refine (rbad_to 92 false _ HCT).mono ?_
        rintro e w2 ⟨rfl, rfl⟩
        have ho2 := hown.alloc (Obj.cells #[.int .u8 44] 5)
        go_wp2_with (at_builtin; refine wpList_append_own _ rfl _ _ 36 rfl w.heap.size 5 i0 (.int .u8 0) 1 1 (by kernel_rfl) hi0 hz0 hz1 hz2 rfl (by decide) _ _ _ rfl ho2 ⟨wr.heap.size, 0, none⟩ 1 1 [.int .u8 44] rfl rfl ?d1 ?d2 ?d3 ?d4 ?d5 ?_)
        case d1 =>
          intro j u hj
          match j, hj with
          | 0, hj => simp at hj; subst hj; simp [Addr.add]
        case d2 => intro u hu; simp at hu; subst hu; rfl
        case d3 => unfold maxLen; omega
        case d4 => omega
        case d5 => have := hb.size; simp; omega
        intro s' w5 r3 g3 hne
        obtain ⟨gs, cs, rfl, _, _⟩ := r3.form (by omega)
        have hb5 : Below w.heap.size w w5 := (hb.alloc hb.size _).grown g3 (by have := hb.size; simp; omega) (fun j hj => (ho2.lt j hj).1)
        have HQ : Hid ((P ++ [44]).length = n + 1 ∧ (P ++ [44]).map bv = P.map bv ++ [.int .u8 44]) := Lib.hid ⟨by rw [List.length_append, HNn.out]; rfl, by rw [List.map_append]; rfl⟩
        clear hown ho2 g3 hne
        go_wp2
        go_roundw
        case rel => exact ⟨k + 2, P ++ [44], by omega, by rw [HQ.out.1]; omega, by first | go_num | (apply congrArg; omega), Lib.hid (Or.inr ⟨gs, cs, by rw [HQ.out.1]⟩), HG, by rw [HQ.out.1, HQ.out.2]; exact r3, hb5⟩
        case measure => simp [intOf]; omega
      · have HG := Lib.hid ho
        clear ho HNO
        have HCT := Lib.hid hct
        clear hct
        go_wp2_with fail
        refine (rbad_to 92 false _ HCT).mono ?_
        rintro e w2 ⟨rfl, rfl⟩
        have ho2 := hown.alloc (Obj.cells #[.int .u8 10] 5)
        go_wp2_with (at_builtin; refine wpList_append_own _ rfl _ _ 36 rfl w.heap.size 5 i0 (.int .u8 0) 1 1 (by kernel_rfl) hi0 hz0 hz1 hz2 rfl (by decide) _ _ _ rfl ho2 ⟨wr.heap.size, 0, none⟩ 1 1 [.int .u8 10] rfl rfl ?d1 ?d2 ?d3 ?d4 ?d5 ?_)
        case d1 =>
          intro j u hj
          match j, hj with
          | 0, hj => simp at hj; subst hj; simp [Addr.add]
        case d2 => intro u hu; simp at hu; subst hu; rfl
        case d3 => unfold maxLen; omega
        case d4 => omega
        case d5 => have := hb.size; simp; omega
        intro s' w5 r3 g3 hne
        obtain ⟨gs, cs, rfl, _, _⟩ := r3.form (by omega)
        have hb5 : Below w.heap.size w w5 := (hb.alloc hb.size _).grown g3 (by have := hb.size; simp; omega) (fun j hj => (ho2.lt j hj).1)
        have HQ : Hid ((P ++ [10]).length = n + 1 ∧ (P ++ [10]).map bv = P.map bv ++ [.int .u8 10]) := Lib.hid ⟨by rw [List.length_append, HNn.out]; rfl, by rw [List.map_append]; rfl⟩
        clear hown ho2 g3 hne
        go_wp2
        go_roundw
        case rel => exact ⟨k + 2, P ++ [10], by omega, by rw [HQ.out.1]; omega, by first | go_num | (apply congrArg; omega), Lib.hid (Or.inr ⟨gs, cs, by rw [HQ.out.1]⟩), HG, by rw [HQ.out.1, HQ.out.2]; exact r3, hb5⟩
        case measure => simp [intOf]; omega
      · have HG := Lib.hid ho
        clear ho HNO
        have HCT := Lib.hid hct
        clear hct
        go_wp2_with fail
        refine (rbad_to 92 false _ HCT).mono ?_
        rintro e w2 ⟨rfl, rfl⟩
        have ho2 := hown.alloc (Obj.cells #[.int .u8 10] 5)
        go_wp2_with (at_builtin; refine wpList_append_own _ rfl _ _ 36 rfl w.heap.size 5 i0 (.int .u8 0) 1 1 (by kernel_rfl) hi0 hz0 hz1 hz2 rfl (by decide) _ _ _ rfl ho2 ⟨wr.heap.size, 0, none⟩ 1 1 [.int .u8 10] rfl rfl ?d1 ?d2 ?d3 ?d4 ?d5 ?_)
        case d1 =>
          intro j u hj
          match j, hj with
          | 0, hj => simp at hj; subst hj; simp [Addr.add]
        case d2 => intro u hu; simp at hu; subst hu; rfl
        case d3 => unfold maxLen; omega
        case d4 => omega
        case d5 => have := hb.size; simp; omega
        intro s' w5 r3 g3 hne
        obtain ⟨gs, cs, rfl, _, _⟩ := r3.form (by omega)
        have hb5 : Below w.heap.size w w5 := (hb.alloc hb.size _).grown g3 (by have := hb.size; simp; omega) (fun j hj => (ho2.lt j hj).1)
        have HQ : Hid ((P ++ [10]).length = n + 1 ∧ (P ++ [10]).map bv = P.map bv ++ [.int .u8 10]) := Lib.hid ⟨by rw [List.length_append, HNn.out]; rfl, by rw [List.map_append]; rfl⟩
        clear hown ho2 g3 hne
        go_wp2
        go_roundw
        case rel => exact ⟨k + 2, P ++ [10], by omega, by rw [HQ.out.1]; omega, by first | go_num | (apply congrArg; omega), Lib.hid (Or.inr ⟨gs, cs, by rw [HQ.out.1]⟩), HG, by rw [HQ.out.1, HQ.out.2]; exact r3, hb5⟩
        case measure => simp [intOf]; omega
      · have HFF := Lib.hid (HNO.out ho)
        clear ho HNO
        have db := d.toNat_lt
        have HCT := Lib.hid hct
        clear hct
        go_wp2_with fail
        refine (rbad_to 92 false _ HCT).mono ?_
        rintro e w2 ⟨rfl, rfl⟩
        go_wp2
        go_ret2
        exact ⟨ret_si (by rw [HFF.out.1]) HFF.out.2.symm, hb⟩
      · have HG := Lib.hid ho
        clear ho HNO
        have HCT := Lib.hid hct
        clear hct
        go_wp2_with fail
        refine (rbad_to c false _ HCT).mono ?_
        rintro e w2 ⟨rfl, rfl⟩
        have ho2 := hown.alloc (Obj.cells #[.int .u8 (c.toNat : Int)] 5)
        go_wp2_with (at_builtin; refine wpList_append_own _ rfl _ _ 36 rfl w.heap.size 5 i0 (.int .u8 0) 1 1 (by kernel_rfl) hi0 hz0 hz1 hz2 rfl (by decide) _ _ _ rfl ho2 ⟨wr.heap.size, 0, none⟩ 1 1 [.int .u8 (c.toNat : Int)] rfl rfl ?d1 ?d2 ?d3 ?d4 ?d5 ?_)
        case d1 =>
          intro j u hj
          match j, hj with
          | 0, hj => simp at hj; subst hj; simp [Addr.add]
        case d2 => intro u hu; simp at hu; subst hu; rfl
        case d3 => unfold maxLen; omega
        case d4 => omega
        case d5 => have := hb.size; simp; omega
        intro s' w5 r3 g3 hne
        obtain ⟨gs, cs, rfl, _, _⟩ := r3.form (by omega)
        have hb5 : Below w.heap.size w w5 := (hb.alloc hb.size _).grown g3 (by have := hb.size; simp; omega) (fun j hj => (ho2.lt j hj).1)
        have HQ : Hid ((P ++ [c]).length = n + 1 ∧ (P ++ [c]).map bv = P.map bv ++ [.int .u8 (c.toNat : Int)]) := Lib.hid ⟨by rw [List.length_append, HNn.out]; rfl, by rw [List.map_append]; rfl⟩
        clear hown ho2 g3 hne
        go_wp2
        go_roundw
        case rel => exact ⟨k + 1, P ++ [c], by omega, by rw [HQ.out.1]; omega, by first | go_num | (apply congrArg; omega), Lib.hid (Or.inr ⟨gs, cs, by rw [HQ.out.1]⟩), HG, by rw [HQ.out.1, HQ.out.2]; exact r3, hb5⟩
        case measure => simp [intOf]; omega
    · have hT : S.drop k = [] := List.drop_eq_nil_of_le (by rw [HL.out]; omega)
      have HBB : Hid (R = P ∧ rc = 0) := Lib.hid (by
        have h3 := HX.out
        rw [getR, hg.out, hT, get_nil] at h3
        injection h3 with a b
        exact ⟨by rw [← a]; simp, b.symm⟩)
      rcases hform.out with ⟨hn, rfl⟩ | ⟨g, cap, rfl⟩
      · subst hn
        clear hown hT hg hform
        have hconv : (convert 36 9 (.slice none 0 0)).run Try.prog wr = .ok (.string ⟨#[]⟩) wr := by
          rw [run_convert_bytes_string wr 36 9 5 none 0 0 (by kernel_rfl) (by kernel_rfl) (by kernel_rfl)]
          first | rfl | (simp; done) | (simp [loadCells]; done)
        go_wp2
        go_ret2
        exact ⟨ret_si (by rw [HBB.out.1]) HBB.out.2.symm, hb⟩
      · have hconv := run_convert_bytes_back (P := Try.prog) wr 36 9 5 ⟨g, 0, none⟩ cap P (by kernel_rfl) (by kernel_rfl) (by kernel_rfl) (own_cells hown rfl)
        clear hown hT hg hform
        obtain ⟨n, hn⟩ : ∃ n, P.length = n := ⟨_, rfl⟩
        rw [hn] at hconv ⊢
        clear hn hPk
        go_wp2
        go_ret2
        exact ⟨ret_si (by rw [HBB.out.1]) HBB.out.2.symm, hb⟩
end Esc
end Go.Proofs.Ytbfknaccffiafaa
