/-
  The reference's Put: it says what the program's says. (Written by gen/gen_escr.py.)
-/
import Derived.Test.YtbfknaccffiafaaEscA
namespace Go.Proofs.Ytbfknaccffiafaa
open Go.RowKit
namespace Esc
theorem rbad_to (c : UInt8) (b : Bool) (w : World) (h : Hid (ctl c = b)) :
    Calls Try.prog 20 #[.int .u8 (c.toNat : Int)] w fun e w' => e = .returned (.bool b) ∧ w = w' := by
  have HH := h.out
  rw [ctl] at HH
  clear h
  have hb := c.toNat_lt
  have hc : (c = 9 ∧ b = false) ∨ ((c.toNat : Int) < 32 ∧ ((c.toNat : Int) != 9) = true ∧ b = true) ∨ (c = 127 ∧ b = true) ∨ (¬ (c.toNat : Int) < 32 ∧ ((c.toNat : Int) == 127) = false ∧ b = false) := by
    rw [← HH]
    by_cases x1 : c = 9
    · exact Or.inl ⟨x1, by rw [x1]; decide⟩
    · by_cases x2 : (c.toNat : Int) < 32
      · have := u8_ne (n := 9) (by decide) x1
        exact Or.inr (Or.inl ⟨x2, by simpa [bne] using this, decide_eq_true (Or.inl ⟨x2, x1⟩)⟩)
      · by_cases x3 : c = 127
        · exact Or.inr (Or.inr (Or.inl ⟨x3, decide_eq_true (Or.inr x3)⟩))
        · exact Or.inr (Or.inr (Or.inr ⟨x2, u8_ne (n := 127) (by decide) x3, decide_eq_false (fun h => h.elim (fun h => x2 h.1) x3)⟩))
  clear HH
  rcases hc with ⟨rfl, rfl⟩ | ⟨x1, x2, rfl⟩ | ⟨rfl, rfl⟩ | ⟨x1, x2, rfl⟩
  all_goals
    go_enter Try.func20, Try.ntmps20
    go_wp2
    go_ret
    first | exact ⟨rfl, rfl⟩ | exact ⟨ret_b (by simp [*]), rfl⟩
set_option maxHeartbeats 6400000 in
set_option maxRecDepth 100000 in
theorem rput_to (s : ByteArray) (S R : List UInt8) (rc : Int) (w : World) (hs : s.size ≤ 1000000) (hS : Hid (s.data.toList = S)) (h : Hid (putR S = (R, rc))) :
    Calls Try.prog 12 #[.string s] w fun e w' => e = .returned (.tuple #[.string ⟨R.toArray⟩, .int .i64 rc]) ∧ Below w.heap.size w w' := by
  have HX := h
  clear h
  have hl : S.length = s.size := by rw [← hS.out]; simp
  have HL := Lib.hid hl
  clear hl
  obtain ⟨i0, hi0, hz0, hz1, hz2⟩ := info_parts iu
  go_enter Try.func12, Try.ntmps12
  go_wp2
  go_loopw [4, 5] (fun bs iv wr => ∃ (k : Nat), k ≤ s.size ∧ iv = .int .i64 k ∧ Hid ((S.take k).all okP = true) ∧ Hid (((putL (S.take k)) = [] ∧ bs = .slice none 0 0) ∨ ∃ g cap, bs = .slice (some ⟨g, 0, none⟩) (putL (S.take k)).length cap) ∧ wr.ownsRow w.heap.size 5 1 bs (putL (S.take k)).length ((putL (S.take k)).map bv) ∧ Below w.heap.size w wr) (fun _ iv _ => s.size - (intOf iv).toNat)
  case atStart => exact ⟨0, Nat.zero_le _, rfl, Lib.hid rfl, Lib.hid (Or.inl ⟨rfl, rfl⟩), World.ownsRow_nil _ _ _ _, Below.refl _ _⟩
  case round =>
    obtain ⟨k, hk, rfl, hall, hform, hown, hb⟩ := hrel
    have hpl : (putL (S.take k)).length ≤ 2000000 := by have h1 := putL_len (S.take k); have h2 := List.length_take_le k S; omega
    by_cases hlt : k < s.size
    · have hkS : k < S.length := by rw [HL.out]; exact hlt
      obtain ⟨c, hx⟩ : ∃ c, S[k]'hkS = c := ⟨_, rfl⟩
      have hcc : s[k] = c := by
        have : s[k] = s.data.toList[k]'(by simpa using hlt) := by simp [ByteArray.getElem_eq_getElem_data]
        rw [this, ← hx]
        exact List.getElem_of_eq hS.out _
      have HN : Hid (okP c = true → (S.take (k + 1)).all okP = true) := Lib.hid (fun h => by rw [List.take_succ_eq_append_getElem hkS, hx, List.all_append, hall.out, List.all_cons, h]; rfl)
      have HF : Hid (okP c = false → R = [] ∧ rc = 3) := Lib.hid (fun h2 => by have h3 := HX.out; rw [putR, put_no hkS (by rw [hx]; exact h2)] at h3; injection h3 with a b; exact ⟨a.symm, b.symm⟩)
      have HP : Hid (putL (S.take (k + 1)) = putL (S.take k) ++ putC c) := Lib.hid (by rw [List.take_succ_eq_append_getElem hkS, hx, putL, putL, List.flatMap_append]; simp)
      have cb := c.toNat_lt
      clear hx hkS
      obtain ⟨P, hP⟩ : ∃ P, putL (S.take k) = P := ⟨_, rfl⟩
      rw [hP] at hown hpl HP
      obtain ⟨n, hn⟩ : ∃ n, P.length = n := ⟨_, rfl⟩
      have HNn := Lib.hid hn
      rw [hn] at hown hpl
      clear hP hn hform
      have hcs : (c = 10 ∧ okP c = true ∧ putC c = [92, 110]) ∨ (((c.toNat : Int) == 10) = false ∧ ((ctl c = true ∧ okP c = false) ∨ (ctl c = false ∧ okP c = true ∧ ((c = 92 ∧ putC c = [92, 92]) ∨ (c = 59 ∧ putC c = [92, 59]) ∨ (c = 44 ∧ putC c = [92, 44]) ∨ (((c.toNat : Int) == 92) = false ∧ ((c.toNat : Int) == 59) = false ∧ ((c.toNat : Int) == 44) = false ∧ putC c = [c]))))) := by
        by_cases x1 : c = 10
        · exact Or.inl ⟨x1, by rw [x1]; decide, by rw [x1]; decide⟩
        · refine Or.inr ⟨u8_ne (n := 10) (by decide) x1, ?_⟩
          have e : okP c = !ctl c := by rw [okP, decide_eq_false x1, Bool.false_or]
          rw [e]
          cases hcl : ctl c with
          | true => exact Or.inl ⟨rfl, rfl⟩
          | false =>
            refine Or.inr ⟨rfl, rfl, ?_⟩
            by_cases y1 : c = 92
            · exact Or.inl ⟨y1, by rw [y1]; decide⟩
            · by_cases y2 : c = 59
              · exact Or.inr (Or.inl ⟨y2, by rw [y2]; decide⟩)
              · by_cases y3 : c = 44
                · exact Or.inr (Or.inr (Or.inl ⟨y3, by rw [y3]; decide⟩))
                · exact Or.inr (Or.inr (Or.inr ⟨u8_ne (n := 92) (by decide) y1, u8_ne (n := 59) (by decide) y2, u8_ne (n := 44) (by decide) y3, by rw [putC, if_neg x1, if_neg (fun h => h.elim y1 (fun h => h.elim y2 y3))]⟩))
      rcases hcs with ⟨rfl, ho, hp⟩ | ⟨x1, ⟨hct, ho⟩ | ⟨hct, ho, ⟨rfl, hp⟩ | ⟨rfl, hp⟩ | ⟨rfl, hp⟩ | ⟨y1, y2, y3, hp⟩⟩⟩
      · have HNN := Lib.hid (HN.out ho)
        clear ho HN HF
        have ho2 := hown.alloc (Obj.cells #[.int .u8 92, .int .u8 110] 5)
        go_wp2_with (at_builtin; refine wpList_append_own _ rfl _ _ 36 rfl w.heap.size 5 i0 (.int .u8 0) 1 1 (by kernel_rfl) hi0 hz0 hz1 hz2 rfl (by decide) _ _ _ rfl ho2 ⟨wr.heap.size, 0, none⟩ 2 2 [.int .u8 92, .int .u8 110] rfl rfl ?d1 ?d2 ?d3 ?d4 ?d5 ?_)
        case d1 =>
          intro j u hj
          match j, hj with
          | 0, hj => simp at hj; subst hj; simp [Addr.add]
          | 1, hj => simp at hj; subst hj; simp [Addr.add]
        case d2 => intro u hu; simp at hu; rcases hu with rfl | rfl <;> rfl
        case d3 => unfold maxLen; omega
        case d4 => omega
        case d5 => have := hb.size; simp; omega
        intro s' w5 r3 g3 hne
        obtain ⟨gs, cs, rfl, _, _⟩ := r3.form (by omega)
        have hb5 : Below w.heap.size w w5 := (hb.alloc hb.size _).grown g3 (by have := hb.size; simp; omega) (fun j hj => (ho2.lt j hj).1)
        have HQ : Hid ((putL (S.take (k + 1))).length = n + 2 ∧ (putL (S.take (k + 1))).map bv = P.map bv ++ [.int .u8 92, .int .u8 110]) := Lib.hid (by rw [HP.out, hp]; exact ⟨by rw [List.length_append, HNn.out]; rfl, by rw [List.map_append]; rfl⟩)
        clear hown ho2 g3 hne hp
        go_wp2
        go_roundw
        case rel => exact ⟨k + 1, by omega, by go_num, HNN, Lib.hid (Or.inr ⟨gs, cs, by rw [HQ.out.1]⟩), by rw [HQ.out.1, HQ.out.2]; exact r3, hb5⟩
        case measure => simp [intOf]; omega
      · have HFF := Lib.hid (HF.out ho)
        have HCT := Lib.hid hct
        clear ho HN HF hct
        go_wp2_with fail
        refine (rbad_to c true _ HCT).mono ?_
        rintro e w2 ⟨rfl, rfl⟩
        go_wp2
        go_ret2
        exact ⟨ret_si (by rw [HFF.out.1]) HFF.out.2.symm, hb⟩
      · have HNN := Lib.hid (HN.out ho)
        clear ho HN HF
        have HCT := Lib.hid hct
        clear hct
        go_wp2_with fail
        refine (rbad_to 92 false _ HCT).mono ?_
        rintro e w2 ⟨rfl, rfl⟩
        have ho2 := hown.alloc (Obj.cells #[.int .u8 92, .int .u8 92] 5)
        go_wp2_with (at_builtin; refine wpList_append_own _ rfl _ _ 36 rfl w.heap.size 5 i0 (.int .u8 0) 1 1 (by kernel_rfl) hi0 hz0 hz1 hz2 rfl (by decide) _ _ _ rfl ho2 ⟨wr.heap.size, 0, none⟩ 2 2 [.int .u8 92, .int .u8 92] rfl rfl ?d1 ?d2 ?d3 ?d4 ?d5 ?_)
        case d1 =>
          intro j u hj
          match j, hj with
          | 0, hj => simp at hj; subst hj; simp [Addr.add]
          | 1, hj => simp at hj; subst hj; simp [Addr.add]
        case d2 => intro u hu; simp at hu; rcases hu with rfl | rfl <;> rfl
        case d3 => unfold maxLen; omega
        case d4 => omega
        case d5 => have := hb.size; simp; omega
        intro s' w5 r3 g3 hne
        obtain ⟨gs, cs, rfl, _, _⟩ := r3.form (by omega)
        have hb5 : Below w.heap.size w w5 := (hb.alloc hb.size _).grown g3 (by have := hb.size; simp; omega) (fun j hj => (ho2.lt j hj).1)
        have HQ : Hid ((putL (S.take (k + 1))).length = n + 2 ∧ (putL (S.take (k + 1))).map bv = P.map bv ++ [.int .u8 92, .int .u8 92]) := Lib.hid (by rw [HP.out, hp]; exact ⟨by rw [List.length_append, HNn.out]; rfl, by rw [List.map_append]; rfl⟩)
        clear hown ho2 g3 hne hp
        go_wp2
        go_roundw
        case rel => exact ⟨k + 1, by omega, by go_num, HNN, Lib.hid (Or.inr ⟨gs, cs, by rw [HQ.out.1]⟩), by rw [HQ.out.1, HQ.out.2]; exact r3, hb5⟩
        case measure => simp [intOf]; omega
      · have HNN := Lib.hid (HN.out ho)
        clear ho HN HF
        have HCT := Lib.hid hct
        clear hct
        go_wp2_with fail
        refine (rbad_to 59 false _ HCT).mono ?_
        rintro e w2 ⟨rfl, rfl⟩
        have ho2 := hown.alloc (Obj.cells #[.int .u8 92, .int .u8 59] 5)
        go_wp2_with (at_builtin; refine wpList_append_own _ rfl _ _ 36 rfl w.heap.size 5 i0 (.int .u8 0) 1 1 (by kernel_rfl) hi0 hz0 hz1 hz2 rfl (by decide) _ _ _ rfl ho2 ⟨wr.heap.size, 0, none⟩ 2 2 [.int .u8 92, .int .u8 59] rfl rfl ?d1 ?d2 ?d3 ?d4 ?d5 ?_)
        case d1 =>
          intro j u hj
          match j, hj with
          | 0, hj => simp at hj; subst hj; simp [Addr.add]
          | 1, hj => simp at hj; subst hj; simp [Addr.add]
        case d2 => intro u hu; simp at hu; rcases hu with rfl | rfl <;> rfl
        case d3 => unfold maxLen; omega
        case d4 => omega
        case d5 => have := hb.size; simp; omega
        intro s' w5 r3 g3 hne
        obtain ⟨gs, cs, rfl, _, _⟩ := r3.form (by omega)
        have hb5 : Below w.heap.size w w5 := (hb.alloc hb.size _).grown g3 (by have := hb.size; simp; omega) (fun j hj => (ho2.lt j hj).1)
        have HQ : Hid ((putL (S.take (k + 1))).length = n + 2 ∧ (putL (S.take (k + 1))).map bv = P.map bv ++ [.int .u8 92, .int .u8 59]) := Lib.hid (by rw [HP.out, hp]; exact ⟨by rw [List.length_append, HNn.out]; rfl, by rw [List.map_append]; rfl⟩)
        clear hown ho2 g3 hne hp
        go_wp2
        go_roundw
        case rel => exact ⟨k + 1, by omega, by go_num, HNN, Lib.hid (Or.inr ⟨gs, cs, by rw [HQ.out.1]⟩), by rw [HQ.out.1, HQ.out.2]; exact r3, hb5⟩
        case measure => simp [intOf]; omega
      · have HNN := Lib.hid (HN.out ho)
        clear ho HN HF
        have HCT := Lib.hid hct
        clear hct
        go_wp2_with fail
        refine (rbad_to 44 false _ HCT).mono ?_
        rintro e w2 ⟨rfl, rfl⟩
        have ho2 := hown.alloc (Obj.cells #[.int .u8 92, .int .u8 44] 5)
        go_wp2_with (at_builtin; refine wpList_append_own _ rfl _ _ 36 rfl w.heap.size 5 i0 (.int .u8 0) 1 1 (by kernel_rfl) hi0 hz0 hz1 hz2 rfl (by decide) _ _ _ rfl ho2 ⟨wr.heap.size, 0, none⟩ 2 2 [.int .u8 92, .int .u8 44] rfl rfl ?d1 ?d2 ?d3 ?d4 ?d5 ?_)
        case d1 =>
          intro j u hj
          match j, hj with
          | 0, hj => simp at hj; subst hj; simp [Addr.add]
          | 1, hj => simp at hj; subst hj; simp [Addr.add]
        case d2 => intro u hu; simp at hu; rcases hu with rfl | rfl <;> rfl
        case d3 => unfold maxLen; omega
        case d4 => omega
        case d5 => have := hb.size; simp; omega
        intro s' w5 r3 g3 hne
        obtain ⟨gs, cs, rfl, _, _⟩ := r3.form (by omega)
        have hb5 : Below w.heap.size w w5 := (hb.alloc hb.size _).grown g3 (by have := hb.size; simp; omega) (fun j hj => (ho2.lt j hj).1)
        have HQ : Hid ((putL (S.take (k + 1))).length = n + 2 ∧ (putL (S.take (k + 1))).map bv = P.map bv ++ [.int .u8 92, .int .u8 44]) := Lib.hid (by rw [HP.out, hp]; exact ⟨by rw [List.length_append, HNn.out]; rfl, by rw [List.map_append]; rfl⟩)
        clear hown ho2 g3 hne hp
        go_wp2
        go_roundw
        case rel => exact ⟨k + 1, by omega, by go_num, HNN, Lib.hid (Or.inr ⟨gs, cs, by rw [HQ.out.1]⟩), by rw [HQ.out.1, HQ.out.2]; exact r3, hb5⟩
        case measure => simp [intOf]; omega
      · have HNN := Lib.hid (HN.out ho)
        clear ho HN HF
        have HCT := Lib.hid hct
        clear hct
        go_wp2_with fail
        refine (rbad_to c false _ HCT).mono ?_
        rintro e w2 ⟨rfl, rfl⟩
        have ho2 := hown.alloc (Obj.cells #[.int .u8 (c.toNat : Int)] 5)
        go_wp2_with (at_builtin; refine wpList_append_own _ rfl _ _ 36 rfl w.heap.size 5 i0 (.int .u8 0) 1 1 (by kernel_rfl) hi0 hz0 hz1 hz2 rfl (by decide) _ _ _ rfl ho2 ⟨wr.heap.size, 0, none⟩ 1 1 [.int .u8 (c.toNat : Int)] rfl rfl ?d1 ?d2 ?d3 ?d4 ?d5 ?_)
        case d1 =>
          intro j u hj
          match j, hj with
          | 0, hj => simp at hj; subst hj; simp [Addr.add]
        case d2 => intro u hu; simp at hu; subst hu; rfl
        case d3 => unfold maxLen; omega
        case d4 => omega
        case d5 => have := hb.size; simp; omega
        intro s' w5 r3 g3 hne
        obtain ⟨gs, cs, rfl, _, _⟩ := r3.form (by omega)
        have hb5 : Below w.heap.size w w5 := (hb.alloc hb.size _).grown g3 (by have := hb.size; simp; omega) (fun j hj => (ho2.lt j hj).1)
        have HQ : Hid ((putL (S.take (k + 1))).length = n + 1 ∧ (putL (S.take (k + 1))).map bv = P.map bv ++ [.int .u8 (c.toNat : Int)]) := Lib.hid (by rw [HP.out, hp]; exact ⟨by rw [List.length_append, HNn.out]; rfl, by rw [List.map_append]; rfl⟩)
        clear hown ho2 g3 hne hp
        go_wp2
        go_roundw
        case rel => exact ⟨k + 1, by omega, by go_num, HNN, Lib.hid (Or.inr ⟨gs, cs, by rw [HQ.out.1]⟩), by rw [HQ.out.1, HQ.out.2]; exact r3, hb5⟩
        case measure => simp [intOf]; omega
    · have hT : S.take k = S := List.take_of_length_le (by rw [HL.out]; omega)
      have hB : putB S = true := by rw [putB, ← hT]; exact hall.out
      rw [hT] at hown hform
      have HBB : Hid (R = putL S ∧ rc = 0) := Lib.hid (by have h3 := HX.out; rw [putR, if_pos hB] at h3; injection h3 with a b; exact ⟨a.symm, b.symm⟩)
      obtain ⟨P, hP⟩ : ∃ P, putL S = P := ⟨_, rfl⟩
      rw [hP] at hown hform HBB
      rcases hform.out with ⟨hn, rfl⟩ | ⟨g, cap, rfl⟩
      · subst hn
        clear hown hT hB hP hform
        have hconv : (convert 36 9 (.slice none 0 0)).run Try.prog wr = .ok (.string ⟨#[]⟩) wr := by
          rw [run_convert_bytes_string wr 36 9 5 none 0 0 (by kernel_rfl) (by kernel_rfl) (by kernel_rfl)]
          first | rfl | (simp; done) | (simp [loadCells]; done)
        go_wp2
        go_ret2
        exact ⟨ret_si (by rw [HBB.out.1]) HBB.out.2.symm, hb⟩
      · have hconv := run_convert_bytes_back (P := Try.prog) wr 36 9 5 ⟨g, 0, none⟩ cap P (by kernel_rfl) (by kernel_rfl) (by kernel_rfl) (own_cells hown rfl)
        clear hown hT hB hP hform
        obtain ⟨n, hn⟩ : ∃ n, P.length = n := ⟨_, rfl⟩
        rw [hn] at hconv ⊢
        clear hn
        go_wp2
        go_ret2
        exact ⟨ret_si (by rw [HBB.out.1]) HBB.out.2.symm, hb⟩
end Esc
end Go.Proofs.Ytbfknaccffiafaa
