/-
  Package fields: Join. (Written by gen/gen_fdc.py.)
-/
import Derived.Test.YtdehpljpionpfaaFdB
namespace Go.Proofs.Ytdehpljpionpfaa
open Go.RowKit
namespace Fds
open Opn (sv TxtV Strs lst)
open Esc (ret_si)
def joinR (L : List (List UInt8)) : List UInt8 × Int := if L.any bad3 = true then ([], 6) else if 600 < (joinF L).length then ([], 2) else (joinF L, 0)
theorem sg3 : SAny.Sgn ⟨#[0, 10, 34]⟩ [0, 10, 34] := ⟨rfl, by decide, by decide, fun k h => by
  have h : k < 3 := h
  match k, h with
  | 0, _ => show (0 : UInt8).toNat < 128; decide
  | 1, _ => show (10 : UInt8).toNat < 128; decide
  | 2, _ => show (34 : UInt8).toNat < 128; decide⟩
theorem sg4 : SAny.Sgn ⟨#[32, 9, 13, 35]⟩ [32, 9, 13, 35] := ⟨rfl, by decide, by decide, fun k h => by
  have h : k < 4 := h
  match k, h with
  | 0, _ => show (32 : UInt8).toNat < 128; decide
  | 1, _ => show (9 : UInt8).toNat < 128; decide
  | 2, _ => show (13 : UInt8).toNat < 128; decide
  | 3, _ => show (35 : UInt8).toNat < 128; decide⟩
theorem lst_succ (ls : Nat → ByteArray) (k : Nat) : lst ls (k + 1) = lst ls k ++ [(ls k).data.toList] := by
  unfold Opn.lst
  rw [List.range_succ, List.map_append]; rfl
theorem joinG_len : ∀ (A B : List (List UInt8)) (b : Bool), (joinG b A).length ≤ (joinG b (A ++ B)).length
  | [], B, b => by rw [joinG]; simp
  | f :: A, B, b => by
    have := joinG_len A B false
    rw [List.cons_append, joinG, joinG]
    simp only [List.length_append] at this ⊢
    omega
theorem lst_split (ls : Nat → ByteArray) (k n : Nat) (h : k ≤ n) : ∃ B, lst ls n = lst ls k ++ B := by
  refine ⟨((List.range n).drop k).map (fun j => (ls j).data.toList), ?_⟩
  unfold Opn.lst
  rw [← List.map_append]
  congr 1
  have : List.range k = (List.range n).take k := by rw [List.take_range, Nat.min_eq_left h]
  rw [this, List.take_append_drop]
theorem any_bad {ls : Nat → ByteArray} {n : Nat} (h : ∀ j, j < n → bad3 (ls j).data.toList = false) : (lst ls n).any bad3 = false := by
  rw [List.any_eq_false]
  intro f hf
  obtain ⟨j, hj, rfl⟩ := List.mem_map.1 hf
  rw [h j (List.mem_range.1 hj)]
  decide
theorem join_big {ls : Nat → ByteArray} {n k : Nat} {R : List UInt8} {rc : Int} (hg : ∀ j, j < n → bad3 (ls j).data.toList = false) (h : joinR (lst ls n) = (R, rc)) (hk : k < n) (hb : 600 < (joinF (lst ls (k + 1))).length) : R = [] ∧ rc = 2 := by
  obtain ⟨B, hB⟩ := lst_split ls (k + 1) n hk
  have := joinG_len (lst ls (k + 1)) B true
  rw [joinR, any_bad hg, if_neg (by decide), hB, if_pos (by unfold joinF at hb ⊢; omega)] at h
  injection h with a b
  exact ⟨a.symm, b.symm⟩
theorem bld_below {T e : TypeId} {B b : Nat} {l : List UInt8} {w w' : World} (h : Lib.IsBuilder T e B b (Lib.byteCells l) w) (hs : b < w.heap.size) (hb : Below w.heap.size w w') : Lib.IsBuilder T e B b (Lib.byteCells l) w' := by
  have key : ∀ p, Lib.BuilderAt T e B b p (Lib.byteCells l) w → Lib.BuilderAt T e B b p (Lib.byteCells l) w' := fun p ⟨h1, v, h2, h3, h4⟩ =>
    ⟨h1, v, by rw [hb.block b hs]; exact h2, Esc.owns_below h3 hb, h4⟩
  exact h.imp (key _) (key _)
set_option maxHeartbeats 25600000 in
set_option maxRecDepth 100000 in
theorem join_some (bk off n c : Nat) (ls : Nat → ByteArray) (R : List UInt8) (rc : Int) (w : World) (h60 : n ≤ 60) (hbk : bk < w.heap.size) (hcell : ∀ j, j < n → w.cell? ⟨bk, off + j, none⟩ = some (.string (ls j))) (hsz8 : ∀ j, j < n → (ls j).size ≤ 800) (hX : Hid (joinR (lst ls n) = (R, rc))) :
    Calls Try.prog 6 #[.slice (some ⟨bk, off, none⟩) n c] w fun e w' => e = .returned (.tuple #[.string ⟨R.toArray⟩, .int .i64 rc]) ∧ Below w.heap.size w w' := by
  have HC := Lib.hid hcell
  have HS := Lib.hid hsz8
  have HX := hX
  clear hcell hsz8 hX
  go_enter Try.func6, Try.ntmps6
  go_wp2
  go_loopw [11] (fun iv wr => ∃ k : Nat, k ≤ n ∧ iv = .int .i64 k ∧ Hid (∀ j, j < k → bad3 (ls j).data.toList = false) ∧ Below w.heap.size w wr) (fun iv _ => n - (intOf iv).toNat)
  case atStart => exact ⟨0, Nat.zero_le _, rfl, Lib.hid (fun j hj => by omega), Below.refl _ _⟩
  case round =>
    obtain ⟨k, hk, rfl, hgood, hb⟩ := hrel
    by_cases hlt : k < n
    · have hc2 := (hb.cell (p := ⟨bk, off + k, none⟩) hbk).trans (HC.out k hlt)
      have hz := HS.out k hlt
      cases hbd : bad3 (ls k).data.toList with
      | true =>
        have HR : Hid (R = [] ∧ rc = 6) := Lib.hid (by
          have h := HX.out
          have ha : (lst ls n).any bad3 = true := List.any_eq_true.2 ⟨_, List.mem_map.2 ⟨k, List.mem_range.2 hlt, rfl⟩, hbd⟩
          rw [joinR, if_pos ha] at h
          injection h with a b
          exact ⟨a.symm, b.symm⟩)
        have HBD := Lib.hid hbd
        clear hbd
        go_wp2_with fail
        refine (SAny.ca_any (ls k) ⟨#[0, 10, 34]⟩ _ [0, 10, 34] true _ sg3 (by omega) (Lib.hid rfl) HBD).mono ?_
        rintro e w1 ⟨rfl, b1⟩
        go_wp2
        go_ret2
        exact ⟨ret_si (by rw [HR.out.1]) HR.out.2.symm, hb.trans (b1.mono hb.size)⟩
      | false =>
        have HBD := Lib.hid hbd
        have HN : Hid (∀ j, j < k + 1 → bad3 (ls j).data.toList = false) := Lib.hid (fun j hj => by
          by_cases e : j = k
          · subst e; exact hbd
          · exact hgood.out j (by omega))
        clear hbd
        go_wp2_with fail
        refine (SAny.ca_any (ls k) ⟨#[0, 10, 34]⟩ _ [0, 10, 34] false _ sg3 (by omega) (Lib.hid rfl) HBD).mono ?_
        rintro e w1 ⟨rfl, b1⟩
        have hb1 := hb.trans (b1.mono hb.size)
        clear b1 hc2
        go_wp2
        go_roundw
        case rel => exact ⟨k + 1, by omega, by go_num, HN, hb1⟩
        case measure => simp [intOf]; omega
    · obtain rfl : k = n := by omega
      have HG := hgood
      obtain ⟨w1, hw1⟩ : ∃ x, wr = x := ⟨_, rfl⟩
      rw [hw1] at hb ⊢
      clear hw1 hgood hlt
      have hf := Bld.fresh w1
      have hb1 : Below w.heap.size w (w1.alloc (.cells #[.pointer none, .slice none 0 0] 37)) := hb.alloc hb.size _
      have hsz : w1.heap.size < (w1.alloc (.cells #[.pointer none, .slice none 0 0] 37)).heap.size := by simp
      have hwB : w.heap.size ≤ w1.heap.size := hb.size
      go_wp2
      obtain ⟨B, hB⟩ : ∃ B, w1.heap.size = B := ⟨_, rfl⟩
      rw [hB] at hf hsz hwB ⊢
      obtain ⟨w2, hw2⟩ : ∃ x, w1.alloc (.cells #[.pointer none, .slice none 0 0] 37) = x := ⟨_, rfl⟩
      rw [hw2] at hf hb1 hsz ⊢
      clear hw2 hB hb
      obtain ⟨m, hm⟩ : ∃ m, k = m := ⟨_, rfl⟩
      go_loopw [20] (fun iv wx => ∃ (j : Nat) (D : List UInt8), j ≤ k ∧ iv = .int .i64 j ∧ D.length ≤ 600 ∧ Hid (D = joinF (lst ls j)) ∧ Lib.IsBuilder 37 5 B B (Lib.byteCells D) wx ∧ B < wx.heap.size ∧ Below w.heap.size w wx) (fun iv _ => k - (intOf iv).toNat)
      case atStart => exact ⟨0, [], Nat.zero_le _, rfl, by simp, Lib.hid rfl, hf, hsz, hb1⟩
      case round =>
        clear hf hsz hb1 hm
        obtain ⟨n, hkn⟩ : ∃ n, k = n := ⟨_, rfl⟩
        subst hkn
        obtain ⟨j, D, hk, rfl, hDl, hD, hbl, hsz, hb⟩ := hrel
        by_cases hlt : j < k
        · have hc2 := (hb.cell (p := ⟨bk, off + j, none⟩) hbk).trans (HC.out j hlt)
          have hz := HS.out j hlt
          have HE : Hid ((ls j).size = 0 → (ls j).toList.isEmpty = true) := Lib.hid (fun h => by
            rw [Lib.toList_data]
            have : (ls j).data.toList.length = 0 := by simpa using h
            rw [List.length_eq_zero_iff.1 this]; rfl)
          have HE2 : Hid (0 < (ls j).size → (ls j).toList.isEmpty = false) := Lib.hid (fun h => by
            rw [Lib.toList_data]
            have : 0 < (ls j).data.toList.length := by simpa using h
            cases hh : (ls j).data.toList with
            | nil => rw [hh] at this; simp at this
            | cons _ _ => rfl)
          have hlen : (ls j).data.toList.length = (ls j).size := by simp
          by_cases hz0 : (ls j).size = 0
          · have hq : quoted (ls j).data.toList = true := by unfold quoted; rw [hlen, hz0]; rfl
            by_cases hkp : 0 < j
            ·
              have he1 : (ls j).toList.isEmpty = true := HE.out hz0
              have hy : (⟨#[34]⟩ ++ ls j ++ ⟨#[34]⟩ : ByteArray).data.toList = qf (ls j).data.toList := by rw [Rws.cat_data, Rws.cat_data, qf, if_pos hq]
              have hyz : (⟨#[34]⟩ ++ ls j ++ ⟨#[34]⟩ : ByteArray).size ≤ 802 := by rw [Lib.size_eq, Rws.cat_data, Rws.cat_data]; simp; omega
              have HY := Lib.hid hy
              have HYZ := Lib.hid hyz
              have HDN : Hid (D ++ [32] ++ qf (ls j).data.toList = joinF (lst ls (j + 1))) := Lib.hid (by rw [lst_succ, joinF, join_snoc, Opn.lst_len, hD.out, joinF]; rw [if_neg (by simp; omega)])
              clear hy hyz hq
              have hk1 : 0 < j := by omega
              go_wp2_with fail
              refine (Bld.wb_to B B D 32 _ hbl (by omega) (by omega)).mono ?_
              rintro e w3 ⟨rfl, hbl3, hb3⟩
              have hb := hb.trans (hb3.mono hwB)
              have hsz : B < w3.heap.size := Nat.lt_of_lt_of_le hsz hb3.size
              have hl32 : (D ++ [32]).length ≤ 601 := by rw [List.length_append]; simp; omega
              clear hb3 hbl
              go_wp2_with fail
              refine (Bld.ws_to B B (D ++ [32]) _ _ hbl3 (by have := HYZ.out; omega) (by omega)).mono ?_
              rintro e w5 ⟨rfl, hbl5, hb5⟩
              have hb := hb.trans (hb5.mono hwB)
              have hsz : B < w5.heap.size := Nat.lt_of_lt_of_le hsz hb5.size
              rw [HY.out, HDN.out] at hbl5
              clear hb5 hbl3
              go_wp2_with fail
              refine (Bld.len_to B B _ _ hbl5).mono ?_
              rintro e w6 ⟨rfl, rfl⟩
              obtain ⟨J, hJ⟩ : ∃ J, joinF (lst ls (j + 1)) = J := ⟨_, rfl⟩
              have HJ := Lib.hid hJ
              rw [hJ] at hbl5 ⊢
              obtain ⟨jl, hjl⟩ : ∃ jl, J.length = jl := ⟨_, rfl⟩
              have HJL := Lib.hid hjl
              rw [hjl]
              clear hJ hjl
              by_cases hbig : 600 < jl
              · have HR : Hid (R = [] ∧ rc = 2) := Lib.hid (join_big (fun j hj => HG.out j hj) HX.out hlt (by rw [HJ.out, HJL.out]; exact hbig))
                go_wp2
                go_ret2
                exact ⟨ret_si (by rw [HR.out.1]) HR.out.2.symm, hb⟩
              · have HJ6 : Hid (J.length ≤ 600) := Lib.hid (by rw [HJL.out]; omega)
                go_wp2
                go_roundw
                case rel => exact ⟨j + 1, J, by omega, by go_num, HJ6.out, Lib.hid HJ.out.symm, hbl5, hsz, hb⟩
                case measure => simp [intOf]; omega
            ·
              have he1 : (ls j).toList.isEmpty = true := HE.out hz0
              have hy : (⟨#[34]⟩ ++ ls j ++ ⟨#[34]⟩ : ByteArray).data.toList = qf (ls j).data.toList := by rw [Rws.cat_data, Rws.cat_data, qf, if_pos hq]
              have hyz : (⟨#[34]⟩ ++ ls j ++ ⟨#[34]⟩ : ByteArray).size ≤ 802 := by rw [Lib.size_eq, Rws.cat_data, Rws.cat_data]; simp; omega
              have HY := Lib.hid hy
              have HYZ := Lib.hid hyz
              have HDN : Hid (D ++ [] ++ qf (ls j).data.toList = joinF (lst ls (j + 1))) := Lib.hid (by rw [lst_succ, joinF, join_snoc, Opn.lst_len, hD.out, joinF]; rw [if_pos (by simp; omega)])
              clear hy hyz hq
              have hk1 : ¬ 0 < j := by omega
              have hl32 : (D ++ []).length ≤ 601 := by rw [List.append_nil]; omega
              rw [← List.append_nil D] at hbl
              go_wp2_with fail
              refine (Bld.ws_to B B (D ++ []) _ _ hbl (by have := HYZ.out; omega) (by omega)).mono ?_
              rintro e w5 ⟨rfl, hbl5, hb5⟩
              have hb := hb.trans (hb5.mono hwB)
              have hsz : B < w5.heap.size := Nat.lt_of_lt_of_le hsz hb5.size
              rw [HY.out, HDN.out] at hbl5
              clear hb5 hbl
              go_wp2_with fail
              refine (Bld.len_to B B _ _ hbl5).mono ?_
              rintro e w6 ⟨rfl, rfl⟩
              obtain ⟨J, hJ⟩ : ∃ J, joinF (lst ls (j + 1)) = J := ⟨_, rfl⟩
              have HJ := Lib.hid hJ
              rw [hJ] at hbl5 ⊢
              obtain ⟨jl, hjl⟩ : ∃ jl, J.length = jl := ⟨_, rfl⟩
              have HJL := Lib.hid hjl
              rw [hjl]
              clear hJ hjl
              by_cases hbig : 600 < jl
              · have HR : Hid (R = [] ∧ rc = 2) := Lib.hid (join_big (fun j hj => HG.out j hj) HX.out hlt (by rw [HJ.out, HJL.out]; exact hbig))
                go_wp2
                go_ret2
                exact ⟨ret_si (by rw [HR.out.1]) HR.out.2.symm, hb⟩
              · have HJ6 : Hid (J.length ≤ 600) := Lib.hid (by rw [HJL.out]; omega)
                go_wp2
                go_roundw
                case rel => exact ⟨j + 1, J, by omega, by go_num, HJ6.out, Lib.hid HJ.out.symm, hbl5, hsz, hb⟩
                case measure => simp [intOf]; omega
          · cases hha : SAny.hitA (ls j).data.toList [32, 9, 13, 35] with
            | true =>
              have hq : quoted (ls j).data.toList = true := by unfold quoted; rw [hha]; simp
              by_cases hkp : 0 < j
              ·
                have he1 : (ls j).toList.isEmpty = false := HE2.out (by omega)
                have hy : (⟨#[34]⟩ ++ ls j ++ ⟨#[34]⟩ : ByteArray).data.toList = qf (ls j).data.toList := by rw [Rws.cat_data, Rws.cat_data, qf, if_pos hq]
                have hyz : (⟨#[34]⟩ ++ ls j ++ ⟨#[34]⟩ : ByteArray).size ≤ 802 := by rw [Lib.size_eq, Rws.cat_data, Rws.cat_data]; simp; omega
                have HY := Lib.hid hy
                have HYZ := Lib.hid hyz
                have HDN : Hid (D ++ [32] ++ qf (ls j).data.toList = joinF (lst ls (j + 1))) := Lib.hid (by rw [lst_succ, joinF, join_snoc, Opn.lst_len, hD.out, joinF]; rw [if_neg (by simp; omega)])
                clear hy hyz hq
                have HHA := Lib.hid hha
                clear hha
                have hk1 : 0 < j := by omega
                go_wp2_with fail
                refine (Bld.wb_to B B D 32 _ hbl (by omega) (by omega)).mono ?_
                rintro e w3 ⟨rfl, hbl3, hb3⟩
                have hb := hb.trans (hb3.mono hwB)
                have hsz : B < w3.heap.size := Nat.lt_of_lt_of_le hsz hb3.size
                have hl32 : (D ++ [32]).length ≤ 601 := by rw [List.length_append]; simp; omega
                clear hb3 hbl
                go_wp2_with fail
                refine (SAny.ca_any (ls j) ⟨#[32, 9, 13, 35]⟩ _ [32, 9, 13, 35] true _ sg4 (by omega) (Lib.hid rfl) HHA).mono ?_
                rintro e w4 ⟨rfl, b4⟩
                have hb := hb.trans (b4.mono hb.size)
                have hbl4 := bld_below hbl3 hsz b4
                have hsz := Nat.lt_of_lt_of_le hsz b4.size
                clear b4 hbl3
                go_wp2_with fail
                refine (Bld.ws_to B B (D ++ [32]) _ _ hbl4 (by have := HYZ.out; omega) (by omega)).mono ?_
                rintro e w5 ⟨rfl, hbl5, hb5⟩
                have hb := hb.trans (hb5.mono hwB)
                have hsz : B < w5.heap.size := Nat.lt_of_lt_of_le hsz hb5.size
                rw [HY.out, HDN.out] at hbl5
                clear hb5 hbl4
                go_wp2_with fail
                refine (Bld.len_to B B _ _ hbl5).mono ?_
                rintro e w6 ⟨rfl, rfl⟩
                obtain ⟨J, hJ⟩ : ∃ J, joinF (lst ls (j + 1)) = J := ⟨_, rfl⟩
                have HJ := Lib.hid hJ
                rw [hJ] at hbl5 ⊢
                obtain ⟨jl, hjl⟩ : ∃ jl, J.length = jl := ⟨_, rfl⟩
                have HJL := Lib.hid hjl
                rw [hjl]
                clear hJ hjl
                by_cases hbig : 600 < jl
                · have HR : Hid (R = [] ∧ rc = 2) := Lib.hid (join_big (fun j hj => HG.out j hj) HX.out hlt (by rw [HJ.out, HJL.out]; exact hbig))
                  go_wp2
                  go_ret2
                  exact ⟨ret_si (by rw [HR.out.1]) HR.out.2.symm, hb⟩
                · have HJ6 : Hid (J.length ≤ 600) := Lib.hid (by rw [HJL.out]; omega)
                  go_wp2
                  go_roundw
                  case rel => exact ⟨j + 1, J, by omega, by go_num, HJ6.out, Lib.hid HJ.out.symm, hbl5, hsz, hb⟩
                  case measure => simp [intOf]; omega
              ·
                have he1 : (ls j).toList.isEmpty = false := HE2.out (by omega)
                have hy : (⟨#[34]⟩ ++ ls j ++ ⟨#[34]⟩ : ByteArray).data.toList = qf (ls j).data.toList := by rw [Rws.cat_data, Rws.cat_data, qf, if_pos hq]
                have hyz : (⟨#[34]⟩ ++ ls j ++ ⟨#[34]⟩ : ByteArray).size ≤ 802 := by rw [Lib.size_eq, Rws.cat_data, Rws.cat_data]; simp; omega
                have HY := Lib.hid hy
                have HYZ := Lib.hid hyz
                have HDN : Hid (D ++ [] ++ qf (ls j).data.toList = joinF (lst ls (j + 1))) := Lib.hid (by rw [lst_succ, joinF, join_snoc, Opn.lst_len, hD.out, joinF]; rw [if_pos (by simp; omega)])
                clear hy hyz hq
                have HHA := Lib.hid hha
                clear hha
                have hk1 : ¬ 0 < j := by omega
                have hl32 : (D ++ []).length ≤ 601 := by rw [List.append_nil]; omega
                rw [← List.append_nil D] at hbl
                go_wp2_with fail
                refine (SAny.ca_any (ls j) ⟨#[32, 9, 13, 35]⟩ _ [32, 9, 13, 35] true _ sg4 (by omega) (Lib.hid rfl) HHA).mono ?_
                rintro e w4 ⟨rfl, b4⟩
                have hb := hb.trans (b4.mono hb.size)
                have hbl4 := bld_below hbl hsz b4
                have hsz := Nat.lt_of_lt_of_le hsz b4.size
                clear b4 hbl
                go_wp2_with fail
                refine (Bld.ws_to B B (D ++ []) _ _ hbl4 (by have := HYZ.out; omega) (by omega)).mono ?_
                rintro e w5 ⟨rfl, hbl5, hb5⟩
                have hb := hb.trans (hb5.mono hwB)
                have hsz : B < w5.heap.size := Nat.lt_of_lt_of_le hsz hb5.size
                rw [HY.out, HDN.out] at hbl5
                clear hb5 hbl4
                go_wp2_with fail
                refine (Bld.len_to B B _ _ hbl5).mono ?_
                rintro e w6 ⟨rfl, rfl⟩
                obtain ⟨J, hJ⟩ : ∃ J, joinF (lst ls (j + 1)) = J := ⟨_, rfl⟩
                have HJ := Lib.hid hJ
                rw [hJ] at hbl5 ⊢
                obtain ⟨jl, hjl⟩ : ∃ jl, J.length = jl := ⟨_, rfl⟩
                have HJL := Lib.hid hjl
                rw [hjl]
                clear hJ hjl
                by_cases hbig : 600 < jl
                · have HR : Hid (R = [] ∧ rc = 2) := Lib.hid (join_big (fun j hj => HG.out j hj) HX.out hlt (by rw [HJ.out, HJL.out]; exact hbig))
                  go_wp2
                  go_ret2
                  exact ⟨ret_si (by rw [HR.out.1]) HR.out.2.symm, hb⟩
                · have HJ6 : Hid (J.length ≤ 600) := Lib.hid (by rw [HJL.out]; omega)
                  go_wp2
                  go_roundw
                  case rel => exact ⟨j + 1, J, by omega, by go_num, HJ6.out, Lib.hid HJ.out.symm, hbl5, hsz, hb⟩
                  case measure => simp [intOf]; omega
            | false =>
              have hq : quoted (ls j).data.toList = false := by
                unfold quoted
                rw [hha, hlen]
                have : ((ls j).size == 0) = false := beq_eq_false_iff_ne.2 hz0
                rw [this]; rfl
              by_cases hkp : 0 < j
              ·
                have he1 : (ls j).toList.isEmpty = false := HE2.out (by omega)
                have hy : (ls j).data.toList = qf (ls j).data.toList := by rw [qf, if_neg (by rw [hq]; decide)]
                have hyz : (ls j).size ≤ 802 := by omega
                have HY := Lib.hid hy
                have HYZ := Lib.hid hyz
                have HDN : Hid (D ++ [32] ++ qf (ls j).data.toList = joinF (lst ls (j + 1))) := Lib.hid (by rw [lst_succ, joinF, join_snoc, Opn.lst_len, hD.out, joinF]; rw [if_neg (by simp; omega)])
                clear hy hyz hq
                have HHA := Lib.hid hha
                clear hha
                have hk1 : 0 < j := by omega
                go_wp2_with fail
                refine (Bld.wb_to B B D 32 _ hbl (by omega) (by omega)).mono ?_
                rintro e w3 ⟨rfl, hbl3, hb3⟩
                have hb := hb.trans (hb3.mono hwB)
                have hsz : B < w3.heap.size := Nat.lt_of_lt_of_le hsz hb3.size
                have hl32 : (D ++ [32]).length ≤ 601 := by rw [List.length_append]; simp; omega
                clear hb3 hbl
                go_wp2_with fail
                refine (SAny.ca_any (ls j) ⟨#[32, 9, 13, 35]⟩ _ [32, 9, 13, 35] false _ sg4 (by omega) (Lib.hid rfl) HHA).mono ?_
                rintro e w4 ⟨rfl, b4⟩
                have hb := hb.trans (b4.mono hb.size)
                have hbl4 := bld_below hbl3 hsz b4
                have hsz := Nat.lt_of_lt_of_le hsz b4.size
                clear b4 hbl3
                go_wp2_with fail
                refine (Bld.ws_to B B (D ++ [32]) _ _ hbl4 (by have := HYZ.out; omega) (by omega)).mono ?_
                rintro e w5 ⟨rfl, hbl5, hb5⟩
                have hb := hb.trans (hb5.mono hwB)
                have hsz : B < w5.heap.size := Nat.lt_of_lt_of_le hsz hb5.size
                rw [HY.out, HDN.out] at hbl5
                clear hb5 hbl4
                go_wp2_with fail
                refine (Bld.len_to B B _ _ hbl5).mono ?_
                rintro e w6 ⟨rfl, rfl⟩
                obtain ⟨J, hJ⟩ : ∃ J, joinF (lst ls (j + 1)) = J := ⟨_, rfl⟩
                have HJ := Lib.hid hJ
                rw [hJ] at hbl5 ⊢
                obtain ⟨jl, hjl⟩ : ∃ jl, J.length = jl := ⟨_, rfl⟩
                have HJL := Lib.hid hjl
                rw [hjl]
                clear hJ hjl
                by_cases hbig : 600 < jl
                · have HR : Hid (R = [] ∧ rc = 2) := Lib.hid (join_big (fun j hj => HG.out j hj) HX.out hlt (by rw [HJ.out, HJL.out]; exact hbig))
                  go_wp2
                  go_ret2
                  exact ⟨ret_si (by rw [HR.out.1]) HR.out.2.symm, hb⟩
                · have HJ6 : Hid (J.length ≤ 600) := Lib.hid (by rw [HJL.out]; omega)
                  go_wp2
                  go_roundw
                  case rel => exact ⟨j + 1, J, by omega, by go_num, HJ6.out, Lib.hid HJ.out.symm, hbl5, hsz, hb⟩
                  case measure => simp [intOf]; omega
              ·
                have he1 : (ls j).toList.isEmpty = false := HE2.out (by omega)
                have hy : (ls j).data.toList = qf (ls j).data.toList := by rw [qf, if_neg (by rw [hq]; decide)]
                have hyz : (ls j).size ≤ 802 := by omega
                have HY := Lib.hid hy
                have HYZ := Lib.hid hyz
                have HDN : Hid (D ++ [] ++ qf (ls j).data.toList = joinF (lst ls (j + 1))) := Lib.hid (by rw [lst_succ, joinF, join_snoc, Opn.lst_len, hD.out, joinF]; rw [if_pos (by simp; omega)])
                clear hy hyz hq
                have HHA := Lib.hid hha
                clear hha
                have hk1 : ¬ 0 < j := by omega
                have hl32 : (D ++ []).length ≤ 601 := by rw [List.append_nil]; omega
                rw [← List.append_nil D] at hbl
                go_wp2_with fail
                refine (SAny.ca_any (ls j) ⟨#[32, 9, 13, 35]⟩ _ [32, 9, 13, 35] false _ sg4 (by omega) (Lib.hid rfl) HHA).mono ?_
                rintro e w4 ⟨rfl, b4⟩
                have hb := hb.trans (b4.mono hb.size)
                have hbl4 := bld_below hbl hsz b4
                have hsz := Nat.lt_of_lt_of_le hsz b4.size
                clear b4 hbl
                go_wp2_with fail
                refine (Bld.ws_to B B (D ++ []) _ _ hbl4 (by have := HYZ.out; omega) (by omega)).mono ?_
                rintro e w5 ⟨rfl, hbl5, hb5⟩
                have hb := hb.trans (hb5.mono hwB)
                have hsz : B < w5.heap.size := Nat.lt_of_lt_of_le hsz hb5.size
                rw [HY.out, HDN.out] at hbl5
                clear hb5 hbl4
                go_wp2_with fail
                refine (Bld.len_to B B _ _ hbl5).mono ?_
                rintro e w6 ⟨rfl, rfl⟩
                obtain ⟨J, hJ⟩ : ∃ J, joinF (lst ls (j + 1)) = J := ⟨_, rfl⟩
                have HJ := Lib.hid hJ
                rw [hJ] at hbl5 ⊢
                obtain ⟨jl, hjl⟩ : ∃ jl, J.length = jl := ⟨_, rfl⟩
                have HJL := Lib.hid hjl
                rw [hjl]
                clear hJ hjl
                by_cases hbig : 600 < jl
                · have HR : Hid (R = [] ∧ rc = 2) := Lib.hid (join_big (fun j hj => HG.out j hj) HX.out hlt (by rw [HJ.out, HJL.out]; exact hbig))
                  go_wp2
                  go_ret2
                  exact ⟨ret_si (by rw [HR.out.1]) HR.out.2.symm, hb⟩
                · have HJ6 : Hid (J.length ≤ 600) := Lib.hid (by rw [HJL.out]; omega)
                  go_wp2
                  go_roundw
                  case rel => exact ⟨j + 1, J, by omega, by go_num, HJ6.out, Lib.hid HJ.out.symm, hbl5, hsz, hb⟩
                  case measure => simp [intOf]; omega
        · obtain rfl : j = k := by omega
          have HR : Hid (R = D ∧ rc = 0) := Lib.hid (by
            have h := HX.out
            rw [joinR, any_bad HG.out, if_neg (by decide), ← hD.out, if_neg (by omega)] at h
            injection h with a b
            exact ⟨a.symm, b.symm⟩)
          clear hD
          go_wp2_with fail
          refine (Bld.str_to B B D _ hbl (by omega)).mono ?_
          rintro e w6 ⟨rfl, hb6⟩
          go_wp2
          go_ret2
          exact ⟨ret_si (by rw [HR.out.1]) HR.out.2.symm, hb.trans (hb6.mono hwB)⟩
set_option maxRecDepth 100000 in
theorem join_nil (A : Option Addr) (c : Nat) (w : World) :
    Calls Try.prog 6 #[.slice A 0 c] w fun e w' => e = .returned (.tuple #[.string ⟨#[]⟩, .int .i64 0]) ∧ Below w.heap.size w w' := by
  have hf := Bld.fresh w
  have hb1 : Below w.heap.size w (w.alloc (.cells #[.pointer none, .slice none 0 0] 37)) := (Below.refl _ _).alloc (Nat.le_refl _) _
  go_enter Try.func6, Try.ntmps6
  go_wp2_with fail
  refine wp_loop_rounds 1 ?_
  rw [rounds_succ]
  go_wp2_with fail
  refine wp_loop_rounds 1 ?_
  rw [rounds_succ]
  go_wp2_with fail
  refine (Bld.str_to w.heap.size w.heap.size [] _ hf (by simp)).mono ?_
  rintro e w6 ⟨rfl, hb6⟩
  go_wp2
  go_ret2
  exact ⟨rfl, hb1.trans hb6⟩
theorem join_to (v : Value) (L : List (List UInt8)) (R : List UInt8) (rc : Int) (w : World) (hv : TxtV w v L) (h60 : L.length ≤ 60) (h8 : ∀ t ∈ L, t.length ≤ 800) (hX : Hid (joinR L = (R, rc))) :
    Calls Try.prog 6 #[v] w fun e w' => e = .returned (.tuple #[.string ⟨R.toArray⟩, .int .i64 rc]) ∧ Below w.heap.size w w' := by
  by_cases h0 : L.length = 0
  · have e := List.length_eq_zero_iff.1 h0
    subst e
    obtain ⟨a, c, rfl⟩ := hv.nil
    have h := hX.out
    have h2 : R = [] ∧ rc = 0 := by
      rw [show joinR [] = ([], 0) from rfl] at h
      injection h with a b
      exact ⟨a.symm, b.symm⟩
    obtain ⟨rfl, rfl⟩ := h2
    exact join_nil a c w
  · obtain ⟨b, off, c, rfl, hb, hc⟩ := hv.form (by omega)
    have hls : lst (fun j => ⟨(L.getD j []).toArray⟩) L.length = L := by
      refine List.ext_getElem (by rw [Opn.lst_len]) (fun j h1 h2 => ?_)
      rw [Opn.lst_at]
      show L.getD j [] = _
      rw [List.getD_eq_getElem?_getD, List.getElem?_eq_getElem h2]
      rfl
    refine join_some b off L.length c (fun j => ⟨(L.getD j []).toArray⟩) R rc w h60 hb (fun j hj => ?_) (fun j hj => ?_) (by rw [hls]; exact hX)
    · rw [hc j hj, List.getD_eq_getElem?_getD, List.getElem?_eq_getElem hj]
      rfl
    · show (L.getD j []).length ≤ 800
      rw [List.getD_eq_getElem?_getD, List.getElem?_eq_getElem hj]
      exact h8 _ (List.getElem_mem hj)
end Fds
end Go.Proofs.Ytdehpljpionpfaa
