/-
  FieldsBlanks: the walk. (Written by gen/gen_fde.py.)
-/
import Derived.Test.YtdehpljpionpfaaFdD
namespace Go.Proofs.Ytdehpljpionpfaa
open Go.RowKit
namespace Fds
open Opn (sv TxtV Strs lst)
/-- The law's blanks. -/
def bX : Nat → ByteArray
  | 0 => ⟨#[32]⟩
  | 1 => ⟨#[9]⟩
  | 2 => ⟨#[32, 32]⟩
  | _ => ⟨#[32, 9, 13, 32]⟩
def blk : Obj := .cells #[.string ⟨#[32]⟩, .string ⟨#[9]⟩, .string ⟨#[32, 32]⟩, .string ⟨#[32, 9, 13, 32]⟩] 9
theorem blk_cell (w : World) (k : Nat) (h : k < 4) : (w.alloc blk).cell? ⟨w.heap.size, k, none⟩ = some (.string (bX k)) := by
  unfold blk
  rw [World.cell?_alloc_new]
  match k, h with
  | 0, _ => rfl
  | 1, _ => rfl
  | 2, _ => rfl
  | 3, _ => rfl
theorem bX_size (k : Nat) (h : k < 4) : 1 ≤ (bX k).size ∧ (bX k).size ≤ 4 := by
  match k, h with
  | 0, _ => decide
  | 1, _ => decide
  | 2, _ => decide
  | 3, _ => decide
def Blk (X : List UInt8) : Prop := X ≠ [] ∧ X.all isBl = true ∧ bad0 X = false
theorem bX_blank (k : Nat) : Blk (bX k).data.toList := by
  match k with
  | 0 => exact ⟨by decide, by decide, by decide⟩
  | 1 => exact ⟨by decide, by decide, by decide⟩
  | 2 => exact ⟨by decide, by decide, by decide⟩
  | n + 3 => exact ⟨by show ([32, 9, 13, 32] : List UInt8) ≠ []; decide, by show ([32, 9, 13, 32] : List UInt8).all isBl = true; decide, by show bad0 [32, 9, 13, 32] = false; decide⟩
theorem u4 (x : Int) : ∃ k : Nat, (IntKind.u64.wrap x).tmod 4 = (k : Int) ∧ k < 4 := by
  have h1 := Int.tmod_nonneg 4 (show 0 ≤ IntKind.u64.wrap x by rw [IntKind.wrap_u64]; omega)
  have h2 := Int.tmod_lt_of_pos (IntKind.u64.wrap x) (show (0 : Int) < 4 by omega)
  exact ⟨((IntKind.u64.wrap x).tmod 4).toNat, by omega, by omega⟩
/-- A sign of a field that needs no quotes. -/
def gd (c : UInt8) : Bool := decide (32 < (c.toNat : Int) ∧ c ≠ 35 ∧ c ≠ 34)
theorem gd_bl {c : UInt8} (h : gd c = true) : isBl c = false := by
  have h1 := (of_decide_eq_true h).1
  unfold isBl
  have a : (c == 32) = false := beq_eq_false_iff_ne.2 (fun e => by rw [e] at h1; exact absurd h1 (by decide))
  have b : (c == 9) = false := beq_eq_false_iff_ne.2 (fun e => by rw [e] at h1; exact absurd h1 (by decide))
  have d : (c == 13) = false := beq_eq_false_iff_ne.2 (fun e => by rw [e] at h1; exact absurd h1 (by decide))
  rw [a, b, d]; rfl
theorem sp_blanks : ∀ (X R : List UInt8), X.all isBl = true → spG 0 [] (X ++ R) = spG 0 [] R
  | [], R, _ => rfl
  | b :: X, R, h => by
    rw [List.all_cons, Bool.and_eq_true] at h
    rw [List.cons_append, sp_blank _ h.1, sp_blanks X R h.2]
/-- What has been written has just these fields. -/
def FB (L : List (List UInt8)) (D : List UInt8) : Prop := (∀ R, spG 0 [] (D ++ R) = (spG 0 [] R).map (fun r => L ++ r)) ∧ bad0 D = false
theorem FB.start {X : List UInt8} (h : Blk X) : FB [] X := ⟨fun R => by rw [sp_blanks X R h.2.1]; simp, h.2.2⟩
theorem FB.more {L : List (List UInt8)} {D F X : List UInt8} (h : FB L D) (h0 : 0 < F.length) (hg : F.all gd = true) (hX : Blk X) : FB (L ++ [F]) (D ++ F ++ X) := by
  have hall : ∀ c ∈ F, c ≠ 34 ∧ c ≠ 35 ∧ isBl c = false := fun c hc => by
    have h1 := List.all_eq_true.1 hg c hc
    have h2 := of_decide_eq_true h1
    exact ⟨h2.2.2, h2.2.1, gd_bl h1⟩
  refine ⟨fun R => ?_, ?_⟩
  · rw [List.append_assoc, List.append_assoc, h.1]
    have hf : spG 0 [] (F ++ (X ++ R)) = spG 1 F (X ++ R) := by
      match F, h0, hall with
      | c :: F', _, hall =>
        obtain ⟨a1, a2, a3⟩ := hall c List.mem_cons_self
        rw [List.cons_append, sp_begin _ a2 a3, ← List.cons_append, sp_plain (c :: F') [] _ hall, List.nil_append]
    rw [hf]
    match X, hX with
    | b :: X', hX =>
      have hb := hX.2.1
      rw [List.all_cons, Bool.and_eq_true] at hb
      rw [List.cons_append, sp_ends _ _ (Or.inr hb.1), sp_blank _ hb.1, sp_blanks X' R hb.2, Option.map_map]
      congr 1
      funext r
      simp
    | [], hX => exact absurd rfl hX.1
  · rw [bad0_app, bad0_app, h.2, hX.2.2]
    have : bad0 F = false := by
      unfold bad0
      rw [Bool.or_eq_false_iff]
      constructor
      · cases hc : F.contains 0 with
        | false => rfl
        | true => exact absurd (List.all_eq_true.1 hg 0 (List.contains_iff_mem.1 hc)) (by decide)
      · cases hc : F.contains 10 with
        | false => rfl
        | true => exact absurd (List.all_eq_true.1 hg 10 (List.contains_iff_mem.1 hc)) (by decide)
    rw [this]; rfl
theorem FB.splits {L : List (List UInt8)} {D : List UInt8} (h : FB L D) (S : List UInt8) (hS : bad0 S = false) (hl : D.length + S.length + 1 ≤ 600) : splitR D = (L, 0) ∧ splitR (D ++ 35 :: S) = (L, 0) := by
  constructor
  · have h1 := h.1 []
    rw [List.append_nil, sp0_nil] at h1
    unfold splitR
    rw [if_neg (by omega), if_neg (by rw [h.2]; decide), h1]
    simp
  · have h1 := h.1 (35 :: S)
    rw [sp_hash] at h1
    have h2 : bad0 (D ++ 35 :: S) = false := by
      rw [bad0_app, h.2]
      show bad0 ([35] ++ S) = false
      rw [bad0_app, hS]; rfl
    unfold splitR
    rw [if_neg (by rw [List.length_append, List.length_cons]; omega), if_neg (by rw [h2]; decide), h1]
    simp
set_option maxHeartbeats 25600000 in
set_option maxRecDepth 100000 in
theorem fdblanks_nil (A : Option Addr) (c : Nat) (ls : Nat → ByteArray) (x : Int) (s : ByteArray) (w : World) (hz : s.size ≤ 100)  :
    Calls Try.prog 4 #[(.slice A 0 c), .int .i64 x, .string s] w fun e w' => e = .returned (.bool true) ∧ Below w.heap.size w w' := by
  have HST : Hid (Strs A 0 ls w) := Lib.hid (fun j hj => by omega)
  obtain ⟨S, hS⟩ : ∃ y, s.data.toList = y := ⟨_, rfl⟩
  have HS := Lib.hid hS
  have hl : S.length = s.size := by rw [← hS]; simp
  have HL := Lib.hid hl
  clear hS hl
  obtain ⟨k0, hk0, hk4⟩ := u4 x
  have hc0 := blk_cell w k0 hk4
  have hb1 : Below w.heap.size w (w.alloc blk) := (Below.refl _ _).alloc (Nat.le_refl _) _
  have hsz1 : w.heap.size < (w.alloc blk).heap.size := by simp
  have HBC : Hid (∀ k, k < 4 → (w.alloc blk).cell? ⟨w.heap.size, k, none⟩ = some (.string (bX k))) := Lib.hid (fun k hk => blk_cell w k hk)
  have hz0 := bX_size k0 hk4
  unfold blk at hc0
  go_enter Try.func4, Try.ntmps4
  go_wp2
  rw [show Obj.cells #[Value.string ⟨#[32]⟩, Value.string ⟨#[9]⟩, Value.string ⟨#[32, 32]⟩, Value.string ⟨#[32, 9, 13, 32]⟩] 9 = blk from rfl] at *
  obtain ⟨B, hB⟩ : ∃ B, w.heap.size = B := ⟨_, rfl⟩
  obtain ⟨w1, hw1⟩ : ∃ y, w.alloc blk = y := ⟨_, rfl⟩
  rw [hw1] at hb1 hsz1 HBC ⊢
  have HB := Lib.hid hB
  rw [hB] at hsz1 HBC ⊢
  clear hB hw1 hc0 hk0
  have hD0 : Hid (bX k0 = ⟨(bX k0).data.toList.toArray⟩) := Lib.hid (Opn.back_str (bX k0)).symm
  have hD1 : (bX k0).data.toList.length ≤ 4 := by have : (bX k0).data.toList.length = (bX k0).size := by simp
                                                  omega
  have hF0 : FB [] (bX k0).data.toList := FB.start (bX_blank k0)
  rw [hD0.out]
  obtain ⟨D0, hD00⟩ : ∃ D0, (bX k0).data.toList = D0 := ⟨_, rfl⟩
  rw [hD00] at hD1 hF0 ⊢
  clear hD0 hD00 hz0
  go_loopw [8, 9] (fun tv iv wr => ∃ (i : Nat) (D : List UInt8) (m : Nat), i ≤ 0 ∧ iv = .int .i64 i ∧ tv = .string ⟨D.toArray⟩ ∧ D.length ≤ 4 + 14 * i ∧ FB (lst ls i) D ∧ wr = w1.drewN m) (fun _ iv _ => 0 - (intOf iv).toNat)
  case atStart => exact ⟨0, D0, 0, Nat.zero_le _, rfl, rfl, by omega, hF0, rfl⟩
  case round =>
    obtain ⟨i, D, m, hi, rfl, rfl, hD, hfb, rfl⟩ := hrel
    by_cases hlt : i < 0
    · omega
    · obtain rfl : 0 = i := by omega
      have hbd : Below w.heap.size w (w1.drewN m) := below_drewN hb1 m
      obtain ⟨w2, hw2⟩ : ∃ y, w1.drewN m = y := ⟨_, rfl⟩
      rw [hw2] at hbd ⊢
      have HFB := Lib.hid hfb
      have hsD : (⟨D.toArray⟩ : ByteArray).size = D.length := rfl
      clear hw2 hfb HBC
      go_wp2
      go_loopw [11] (fun iv wr => ∃ k : Nat, k ≤ s.size ∧ iv = .int .i64 k ∧ Hid (bad0 (S.take k) = false) ∧ w2 = wr) (fun iv _ => s.size - (intOf iv).toNat)
      case atStart => exact ⟨0, Nat.zero_le _, rfl, Lib.hid rfl, rfl⟩
      case round =>
        obtain ⟨k, hk, rfl, hno, rfl⟩ := hrel
        by_cases hlt : k < s.size
        · obtain ⟨hkS, hx⟩ := SAny.get_list HS.out k hlt
          obtain ⟨c1, hc⟩ : ∃ c1, s[k] = c1 := ⟨_, rfl⟩
          rw [hc] at hx
          have cb := c1.toNat_lt
          by_cases e0 : c1 = 0
          · subst e0
            clear hx hno
            go_wp2
            go_ret
            exact ⟨rfl, hbd⟩
          by_cases e1 : c1 = 10
          · subst e1
            clear hx hno
            go_wp2
            go_ret
            exact ⟨rfl, hbd⟩
          have n0 : ((c1.toNat : Int) == 0) = false := Esc.u8_ne (n := 0) (by decide) e0
          have n1 : ((c1.toNat : Int) == 10) = false := Esc.u8_ne (n := 10) (by decide) e1
          have HN : Hid (bad0 (S.take (k + 1)) = false) := Lib.hid (by
            rw [List.take_succ_eq_append_getElem hkS, bad0_app, hno.out, ← hx]
            unfold bad0
            simp [Ne.symm e0, Ne.symm e1])
          clear hx hno e0 e1
          go_wp2
          go_roundw
          case rel => exact ⟨k + 1, by omega, by go_num, HN, trivial⟩
          case measure => simp [intOf]; omega
        · have hbs : bad0 S = false := by have h1 := hno.out; rwa [List.take_of_length_le (by rw [HL.out]; omega)] at h1
          obtain ⟨g1, g2⟩ := HFB.out.splits S hbs (by rw [HL.out]; omega)
          have G1 := Lib.hid g1
          have G2 := Lib.hid g2
          have HX : Hid ((⟨D.toArray⟩ ++ ⟨#[35]⟩ ++ s : ByteArray).data.toList = D ++ 35 :: S) := Lib.hid (by rw [Rws.cat_data, Rws.cat_data, HS.out]; simp)
          have hxz : (⟨D.toArray⟩ ++ ⟨#[35]⟩ ++ s : ByteArray).size ≤ 1000 := by rw [Lib.size_eq, HX.out, List.length_append, List.length_cons, HL.out]; omega
          have HXZ := Lib.hid hxz
          have LA := Lib.hid (HST.out.below hbd)
          clear hno hbs g1 g2 hxz
          have CC := Lib.hid (fun W => spl_to ⟨D.toArray⟩ D (lst ls 0) 0 W (by omega) (Lib.hid rfl) G1)
          have CD := Lib.hid (fun W => spl_to (⟨D.toArray⟩ ++ ⟨#[35]⟩ ++ s) _ (lst ls 0) 0 W (by have := HXZ.out; omega) HX G2)
          go_wp2_with fail
          with_reducible refine (CC.out _).mono ?_
          rintro e w3 ⟨v3, rfl, t3, d3⟩
          have b3 := hbd.trans (d3.mono hbd.size)
          have LB := Lib.hid (LA.out.below d3)
          have T3 := Lib.hid t3
          clear t3 d3 LA
          go_wp2_with fail
          with_reducible refine (CD.out _).mono ?_
          rintro e w4 ⟨v4, rfl, t4, d4⟩
          have b4 := b3.trans (d4.mono b3.size)
          have LC := Lib.hid (LB.out.below d4)
          have T34 := Lib.hid (T3.out.below d4)
          have T4 := Lib.hid t4
          clear t4 d4 LB b3 T3
          go_wp2_with fail
          refine (Opn.texts_any v3 _ (lst ls 0) (lst ls 0) _ T34.out (TxtV.of_strs LC.out) (by rw [Opn.lst_len]; omega) (by rw [Opn.lst_len]; omega)).mono ?_
          rintro e w5 ⟨bb, rfl, hbb, m5, rfl⟩
          obtain rfl : bb = true := by rw [hbb.out]; exact decide_eq_true rfl
          have b5 := below_drewN b4 m5
          have LD := Lib.hid (LC.out.below (below_drewN (Below.refl _ _) m5))
          have T5 := Lib.hid (T4.out.drew m5)
          obtain ⟨W5, hW5⟩ : ∃ y, w4.drewN m5 = y := ⟨_, rfl⟩
          rw [hW5] at b5 LD T5 ⊢
          clear hbb T34 T4 LC b4 hW5
          go_wp2_with fail
          refine (Opn.texts_any v4 _ (lst ls 0) (lst ls 0) _ T5.out (TxtV.of_strs LD.out) (by rw [Opn.lst_len]; omega) (by rw [Opn.lst_len]; omega)).mono ?_
          rintro e w6 ⟨bb, rfl, hbb, m6, rfl⟩
          obtain rfl : bb = true := by rw [hbb.out]; exact decide_eq_true rfl
          have b6 := below_drewN b5 m6
          clear hbb T5 LD
          go_wp2_with fail
          refine (wakes05_any _).mono ?_
          rintro e w7 ⟨rfl, b7⟩
          go_wp2
          go_ret
          exact ⟨rfl, b6.trans (b7.mono b6.size)⟩
set_option maxHeartbeats 25600000 in
set_option maxRecDepth 100000 in
theorem fdblanks_some (bk off n c : Nat) (ls : Nat → ByteArray) (x : Int) (s : ByteArray) (w : World) (hz : s.size ≤ 100)  (h20 : n ≤ 20) (hbk : bk < w.heap.size) (hcell : ∀ j, j < n → w.cell? ⟨bk, off + j, none⟩ = some (.string (ls j)) ∧ (ls j).size ≤ maxLen) :
    Calls Try.prog 4 #[(.slice (some ⟨bk, off, none⟩) n c), .int .i64 x, .string s] w fun e w' => e = .returned (.bool true) ∧ Below w.heap.size w w' := by
  have HC := Lib.hid hcell
  have HST : Hid (Strs (some ⟨bk, off, none⟩) n ls w) := Lib.hid (fun j hj => ⟨bk, off, rfl, hbk, (hcell j hj).1, (hcell j hj).2⟩)
  clear hcell
  obtain ⟨S, hS⟩ : ∃ y, s.data.toList = y := ⟨_, rfl⟩
  have HS := Lib.hid hS
  have hl : S.length = s.size := by rw [← hS]; simp
  have HL := Lib.hid hl
  clear hS hl
  obtain ⟨k0, hk0, hk4⟩ := u4 x
  have hc0 := blk_cell w k0 hk4
  have hb1 : Below w.heap.size w (w.alloc blk) := (Below.refl _ _).alloc (Nat.le_refl _) _
  have hsz1 : w.heap.size < (w.alloc blk).heap.size := by simp
  have HBC : Hid (∀ k, k < 4 → (w.alloc blk).cell? ⟨w.heap.size, k, none⟩ = some (.string (bX k))) := Lib.hid (fun k hk => blk_cell w k hk)
  have hz0 := bX_size k0 hk4
  unfold blk at hc0
  go_enter Try.func4, Try.ntmps4
  go_wp2
  rw [show Obj.cells #[Value.string ⟨#[32]⟩, Value.string ⟨#[9]⟩, Value.string ⟨#[32, 32]⟩, Value.string ⟨#[32, 9, 13, 32]⟩] 9 = blk from rfl] at *
  obtain ⟨B, hB⟩ : ∃ B, w.heap.size = B := ⟨_, rfl⟩
  obtain ⟨w1, hw1⟩ : ∃ y, w.alloc blk = y := ⟨_, rfl⟩
  rw [hw1] at hb1 hsz1 HBC ⊢
  have HB := Lib.hid hB
  rw [hB] at hsz1 HBC ⊢
  clear hB hw1 hc0 hk0
  have hD0 : Hid (bX k0 = ⟨(bX k0).data.toList.toArray⟩) := Lib.hid (Opn.back_str (bX k0)).symm
  have hD1 : (bX k0).data.toList.length ≤ 4 := by have : (bX k0).data.toList.length = (bX k0).size := by simp
                                                  omega
  have hF0 : FB [] (bX k0).data.toList := FB.start (bX_blank k0)
  rw [hD0.out]
  obtain ⟨D0, hD00⟩ : ∃ D0, (bX k0).data.toList = D0 := ⟨_, rfl⟩
  rw [hD00] at hD1 hF0 ⊢
  clear hD0 hD00 hz0
  go_loopw [8, 9] (fun tv iv wr => ∃ (i : Nat) (D : List UInt8) (m : Nat), i ≤ n ∧ iv = .int .i64 i ∧ tv = .string ⟨D.toArray⟩ ∧ D.length ≤ 4 + 14 * i ∧ FB (lst ls i) D ∧ wr = w1.drewN m) (fun _ iv _ => n - (intOf iv).toNat)
  case atStart => exact ⟨0, D0, 0, Nat.zero_le _, rfl, rfl, by omega, hF0, rfl⟩
  case round =>
    obtain ⟨i, D, m, hi, rfl, rfl, hD, hfb, rfl⟩ := hrel
    by_cases hlt : i < n
    · obtain ⟨hcl, hzl⟩ := HC.out i hlt
      have hc2 : (w1.drewN m).cell? ⟨bk, off + i, none⟩ = some (.string (ls i)) := (hb1.cell (p := ⟨bk, off + i, none⟩) hbk).trans hcl
      unfold maxLen at hzl
      have hbd : Below w.heap.size w (w1.drewN m) := below_drewN hb1 m
      obtain ⟨w2, hw2⟩ : ∃ y, w1.drewN m = y := ⟨_, rfl⟩
      have HW2 := Lib.hid hw2
      rw [hw2] at hc2 hbd ⊢
      have HFB := Lib.hid hfb
      clear hw2 hfb hcl
      by_cases z1 : (ls i).size < 1
      · go_wp2
        go_ret
        exact ⟨rfl, hbd⟩
      by_cases z2 : 10 < (ls i).size
      · go_wp2
        go_ret
        exact ⟨rfl, hbd⟩
      have z3 : (ls i).size ≤ 10 := by omega
      obtain ⟨F, hF⟩ : ∃ F, (ls i).data.toList = F := ⟨_, rfl⟩
      have HF := Lib.hid hF
      have hFl : F.length = (ls i).size := by rw [← hF]; simp
      have HFL := Lib.hid hFl
      clear hF hFl z2
      go_wp2
      go_loopw [10] (fun kv wx => ∃ k : Nat, k ≤ (ls i).size ∧ kv = .int .i64 k ∧ Hid ((F.take k).all gd = true) ∧ w2 = wx) (fun kv _ => (ls i).size - (intOf kv).toNat)
      case atStart => exact ⟨0, Nat.zero_le _, rfl, Lib.hid rfl, rfl⟩
      case round =>
        obtain ⟨k, hk, rfl, hno, rfl⟩ := hrel
        by_cases hltk : k < (ls i).size
        · obtain ⟨hkF, hx⟩ := SAny.get_list HF.out k hltk
          obtain ⟨c1, hc⟩ : ∃ c1, (ls i)[k] = c1 := ⟨_, rfl⟩
          rw [hc] at hx
          have cb := c1.toNat_lt
          by_cases e0 : (c1.toNat : Int) ≤ 32
          · clear hx hno
            go_wp2
            go_ret
            exact ⟨rfl, hbd⟩
          by_cases e1 : c1 = 35
          · subst e1
            clear hx hno
            go_wp2
            go_ret
            exact ⟨rfl, hbd⟩
          by_cases e2 : c1 = 34
          · subst e2
            clear hx hno
            go_wp2
            go_ret
            exact ⟨rfl, hbd⟩
          have n1 : ((c1.toNat : Int) == 35) = false := Esc.u8_ne (n := 35) (by decide) e1
          have n2 : ((c1.toNat : Int) == 34) = false := Esc.u8_ne (n := 34) (by decide) e2
          have HN : Hid ((F.take (k + 1)).all gd = true) := Lib.hid (by
            rw [List.take_succ_eq_append_getElem hkF, List.all_append, hno.out, ← hx, List.all_cons, List.all_nil]
            have : gd c1 = true := decide_eq_true ⟨by omega, e1, e2⟩
            rw [this]; rfl)
          clear hx hno e1 e2
          go_wp2
          go_roundw
          case rel => exact ⟨k + 1, by omega, by go_num, HN, trivial⟩
          case measure => simp [intOf]; omega
        · have hall : F.all gd = true := by have h1 := hno.out; rwa [List.take_of_length_le (by rw [HFL.out]; omega)] at h1
          obtain ⟨j, hj, hj4⟩ := u4 (IntKind.i64.wrap (x + (i : Int)))
          have hcb : w2.cell? ⟨B, j, none⟩ = some (.string (bX j)) := by rw [← HW2.out]; exact HBC.out j hj4
          have hjz := bX_size j hj4
          have HFN : FB (lst ls (i + 1)) (D ++ F ++ (bX j).data.toList) := by
            rw [lst_succ, HF.out]
            exact HFB.out.more (by rw [HFL.out]; omega) hall (bX_blank j)
          have hbl : (bX j).data.toList.length = (bX j).size := by simp
          have HDL : Hid ((D ++ F ++ (bX j).data.toList).length ≤ 4 + 14 * (i + 1)) := Lib.hid (by rw [List.length_append, List.length_append, HFL.out, hbl]; omega)
          have HCA : Hid ((⟨D.toArray⟩ : ByteArray) ++ ls i ++ bX j = ⟨(D ++ F ++ (bX j).data.toList).toArray⟩) := Lib.hid (by
            apply Rws.ba_eq
            rw [Rws.cat_data, Rws.cat_data, HF.out])
          have hsD : (⟨D.toArray⟩ : ByteArray).size = D.length := rfl
          have j0 : (0 : Int) ≤ (j : Int) := by omega
          have j4 : (j : Int) < 4 := by omega
          have jn : (j : Int).toNat = j := by omega
          have jw : IntKind.i64.wrap (j : Int) = (j : Int) := IntWalk.i64_in _ (by omega)
          have y1 : ¬ 9223372036854775807 < D.length + (ls i).size := by omega
          have y2 : ¬ 9223372036854775807 < D.length + (ls i).size + (bX j).size := by omega
          clear hno hall hbl
          go_wp2_with fail
          go_quiet (fail)
          clear jn jw hj
          go_wp2
          go_roundw
          case rel => exact ⟨i + 1, D ++ F ++ (bX j).data.toList, m + nq, by omega, by go_num, by rw [HCA.out], HDL.out, HFN, by rw [← HW2.out]; first | rfl | rw [World.drewN_drewN]⟩
          case measure => simp [intOf]; omega
    · obtain rfl : n = i := by omega
      have hbd : Below w.heap.size w (w1.drewN m) := below_drewN hb1 m
      obtain ⟨w2, hw2⟩ : ∃ y, w1.drewN m = y := ⟨_, rfl⟩
      rw [hw2] at hbd ⊢
      have HFB := Lib.hid hfb
      have hsD : (⟨D.toArray⟩ : ByteArray).size = D.length := rfl
      clear hw2 hfb HBC
      go_wp2
      go_loopw [11] (fun iv wr => ∃ k : Nat, k ≤ s.size ∧ iv = .int .i64 k ∧ Hid (bad0 (S.take k) = false) ∧ w2 = wr) (fun iv _ => s.size - (intOf iv).toNat)
      case atStart => exact ⟨0, Nat.zero_le _, rfl, Lib.hid rfl, rfl⟩
      case round =>
        obtain ⟨k, hk, rfl, hno, rfl⟩ := hrel
        by_cases hlt : k < s.size
        · obtain ⟨hkS, hx⟩ := SAny.get_list HS.out k hlt
          obtain ⟨c1, hc⟩ : ∃ c1, s[k] = c1 := ⟨_, rfl⟩
          rw [hc] at hx
          have cb := c1.toNat_lt
          by_cases e0 : c1 = 0
          · subst e0
            clear hx hno
            go_wp2
            go_ret
            exact ⟨rfl, hbd⟩
          by_cases e1 : c1 = 10
          · subst e1
            clear hx hno
            go_wp2
            go_ret
            exact ⟨rfl, hbd⟩
          have n0 : ((c1.toNat : Int) == 0) = false := Esc.u8_ne (n := 0) (by decide) e0
          have n1 : ((c1.toNat : Int) == 10) = false := Esc.u8_ne (n := 10) (by decide) e1
          have HN : Hid (bad0 (S.take (k + 1)) = false) := Lib.hid (by
            rw [List.take_succ_eq_append_getElem hkS, bad0_app, hno.out, ← hx]
            unfold bad0
            simp [Ne.symm e0, Ne.symm e1])
          clear hx hno e0 e1
          go_wp2
          go_roundw
          case rel => exact ⟨k + 1, by omega, by go_num, HN, trivial⟩
          case measure => simp [intOf]; omega
        · have hbs : bad0 S = false := by have h1 := hno.out; rwa [List.take_of_length_le (by rw [HL.out]; omega)] at h1
          obtain ⟨g1, g2⟩ := HFB.out.splits S hbs (by rw [HL.out]; omega)
          have G1 := Lib.hid g1
          have G2 := Lib.hid g2
          have HX : Hid ((⟨D.toArray⟩ ++ ⟨#[35]⟩ ++ s : ByteArray).data.toList = D ++ 35 :: S) := Lib.hid (by rw [Rws.cat_data, Rws.cat_data, HS.out]; simp)
          have hxz : (⟨D.toArray⟩ ++ ⟨#[35]⟩ ++ s : ByteArray).size ≤ 1000 := by rw [Lib.size_eq, HX.out, List.length_append, List.length_cons, HL.out]; omega
          have HXZ := Lib.hid hxz
          have LA := Lib.hid (HST.out.below hbd)
          clear hno hbs g1 g2 hxz
          have CC := Lib.hid (fun W => spl_to ⟨D.toArray⟩ D (lst ls n) 0 W (by omega) (Lib.hid rfl) G1)
          have CD := Lib.hid (fun W => spl_to (⟨D.toArray⟩ ++ ⟨#[35]⟩ ++ s) _ (lst ls n) 0 W (by have := HXZ.out; omega) HX G2)
          go_wp2_with fail
          with_reducible refine (CC.out _).mono ?_
          rintro e w3 ⟨v3, rfl, t3, d3⟩
          have b3 := hbd.trans (d3.mono hbd.size)
          have LB := Lib.hid (LA.out.below d3)
          have T3 := Lib.hid t3
          clear t3 d3 LA
          go_wp2_with fail
          with_reducible refine (CD.out _).mono ?_
          rintro e w4 ⟨v4, rfl, t4, d4⟩
          have b4 := b3.trans (d4.mono b3.size)
          have LC := Lib.hid (LB.out.below d4)
          have T34 := Lib.hid (T3.out.below d4)
          have T4 := Lib.hid t4
          clear t4 d4 LB b3 T3
          go_wp2_with fail
          refine (Opn.texts_any v3 _ (lst ls n) (lst ls n) _ T34.out (TxtV.of_strs LC.out) (by rw [Opn.lst_len]; omega) (by rw [Opn.lst_len]; omega)).mono ?_
          rintro e w5 ⟨bb, rfl, hbb, m5, rfl⟩
          obtain rfl : bb = true := by rw [hbb.out]; exact decide_eq_true rfl
          have b5 := below_drewN b4 m5
          have LD := Lib.hid (LC.out.below (below_drewN (Below.refl _ _) m5))
          have T5 := Lib.hid (T4.out.drew m5)
          obtain ⟨W5, hW5⟩ : ∃ y, w4.drewN m5 = y := ⟨_, rfl⟩
          rw [hW5] at b5 LD T5 ⊢
          clear hbb T34 T4 LC b4 hW5
          go_wp2_with fail
          refine (Opn.texts_any v4 _ (lst ls n) (lst ls n) _ T5.out (TxtV.of_strs LD.out) (by rw [Opn.lst_len]; omega) (by rw [Opn.lst_len]; omega)).mono ?_
          rintro e w6 ⟨bb, rfl, hbb, m6, rfl⟩
          obtain rfl : bb = true := by rw [hbb.out]; exact decide_eq_true rfl
          have b6 := below_drewN b5 m6
          clear hbb T5 LD
          go_wp2_with fail
          refine (wakes05_any _).mono ?_
          rintro e w7 ⟨rfl, b7⟩
          go_wp2
          go_ret
          exact ⟨rfl, b6.trans (b7.mono b6.size)⟩
set_option maxRecDepth 100000 in
theorem fdblanks_out (A : Option Addr) (n c : Nat) (x : Int) (s : ByteArray) (w : World) (hn : n ≤ maxLen) (hz : s.size ≤ maxLen) (h : 20 < n ∨ 100 < s.size) :
    Calls Try.prog 4 #[.slice A n c, .int .i64 x, .string s] w fun e w' => e = .returned (.bool true) ∧ Below w.heap.size w w' := by
  unfold maxLen at hn hz
  by_cases h1 : 20 < n
  · go_enter Try.func4, Try.ntmps4
    go_wp2
    go_ret
    exact ⟨rfl, Below.refl _ _⟩
  · have h2 : 100 < s.size := by omega
    clear h
    go_enter Try.func4, Try.ntmps4
    go_wp2
    go_ret
    exact ⟨rfl, Below.refl _ _⟩
theorem fdblanks_any (A : Option Addr) (n c : Nat) (ls : Nat → ByteArray) (x : Int) (s : ByteArray) (w : World) (hn : n ≤ maxLen) (hl : Strs A n ls w) (hz : s.size ≤ maxLen) :
    Calls Try.prog 4 #[.slice A n c, .int .i64 x, .string s] w fun e w' => e = .returned (.bool true) ∧ Below w.heap.size w w' := by
  by_cases h : 20 < n ∨ 100 < s.size
  · exact fdblanks_out A n c x s w hn hz h
  · by_cases h0 : n = 0
    · subst h0; exact fdblanks_nil A c ls x s w (by omega)
    · obtain ⟨bk, off, rfl, hbk, hcell⟩ := hl.form (by omega)
      exact fdblanks_some bk off n c ls x s w (by omega) (by omega) hbk hcell
end Fds
end Go.Proofs.Ytdehpljpionpfaa
