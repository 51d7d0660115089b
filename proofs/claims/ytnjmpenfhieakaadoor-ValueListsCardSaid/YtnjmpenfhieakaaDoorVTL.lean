/-
  ValueLists: times' texts with a comma between are the times; of UTC and local together they are none.
-/
import Derived.Test.YtnjmpenfhieakaaDoorVTr
import Derived.Test.YtnjmpenfhieakaaDoorVTs
import Derived.Test.YtnjmpenfhieakaaDoorVBack
import Derived.Test.YtnjmpenfhieakaaDoorOpen
namespace Go.Proofs.YtnjmpenfhieakaaDoor
open Go.RowKit
namespace Val
open Sol Civ Wk
theorem bapp2 (A B : List UInt8) : (⟨A.toArray⟩ : ByteArray) ++ ⟨B.toArray⟩ = ⟨(A ++ B).toArray⟩ := ByteArray.ext (by simp)
set_option maxRecDepth 100000 in
theorem vlists_out (A : Option Addr) (n c : Nat) (u : Bool) (at_ : Int) (w : World) (hn : n ≤ maxLen) (h : n = 0 ∨ 40 < n) :
    Calls Tryd.prog 4 #[.slice A n c, .bool u, .int .i64 at_] w fun e w' => e = .returned (.bool true) ∧ Below w.heap.size w w' := by
  unfold maxLen at hn
  rcases h with rfl | h
  · go_enter Tryd.func4, Tryd.ntmps4
    go_wp2
    go_ret
    exact ⟨rfl, Below.refl _ _⟩
  · go_enter Tryd.func4, Tryd.ntmps4
    go_wp2
    go_ret
    exact ⟨rfl, Below.refl _ _⟩
set_option maxHeartbeats 12800000 in
set_option maxRecDepth 100000 in
theorem vlists_some (bk off n c : Nat) (ls : Nat → Int) (u : Bool) (at_ : Int) (w : World) (hA : Ahead w) (hp : Pow w) (hm : MaxL w) (h0 : 0 < n) (h40 : n ≤ 40) (hbk : bk < w.heap.size) (hcell : ∀ j, j < n → w.cell? ⟨bk, off + j, none⟩ = some (.int .i64 (ls j))) :
    Calls Tryd.prog 4 #[.slice (some ⟨bk, off, none⟩) n c, .bool u, .int .i64 at_] w fun e w' => e = .returned (.bool true) ∧ Below w.heap.size w w' := by
  have HA := Lib.hid hA
  have HP := Lib.hid hp
  have HM := Lib.hid hm
  have HC := Lib.hid hcell
  clear hA hp hm hcell
  have u0 : 0 ≤ IntKind.u64.wrap at_ := by rw [IntKind.wrap_u64]; omega
  have r1 : (IntKind.u64.wrap at_).tmod (n : Int) = IntKind.u64.wrap at_ % (n : Int) := Int.tmod_eq_emod_of_nonneg u0
  have x0 := Int.emod_nonneg (IntKind.u64.wrap at_) (show (n : Int) ≠ 0 by omega)
  have x1 := Int.emod_lt_of_pos (IntKind.u64.wrap at_) (show (0 : Int) < (n : Int) by omega)
  obtain ⟨K, hK⟩ : ∃ K : Nat, IntKind.u64.wrap at_ % (n : Int) = (K : Int) := ⟨(IntKind.u64.wrap at_ % (n : Int)).toNat, by omega⟩
  rw [hK] at r1 x0 x1
  have hKn : K < n := by omega
  clear x0 x1
  have hn0 : ((n : Int) == 0) = false := beq_eq_false_iff_ne.2 (by omega)
  go_enter Tryd.func4, Tryd.ntmps4
  go_wp2_with fail
  go_loopw [7, 8, 9, 10] (fun sv mv wv iv wr => ∃ (k : Nat) (S M : List UInt8), k ≤ n ∧ iv = .int .i64 k ∧ sv = .string ⟨S.toArray⟩ ∧ mv = .string ⟨M.toArray⟩ ∧ S.length ≤ 17 * k ∧ M.length ≤ 17 * k ∧ Hid (S = sX ls u k) ∧ Hid (M = sY ls u K k) ∧ RowI w.heap.size wr wv (tmL2 ls k) ∧ Below w.heap.size w wr) (fun _ _ _ iv _ => n - (intOf iv).toNat)
  case atStart => exact ⟨0, [], [], Nat.zero_le _, rfl, rfl, rfl, Nat.le_refl _, Nat.le_refl _, Lib.hid rfl, Lib.hid rfl, RowI.nil _ _, Below.refl _ _⟩
  case round =>
    obtain ⟨k, S, M, hk, rfl, rfl, rfl, hS, hM, hSX, hMY, hI, hb⟩ := hrel
    by_cases hlt : k < n
    · have hc2 := (hb.cell (p := ⟨bk, off + k, none⟩) hbk).trans (HC.out k hlt)
      obtain ⟨T, hT⟩ : ∃ T, vsm (ls k) = T := ⟨_, rfl⟩
      obtain ⟨t0, t1⟩ := vsm_bd (ls k)
      rw [hT] at t0 t1
      obtain ⟨v, hv⟩ : ∃ v, (!u == ((k : Int) == (K : Int))) = v := ⟨_, rfl⟩
      have e0 := (tm_parts t0 t1).1
      have l1 := (pt_back u t0 t1).2
      have l2 := (pt_back v t0 t1).2
      have hll := tl_len ls k
      have hll2 : tmL2 ls (k + 1) = tmL2 ls k ++ [T] := by rw [tl_succ, ← hT]; rfl
      have hsx := sX_succ ls u k
      have hsy := sY_succ ls u K k
      have hym : ymk u K k = v := by rw [← hv, ymk]; cases u <;> cases ((k : Int) == (K : Int)) <;> rfl
      rw [← hSX.out] at hsx
      rw [← hMY.out, hym] at hsy
      have hT' : -62135596800 + IntKind.u64.wrap (ls k) % 315537897600 = T := hT
      rw [hT'] at hsx hsy
      obtain ⟨X, hX⟩ : ∃ X, tmS T u = X := ⟨_, rfl⟩
      obtain ⟨Y, hY⟩ : ∃ Y, tmS T v = Y := ⟨_, rfl⟩
      obtain ⟨ML, hML⟩ : ∃ ML, tmL2 ls k = ML := ⟨_, rfl⟩
      rw [hX] at l1 hsx
      rw [hY] at l2 hsy
      rw [hML] at hll hll2 hI
      have HT := Lib.hid hT
      have TX := Lib.hid (And.intro hX e0)
      have TY := Lib.hid (And.intro hY e0)
      have HSX := Lib.hid hsx
      have HSY := Lib.hid hsy
      have HLL := Lib.hid hll2
      have hsX : (⟨X.toArray⟩ : ByteArray).size = X.length := rfl
      have hsY : (⟨Y.toArray⟩ : ByteArray).size = Y.length := rfl
      have hsS : (⟨S.toArray⟩ : ByteArray).size = S.length := rfl
      have hsM : (⟨M.toArray⟩ : ByteArray).size = M.length := rfl
      clear hT hT' hX hY hML e0 hsx hsy hll2 hym
      go_wp2_with fail
      refine (vsome_to (ls k) T _ HT).mono ?_
      rintro e w1 ⟨rfl, b1⟩
      have B1 := Lib.hid (hb.trans (b1.mono hb.size))
      have I1 := hI.below b1
      clear b1 hb hI hc2
      go_wp2_with fail
      refine (time_to T u X 0 _ (HA.out.stays B1.out) (HP.out.stays B1.out) (by omega) (by omega) TX).mono ?_
      rintro e w2 ⟨rfl, b2⟩
      have B2 := Lib.hid (B1.out.trans (b2.mono B1.out.size))
      have I2 := I1.below b2
      clear b2 I1
      go_wp2_with fail
      refine (time_to T v Y 0 _ (HA.out.stays B2.out) (HP.out.stays B2.out) (by omega) (by omega) TY).mono ?_
      rintro e w3 ⟨rfl, b3⟩
      have B3 := Lib.hid (B2.out.trans (b3.mono B2.out.size))
      have I3 := I2.below b3
      clear b3 I2 hv
      rcases Nat.eq_zero_or_pos k with rfl | hk0
      · have hS0 : S = [] := List.length_eq_zero_iff.1 (by omega)
        have hM0 : M = [] := List.length_eq_zero_iff.1 (by omega)
        subst hS0 hM0
        go_wp2_with (at_builtin; refine appI rfl _ _ rfl w.heap.size _ ML rfl I3 T rfl (by omega) B3.out.size ?_)
        intro w5 gg gcap r5 g5
        have hb5 := g5 _ _ (Nat.le_refl _) B3.out B3.out.size
        clear g5 I3
        try rw [hll] at r5
        try rw [hll]
        go_wp2
        go_roundw
        case rel => exact ⟨1, X, Y, by omega, by go_num, congrArg Value.string (ByteArray.ext (by simp)), congrArg Value.string (ByteArray.ext (by simp)), by omega, by omega, Lib.hid (by rw [HSX.out]; rfl), Lib.hid (by rw [HSY.out]; rfl), by have := HLL.out; rw [this]; exact r5, hb5⟩
        case measure => simp [intOf]; omega
      · have hkp : (0 : Int) < (k : Int) := by omega
        go_wp2_with (at_builtin; refine appI rfl _ _ rfl w.heap.size _ ML rfl I3 T rfl (by omega) B3.out.size ?_)
        intro w5 gg gcap r5 g5
        have hb5 := g5 _ _ (Nat.le_refl _) B3.out B3.out.size
        clear g5 I3
        try rw [hll] at r5
        try rw [hll]
        go_wp2
        go_roundw
        case rel => exact ⟨k + 1, S ++ [44] ++ X, M ++ [44] ++ Y, by omega, by go_num, congrArg Value.string (ByteArray.ext (by simp)), congrArg Value.string (ByteArray.ext (by simp)), by simp only [List.length_append, List.length_cons, List.length_nil]; omega, by simp only [List.length_append, List.length_cons, List.length_nil]; omega, Lib.hid (by rw [HSX.out, if_neg (by omega)]), Lib.hid (by rw [HSY.out, if_neg (by omega)]), by have := HLL.out; rw [this]; exact r5, hb5⟩
        case measure => simp [intOf]; omega
    · obtain rfl : k = n := by omega
      have RX := sX_r ls u k h0
      have RB := sX_bad ls u k h0
      rw [← hSX.out] at RX RB
      have RM : (k = 1 ∧ (timesR M).2.2 = 0) ∨ (k ≠ 1 ∧ timesR M = ([], false, 19)) := by rw [hMY.out]; exact tr_mix ls u K k hKn
      obtain ⟨L2, u2, c2, hM2⟩ : ∃ a b c, timesR M = (a, b, c) := ⟨_, _, _, rfl⟩
      rw [hM2] at RM
      have hcs : (((k : Int) == 1) = true ∧ c2 = 0) ∨ (((k : Int) == 1) = false ∧ c2 = 19) := by
        rcases RM with ⟨e1, e2⟩ | ⟨e1, e2⟩
        · exact Or.inl ⟨beq_iff_eq.2 (by omega), e2⟩
        · refine Or.inr ⟨beq_eq_false_iff_ne.2 (by omega), ?_⟩
          injection e2 with _ e2
          injection e2
      have HX := Lib.hid RX
      have HB := Lib.hid RB
      have HM2 := Lib.hid hM2
      have IW := hI.ints
      have hTL := tl_len ls k
      obtain ⟨TL, hTLe⟩ : ∃ TL, tmL2 ls k = TL := ⟨_, rfl⟩
      rw [hTLe] at HX IW hTL
      have hsS : (⟨S.toArray⟩ : ByteArray).size = S.length := rfl
      have hs44 : (⟨#[44]⟩ : ByteArray).size = 1 := rfl
      have uu : (u == u) = true := beq_self_eq_true u
      clear RX RB RM hM2 hI hTLe r1 hK
      go_wp2_with fail
      refine (times_to _ S TL u 0 _ (HA.out.stays hb) (HM.out.stays hb) (by show S.length ≤ 1000; omega) (Lib.hid rfl) HX).mono ?_
      rintro e w1 ⟨vk, rfl, tk, b1⟩
      have B1 := Lib.hid (hb.trans (b1.mono hb.size))
      have IW1 := IW.below b1
      clear b1 hb IW
      go_wp2_with fail
      refine (times_to _ M L2 u2 c2 _ (HA.out.stays B1.out) (HM.out.stays B1.out) (by show M.length ≤ 1000; omega) (Lib.hid rfl) HM2).mono ?_
      rintro e w2 ⟨vm, rfl, _, b2⟩
      have B2 := Lib.hid (B1.out.trans (b2.mono B1.out.size))
      have IW2 := IW1.below b2
      have tk2 := tk.below b2
      clear b2 IW1 tk
      go_wp2_with fail
      refine (times_to _ (S ++ [44]) [] false 19 _ (HA.out.stays B2.out) (HM.out.stays B2.out) (by simp; omega) (Lib.hid (by simp)) HB).mono ?_
      rintro e w3 ⟨vb, rfl, _, b3⟩
      have B3 := Lib.hid (B2.out.trans (b3.mono B2.out.size))
      have IW3 := IW2.below b3
      have tk3 := tk2.below b3
      clear b3 IW2 tk2
      go_wp2_with fail
      refine (ints_any vk _ TL TL _ tk3 IW3 (by omega) (by omega)).mono ?_
      rintro e w4 ⟨bb, rfl, hbb, q, rfl⟩
      obtain rfl : bb = true := by rw [hbb.out]; exact decide_eq_true rfl
      have B4 := Lib.hid (below_drewN B3.out q)
      clear hbb tk3 IW3
      rcases hcs with ⟨hk1, rfl⟩ | ⟨hk1, rfl⟩
      all_goals
        go_wp2_with fail
        refine (wakes20_any _ (HA.out.stays B4.out) (HP.out.stays B4.out) (HM.out.stays B4.out)).mono ?_
        rintro e w5 ⟨rfl, b5⟩
        go_wp2
        go_ret
        exact ⟨rfl, B4.out.trans (b5.mono B4.out.size)⟩
theorem vlists_any (A : Option Addr) (n c : Nat) (ls : Nat → Int) (u : Bool) (at_ : Int) (w : World) (hA : Ahead w) (hp : Pow w) (hm : MaxL w) (hn : n ≤ maxLen) (hl : Opn.Ints A n ls w) :
    Calls Tryd.prog 4 #[.slice A n c, .bool u, .int .i64 at_] w fun e w' => e = .returned (.bool true) ∧ Below w.heap.size w w' := by
  by_cases h : n = 0 ∨ 40 < n
  · exact vlists_out A n c u at_ w hn h
  · obtain ⟨bk, off, rfl, hbk, _⟩ := hl 0 (by omega)
    refine vlists_some bk off n c ls u at_ w hA hp hm (by omega) (by omega) hbk (fun j hj => ?_)
    obtain ⟨b', o', e, _, h2, _⟩ := hl j hj
    injection e with e
    injection e with e1 e2
    subst e1 e2
    exact h2
end Val
end Go.Proofs.YtnjmpenfhieakaaDoor
