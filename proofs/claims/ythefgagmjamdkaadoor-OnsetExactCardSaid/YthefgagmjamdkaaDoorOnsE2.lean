/-
  The reference's sorted of onsets. (Written by gen/gen_onse.py.)
-/
import Derived.Test.YthefgagmjamdkaaDoorOnsE1
import Derived.Test.YthefgagmjamdkaaDoorOnsW
namespace Go.Proofs.YthefgagmjamdkaaDoor
open Go.RowKit
namespace Ons
open Rul Rs Cel
open Ap (Grew)
theorem sortO_short {L : List OV} (h : L.length < 2) : sortO L = L := by
  refine pair_perm_eq _ _ (sortO_perm L) (sortO_pair L) ?_
  match L, h with
  | [], _ => exact List.Pairwise.nil
  | [a], _ => exact List.pairwise_singleton _ _
set_option maxHeartbeats 3200000 in
set_option maxRecDepth 100000 in
theorem rso_short (a : Option Addr) (n c : Nat) (w : World) (h : n < 2) :
    Calls Tryd.prog 25 #[.slice a n c] w fun x w' => x = .returned (.slice a n c) ∧ Below w.heap.size w w' := by
  go_enter Tryd.func25, Tryd.ntmps25
  go_wp2
  go_ret
  exact ⟨rfl, Below.refl _ _⟩
structure SoS (w : World) (x : World) : Prop where
  g : Below w.heap.size w x
/-- What the reference's sorted says of a row of N onsets. -/
def SoC (N : Nat) : Prop := ∀ (b off c : Nat) (L : List OV) (w : World), L.length = N → N ≤ c → c ≤ maxLen → b < w.heap.size → (∀ (j : Nat) (hj : j < L.length), w.rangeAt b (off + j * 3) (ovC L[j])) → L.Pairwise cLt →
  Calls Tryd.prog 25 #[.slice (some ⟨b, off, none⟩) N c] w fun x w' => ∃ lv, x = .returned lv ∧ RowV ovC 3 w' lv (sortO L) ∧ Below w.heap.size w w'

set_option maxHeartbeats 25600000 in
set_option maxRecDepth 100000 in
theorem rso_step (N : Nat) (h2 : 2 ≤ N) (hN : N ≤ 3000000) (ih : ∀ M, M < N → SoC M) : SoC N := by
  intro b off c L w hL hNc hcm hb hrow hp
  unfold maxLen at hcm
  obtain ⟨h, hh⟩ : ∃ h, N / 2 = h := ⟨_, rfl⟩
  have hh1 : 1 ≤ h ∧ h < N := by omega
  have hTD : L.take h ++ L.drop h = L := List.take_append_drop h L
  have HPW : Hid ((L.take h ++ L.drop h).Pairwise cLt) := Lib.hid (by rw [hTD]; exact hp)
  have HMS : Hid (mrg (sortO (L.take h)) (sortO (L.drop h)) = sortO L) := Lib.hid (by rw [mrg_sort HPW.out, hTD])
  have hpT := (List.pairwise_append.1 HPW.out).1
  have hpD := (List.pairwise_append.1 HPW.out).2.1
  have lT : (L.take h).length = h := by rw [List.length_take]; omega
  have lD : (L.drop h).length = N - h := by rw [List.length_drop]; omega
  have CA : Hid (∀ (W : World), Below w.heap.size w W → Calls Tryd.prog 25 #[.slice (some ⟨b, off, none⟩) h c] W fun x w' => ∃ lv, x = .returned lv ∧ RowV ovC 3 w' lv (sortO (L.take h)) ∧ Below W.heap.size W w') := Lib.hid (fun W hW => ih h hh1.2 b off c (L.take h) W lT (by omega) (by unfold maxLen; omega) (Nat.lt_of_lt_of_le hb hW.size) (fun j hj => by
    have := range_below hb (hrow j (by rw [lT] at hj; omega)) hW
    rwa [List.getElem_take]) hpT)
  have CB : Hid (∀ (W : World), Below w.heap.size w W → Calls Tryd.prog 25 #[.slice (some ⟨b, off + h * 3, none⟩) (N - h) (c - h)] W fun x w' => ∃ lv, x = .returned lv ∧ RowV ovC 3 w' lv (sortO (L.drop h)) ∧ Below W.heap.size W w') := Lib.hid (fun W hW => ih (N - h) (by omega) b (off + h * 3) (c - h) (L.drop h) W lD (by omega) (by unfold maxLen; omega) (Nat.lt_of_lt_of_le hb hW.size) (fun j hj => by
    have := range_below hb (hrow (h + j) (by rw [lD] at hj; omega)) hW
    rw [List.getElem_drop]
    rw [show off + h * 3 + j * 3 = off + (h + j) * 3 by omega]
    exact this) hpD)
  have LA : Hid ((sortO (L.take h)).length = h) := Lib.hid (by rw [sortO_len, lT])
  have LBB : Hid ((sortO (L.drop h)).length = N - h) := Lib.hid (by rw [sortO_len, lD])
  have HL := Lib.hid hL
  clear hrow hp hTD hpT hpD lT lD ih hb hL
  obtain ⟨X, hX⟩ : ∃ X, sortO (L.take h) = X := ⟨_, rfl⟩
  obtain ⟨Y, hY⟩ : ∃ Y, sortO (L.drop h) = Y := ⟨_, rfl⟩
  rw [hX] at HMS CA LA
  rw [hY] at HMS CB LBB
  clear hX hY HPW
  have hq : (N : Int).tdiv 2 = (h : Int) := by rw [Int.tdiv_eq_ediv_of_nonneg (by omega)]; omega
  have hq2 : (N : Int) / 2 = (h : Int) := by omega
  have wh : IntKind.i64.wrap (h : Int) = (h : Int) := by rw [IntKind.wrap_i64]; omega
  have hhc : h ≤ c := by omega
  have hch : ¬ c = h := by omega
  have hhN : h ≤ N := by omega
  go_enter Tryd.func25, Tryd.ntmps25
  go_upto_region 3 with fail
  go_cut [3, 4] (fun p q wz => ∃ la lb, la = p ∧ lb = q ∧ Hid (RowV ovC 3 wz la X) ∧ Hid (RowV ovC 3 wz lb Y) ∧ Hid (Below w.heap.size w wz))
  case first =>
    refine Hr.Walk.region (R := fun _ x => SoS w x) (by kernel_rfl) ?_
    obtain ⟨w1, hw1⟩ : ∃ z, w.drew = z := ⟨_, rfl⟩
    have K1 : Hid (Below w.heap.size w w1) := Lib.hid (by rw [← hw1]; exact below_drewN (Below.refl _ _) 1)
    have S1 : Hid (SoS w w1) := Lib.hid ⟨K1.out⟩
    rw [hw1]
    clear hw1
    refine Hr.Walk.take (i := 0) (v := ?vs0) (fun x => SoS w x) (fun _ => True) rfl (by kernel_rfl) (by kernel_rfl) (by kernel_rfl) (fun _ _ _ h => h) (fun _ _ _ _ _ _ => trivial) (fun _ _ _ h => h) (fun _ _ h => h) trivial (Or.inl ⟨by rfl, ?hys0⟩) S1.out S1.out ?rests0
    case hys0 => intro x hx; skip; clear hx; go_simp; try with_reducible rfl
    (try go_simp)
    refine Hr.Walk.take (i := 1) (v := ?vs1) (fun x => SoS w x) (fun _ => True) rfl (by kernel_rfl) (by kernel_rfl) (by kernel_rfl) (fun _ _ _ h => h) (fun _ _ _ _ _ _ => trivial) (fun _ _ _ h => h) (fun _ _ h => h) trivial (Or.inl ⟨by rfl, ?hys1⟩) S1.out S1.out ?rests1
    case hys1 => intro x hx; skip; clear hx; go_simp; try with_reducible rfl
    (try go_simp)
    refine Hr.Walk.take (i := 2) (v := ?vs2) (fun x => SoS w x) (fun _ => True) rfl (by kernel_rfl) (by kernel_rfl) (by kernel_rfl) (fun _ _ _ h => h) (fun _ _ _ _ _ _ => trivial) (fun _ _ _ h => h) (fun _ _ h => h) trivial (Or.inl ⟨by rfl, ?hys2⟩) S1.out S1.out ?rests2
    case hys2 => intro x hx; skip; clear hx; go_simp; try with_reducible rfl
    (try go_simp)
    refine Hr.Walk.take (i := 3) (v := ?vs3) (fun x => SoS w x) (fun _ => True) rfl (by kernel_rfl) (by kernel_rfl) (by kernel_rfl) (fun _ _ _ h => h) (fun _ _ _ _ _ _ => trivial) (fun _ _ _ h => h) (fun _ _ h => h) trivial (Or.inl ⟨by rfl, ?hys3⟩) S1.out S1.out ?rests3
    case hys3 => intro x hx; skip; clear hx; go_simp; try with_reducible rfl
    (try go_simp)
    refine Hr.Walk.take (i := 4) (v := ?vs4) (fun x => SoS w x) (fun _ => True) rfl (by kernel_rfl) (by kernel_rfl) (by kernel_rfl) (fun _ _ _ h => h) (fun _ _ _ _ _ _ => trivial) (fun _ _ _ h => h) (fun _ _ h => h) trivial (Or.inl ⟨by rfl, ?hys4⟩) S1.out S1.out ?rests4
    case hys4 => intro x hx; skip; clear hx; go_simp; try with_reducible rfl
    (try go_simp)
    refine Hr.Walk.take (i := 6) (v := ?vs6) (fun x => SoS w x) (fun _ => True) rfl (by kernel_rfl) (by kernel_rfl) (by kernel_rfl) (fun _ _ _ h => h) (fun _ _ _ _ _ _ => trivial) (fun _ _ _ h => h) (fun _ _ h => h) trivial (Or.inl ⟨by rfl, ?hys6⟩) S1.out S1.out ?rests6
    case hys6 => intro x hx; skip; clear hx; go_simp; try with_reducible rfl
    (try go_simp)
    refine Hr.Walk.take (i := 7) (v := ?vs7) (fun x => SoS w x) (fun _ => True) rfl (by kernel_rfl) (by kernel_rfl) (by kernel_rfl) (fun _ _ _ h => h) (fun _ _ _ _ _ _ => trivial) (fun _ _ _ h => h) (fun _ _ h => h) trivial (Or.inl ⟨by rfl, ?hys7⟩) S1.out S1.out ?rests7
    case hys7 => intro x hx; skip; clear hx; go_simp; try with_reducible rfl
    (try go_simp)
    refine Hr.Walk.take (i := 8) (v := ?vs8) (fun x => SoS w x) (fun _ => True) rfl (by kernel_rfl) (by kernel_rfl) (by kernel_rfl) (fun _ _ _ h => h) (fun _ _ _ _ _ _ => trivial) (fun _ _ _ h => h) (fun _ _ h => h) trivial (Or.inl ⟨by rfl, ?hys8⟩) S1.out S1.out ?rests8
    case hys8 => intro x hx; skip; clear hx; go_simp; try with_reducible rfl
    (try go_simp)
    refine Hr.Walk.take (i := 9) (v := ?vs9) (fun x => SoS w x) (fun _ => True) rfl (by kernel_rfl) (by kernel_rfl) (by kernel_rfl) (fun _ _ _ h => h) (fun _ _ _ _ _ _ => trivial) (fun _ _ _ h => h) (fun _ _ h => h) trivial (Or.inl ⟨by rfl, ?hys9⟩) S1.out S1.out ?rests9
    case hys9 => intro x hx; skip; clear hx; go_simp; try with_reducible rfl
    (try go_simp)
    refine Hr.Walk.take (i := 10) (v := ?vs10) (fun x => SoS w x) (fun _ => True) rfl (by kernel_rfl) (by kernel_rfl) (by kernel_rfl) (fun _ _ _ h => h) (fun _ _ _ _ _ _ => trivial) (fun _ _ _ h => h) (fun _ _ h => h) trivial (Or.inl ⟨by rfl, ?hys10⟩) S1.out S1.out ?rests10
    case hys10 => intro x hx; skip; clear hx; go_simp; try with_reducible rfl
    (try go_simp)
    refine Hr.Walk.one (i := 5) (by kernel_rfl) rfl (fun K hK => ?_)
    go_simp
    refine (CA.out w1 K1.out).mono ?_
    rintro e w5 ⟨la, rfl, ra, k5⟩
    have K2 := Lib.hid (bstep K1.out k5)
    have RA := Lib.hid ra
    clear ra k5
    have S2 : Hid (SoS w w5) := Lib.hid ⟨K2.out⟩
    go_simp
    refine hK.out _ _ S2.out ?_
    clear hK K
    refine Hr.Walk.one (i := 11) (by kernel_rfl) rfl (fun K hK => ?_)
    go_simp
    refine (CB.out w5 K2.out).mono ?_
    rintro e w6 ⟨lb, rfl, rb, k6⟩
    have K3 := Lib.hid (bstep K2.out k6)
    have RB := Lib.hid rb
    have RA := Lib.hid (RA.out.below k6)
    clear rb k6
    have S3 : Hid (SoS w w6) := Lib.hid ⟨K3.out⟩
    go_simp
    refine hK.out _ _ S3.out ?_
    clear hK K
    refine Hr.Walk.one (i := 12) (by kernel_rfl) rfl (fun K hK => ?_)
    go_simp
    refine hK.out _ _ S3.out ?_
    clear hK K
    refine Hr.Walk.one (i := 13) (by kernel_rfl) rfl (fun K hK => ?_)
    go_simp
    refine hK.out _ _ S3.out ?_
    clear hK K
    refine Hr.Walk.done (by kernel_rfl) ?_ _
    go_wp2
    go_meet
    exact ⟨la, lb, rfl, rfl, RA, RB, K3⟩
  case rest =>
  obtain ⟨w4, rfl⟩ : ∃ x : World, x = wc := ⟨_, rfl⟩
  obtain ⟨la, lb, rfl, rfl, RA, RB, B⟩ := hcut
  clear CA CB hq hq2 wh hhc hch
  obtain ⟨ba, oa, ca, hfa, hba, hra⟩ := RowV.form RA.out (by rw [LA.out]; omega)
  obtain ⟨bb, ob, cb, hfb, hbb, hrb⟩ := RowV.form RB.out (by rw [LBB.out]; omega)
  rw [LA.out] at hfa
  obtain ⟨g, hg⟩ : ∃ g, N - h = g := ⟨_, rfl⟩
  rw [hg] at LBB
  rw [LBB.out] at hfb
  subst hfa hfb
  have HRA := Lib.hid hra
  have HRB := Lib.hid hrb
  have hgN : h + g = N := by omega
  clear hra hrb RA RB hg h2 hhN hh
  go_upto_region 6 with fail
  go_loopw [5, 6, 7] (fun ov iv kv wr => ∃ (i k : Nat) (O : List OV) (sv : Value), i ≤ h ∧ k ≤ g ∧ sv = ov ∧ iv = .int .i64 i ∧ kv = .int .i64 k ∧ Hid (O.length = i + k) ∧ Hid (O ++ mrg (X.drop i) (Y.drop k) = sortO L) ∧ Hid (RowO w4.heap.size wr sv O) ∧ Hid (Below w4.heap.size w4 wr)) (fun _ i k _ => (h + g) - ((intOf i).toNat + (intOf k).toNat))
  case atStart => exact ⟨0, 0, [], _, Nat.zero_le _, Nat.zero_le _, rfl, rfl, rfl, Lib.hid rfl, Lib.hid (by rw [List.drop_zero, List.drop_zero, List.nil_append]; exact HMS.out), Lib.hid (RowO.nil _ _), Lib.hid (Below.refl _ _)⟩
  case round =>
    obtain ⟨i, k, O, sv, hi, hk, rfl, rfl, rfl, HO, HM, HR, HB⟩ := hrel
    obtain ⟨wo, rfl⟩ : ∃ wo : World, wo = wr := ⟨_, rfl⟩
    obtain ⟨A9, c9, hf9⟩ := RowT.forms HR.out
    rw [HO.out] at hf9
    subst hf9
    have hik : i + k ≤ 100000000 := by omega
    have TAKEA : ∀ (hiX : i < X.length), Hid ((k = Y.length ∨ ∃ hk : k < Y.length, X[i].2.2 ≤ Y[k].2.2) → (O ++ [X[i]]) ++ mrg (X.drop (i + 1)) (Y.drop k) = sortO L) := fun hiX => Lib.hid (fun q => by rw [← HM.out, mrg_a hiX q]; simp)
    have TAKEB : ∀ (hkY : k < Y.length), Hid ((X.length ≤ i ∨ ∃ hi : i < X.length, ¬ X[i].2.2 ≤ Y[k].2.2) → (O ++ [Y[k]]) ++ mrg (X.drop i) (Y.drop (k + 1)) = sortO L) := fun hkY => Lib.hid (fun q => by rw [← HM.out, mrg_b hkY q]; simp)
    by_cases ha : i < h
    · have hiX : i < X.length := by rw [LA.out]; exact ha
      have r0 := range_below hba (HRA.out i hiX) HB.out
      by_cases hb : k < g
      · have hkY : k < Y.length := by rw [LBB.out]; exact hb
        have r1 := range_below hbb (HRB.out k hkY) HB.out
        have TA := TAKEA hiX
        have TB := TAKEB hkY
        obtain ⟨x, hx⟩ : ∃ x, X[i]'hiX = x := ⟨_, rfl⟩
        obtain ⟨y, hy⟩ : ∃ y, Y[k]'hkY = y := ⟨_, rfl⟩
        have TA2 : Hid (x.2.2 ≤ y.2.2 → (O ++ [x]) ++ mrg (X.drop (i + 1)) (Y.drop k) = sortO L) := Lib.hid (fun q => by rw [← hx]; exact TA.out (Or.inr ⟨hkY, by rw [hx, hy]; exact q⟩))
        have TB2 : Hid (¬ x.2.2 ≤ y.2.2 → (O ++ [y]) ++ mrg (X.drop i) (Y.drop (k + 1)) = sortO L) := Lib.hid (fun q => by rw [← hy]; exact TB.out (Or.inr ⟨hiX, by rw [hx, hy]; exact q⟩))
        rw [hx] at r0
        rw [hy] at r1
        clear hx hy TA TB TAKEA TAKEB HM
        obtain ⟨x1, x2, x3⟩ := x
        obtain ⟨y1, y2, y3⟩ := y
        have a0 : wo.cell? ⟨ba, oa + i * 3, none⟩ = some (.int .i64 x1) := r0 0 _ rfl
        have a1 := r0 1 _ rfl
        have a2 := r0 2 _ rfl
        have d0 : wo.cell? ⟨bb, ob + k * 3, none⟩ = some (.int .i64 y1) := r1 0 _ rfl
        have d1 := r1 1 _ rfl
        have d2 := r1 2 _ rfl
        have n1 : ((k : Int) == (g : Int)) = false := beq_eq_false_iff_ne.2 (by omega)
        clear r0 r1
        by_cases hl : x3 ≤ y3
        · have HMN := Lib.hid (TA2.out hl)
          clear TA2 TB2
          go_upto_region 7 with fail
          go_region
          have HRn := Lib.hid (HR.out.below (below_drewN (Below.refl _ _) 1))
          have HBn := Lib.hid (below_drewN HB.out 1)
          change Hid (RowO _ wo.drew _ _) at HRn
          change Hid (Below _ _ wo.drew) at HBn
          have b0 : wo.drew.cell? ⟨ba, oa + i * 3, none⟩ = _ := a0
          have b1 : wo.drew.cell? ⟨ba, oa + i * 3 + 1, none⟩ = _ := a1
          have b2 : wo.drew.cell? ⟨ba, oa + i * 3 + 2, none⟩ = _ := a2
          generalize wo.drew = w8 at HRn HBn b0 b1 b2 ⊢
          clear HR HB a0 a1 a2
          have hsz := HBn.out.size
          have HOO := HO.out
          go_wp2_with (at_builtin; refine appO rfl _ _ rfl w4.heap.size _ O (i + k) HOO rfl HRn.out x1 x2 x3 rfl hik hsz ?_)
          intro wn gg gcap r5 g5 k5
          have B5 := Lib.hid (g5.below w4.heap.size w4 (Nat.le_refl _) HBn.out hsz)
          have R5 := Lib.hid r5
          have HO5 : Hid ((O ++ [((x1, x2, x3) : OV)]).length = (i + 1) + k) := Lib.hid (by rw [List.length_append, HO.out]; simp only [List.length_cons, List.length_nil]; omega)
          clear r5 g5 k5 hsz
          go_wp2
          go_roundw
          case rel => exact ⟨(i + 1), k, O ++ [(x1, x2, x3)], _, by omega, by omega, rfl, by go_num, by go_num, HO5, HMN, R5, B5⟩
          case measure => simp [intOf]; omega
        · have HMN := Lib.hid (TB2.out hl)
          clear TA2 TB2
          go_upto_region 7 with fail
          go_region
          have HRn := Lib.hid (HR.out.below (below_drewN (Below.refl _ _) 1))
          have HBn := Lib.hid (below_drewN HB.out 1)
          change Hid (RowO _ wo.drew _ _) at HRn
          change Hid (Below _ _ wo.drew) at HBn
          have b0 : wo.drew.cell? ⟨bb, ob + k * 3, none⟩ = _ := d0
          have b1 : wo.drew.cell? ⟨bb, ob + k * 3 + 1, none⟩ = _ := d1
          have b2 : wo.drew.cell? ⟨bb, ob + k * 3 + 2, none⟩ = _ := d2
          generalize wo.drew = w8 at HRn HBn b0 b1 b2 ⊢
          clear HR HB d0 d1 d2
          have hsz := HBn.out.size
          have HOO := HO.out
          go_wp2_with (at_builtin; refine appO rfl _ _ rfl w4.heap.size _ O (i + k) HOO rfl HRn.out y1 y2 y3 rfl hik hsz ?_)
          intro wn gg gcap r5 g5 k5
          have B5 := Lib.hid (g5.below w4.heap.size w4 (Nat.le_refl _) HBn.out hsz)
          have R5 := Lib.hid r5
          have HO5 : Hid ((O ++ [((y1, y2, y3) : OV)]).length = i + (k + 1)) := Lib.hid (by rw [List.length_append, HO.out]; simp only [List.length_cons, List.length_nil]; omega)
          clear r5 g5 k5 hsz
          go_wp2
          go_roundw
          case rel => exact ⟨i, (k + 1), O ++ [(y1, y2, y3)], _, by omega, by omega, rfl, by go_num, by go_num, HO5, HMN, R5, B5⟩
          case measure => simp [intOf]; omega
      · have hke : k = g := by omega
        have TA := TAKEA hiX
        obtain ⟨x, hx⟩ : ∃ x, X[i]'hiX = x := ⟨_, rfl⟩
        have HMN0 : Hid ((O ++ [x]) ++ mrg (X.drop (i + 1)) (Y.drop k) = sortO L) := Lib.hid (by rw [← hx]; exact TA.out (Or.inl (by rw [LBB.out]; exact hke)))
        rw [hx] at r0
        clear hx TA TAKEA TAKEB HM
        obtain ⟨x1, x2, x3⟩ := x
        have HMN := HMN0
        have a0 : wo.cell? ⟨ba, oa + i * 3, none⟩ = some (.int .i64 x1) := r0 0 _ rfl
        have a1 := r0 1 _ rfl
        have a2 := r0 2 _ rfl
        have n1 : ((k : Int) == (g : Int)) = true := beq_iff_eq.2 (by omega)
        clear r0 HMN0
        subst hke
        go_upto_region 7 with fail
        go_region
        have HRn := Lib.hid (HR.out.below (below_drewN (Below.refl _ _) 1))
        have HBn := Lib.hid (below_drewN HB.out 1)
        change Hid (RowO _ wo.drew _ _) at HRn
        change Hid (Below _ _ wo.drew) at HBn
        have b0 : wo.drew.cell? ⟨ba, oa + i * 3, none⟩ = _ := a0
        have b1 : wo.drew.cell? ⟨ba, oa + i * 3 + 1, none⟩ = _ := a1
        have b2 : wo.drew.cell? ⟨ba, oa + i * 3 + 2, none⟩ = _ := a2
        generalize wo.drew = w8 at HRn HBn b0 b1 b2 ⊢
        clear HR HB a0 a1 a2
        have hsz := HBn.out.size
        have HOO := HO.out
        go_wp2_with (at_builtin; refine appO rfl _ _ rfl w4.heap.size _ O (i + k) HOO rfl HRn.out x1 x2 x3 rfl hik hsz ?_)
        intro wn gg gcap r5 g5 k5
        have B5 := Lib.hid (g5.below w4.heap.size w4 (Nat.le_refl _) HBn.out hsz)
        have R5 := Lib.hid r5
        have HO5 : Hid ((O ++ [((x1, x2, x3) : OV)]).length = (i + 1) + k) := Lib.hid (by rw [List.length_append, HO.out]; simp only [List.length_cons, List.length_nil]; omega)
        clear r5 g5 k5 hsz
        go_wp2
        go_roundw
        case rel => exact ⟨(i + 1), k, O ++ [(x1, x2, x3)], _, by omega, by omega, rfl, by go_num, by go_num, HO5, HMN, R5, B5⟩
        case measure => simp [intOf]; omega
    · by_cases hb : k < g
      · have hkY : k < Y.length := by rw [LBB.out]; exact hb
        have r1 := range_below hbb (HRB.out k hkY) HB.out
        have TB := TAKEB hkY
        obtain ⟨y, hy⟩ : ∃ y, Y[k]'hkY = y := ⟨_, rfl⟩
        have HMN : Hid ((O ++ [y]) ++ mrg (X.drop i) (Y.drop (k + 1)) = sortO L) := Lib.hid (by rw [← hy]; exact TB.out (Or.inl (by rw [LA.out]; omega)))
        rw [hy] at r1
        clear hy TB TAKEA TAKEB HM
        obtain ⟨y1, y2, y3⟩ := y
        have d0 : wo.cell? ⟨bb, ob + k * 3, none⟩ = some (.int .i64 y1) := r1 0 _ rfl
        have d1 := r1 1 _ rfl
        have d2 := r1 2 _ rfl
        have n1 : ((k : Int) == (g : Int)) = false := beq_eq_false_iff_ne.2 (by omega)
        clear r1
        go_upto_region 7 with fail
        go_region
        have HRn := Lib.hid (HR.out.below (below_drewN (Below.refl _ _) 1))
        have HBn := Lib.hid (below_drewN HB.out 1)
        change Hid (RowO _ wo.drew _ _) at HRn
        change Hid (Below _ _ wo.drew) at HBn
        have b0 : wo.drew.cell? ⟨bb, ob + k * 3, none⟩ = _ := d0
        have b1 : wo.drew.cell? ⟨bb, ob + k * 3 + 1, none⟩ = _ := d1
        have b2 : wo.drew.cell? ⟨bb, ob + k * 3 + 2, none⟩ = _ := d2
        generalize wo.drew = w8 at HRn HBn b0 b1 b2 ⊢
        clear HR HB d0 d1 d2
        have hsz := HBn.out.size
        have HOO := HO.out
        go_wp2_with (at_builtin; refine appO rfl _ _ rfl w4.heap.size _ O (i + k) HOO rfl HRn.out y1 y2 y3 rfl hik hsz ?_)
        intro wn gg gcap r5 g5 k5
        have B5 := Lib.hid (g5.below w4.heap.size w4 (Nat.le_refl _) HBn.out hsz)
        have R5 := Lib.hid r5
        have HO5 : Hid ((O ++ [((y1, y2, y3) : OV)]).length = i + (k + 1)) := Lib.hid (by rw [List.length_append, HO.out]; simp only [List.length_cons, List.length_nil]; omega)
        clear r5 g5 k5 hsz
        go_wp2
        go_roundw
        case rel => exact ⟨i, (k + 1), O ++ [(y1, y2, y3)], _, by omega, by omega, rfl, by go_num, by go_num, HO5, HMN, R5, B5⟩
        case measure => simp [intOf]; omega
      · have HF : Hid (O = sortO L) := Lib.hid (by
          have q := HM.out
          rw [List.drop_of_length_le (by rw [LA.out]; omega), List.drop_of_length_le (by rw [LBB.out]; omega), mrg_l, List.append_nil] at q
          exact q)
        have RF : Hid (RowV ovC 3 wo (.slice A9 (i + k) c9) (sortO L)) := Lib.hid (by rw [← HF.out]; exact RowT.val ovC_len HR.out)
        have B9 := Lib.hid (bstep B.out HB.out)
        clear TAKEA TAKEB HM HR HB HF
        go_wp2
        go_ret
        exact ⟨_, rfl, RF.out, B9.out⟩
theorem rso_to : ∀ (n N : Nat), N ≤ n → N ≤ 3000000 → SoC N
  | 0, N, h, _ => fun b off c L w hL hc hcm hb hrow hp => by
    refine (rso_short _ N c w (by omega)).mono ?_
    rintro e w' ⟨rfl, k⟩
    refine ⟨_, rfl, ?_, k⟩
    rw [sortO_short (by omega)]
    exact RowV.below ⟨_, _, _, rfl, hL.symm, fun j hj => ⟨b, off, rfl, hb, hrow j hj⟩⟩ k
  | n + 1, N, h, h3 => fun b off c L w hL hc hcm hb hrow hp => by
    by_cases h2 : N < 2
    · refine (rso_short _ N c w h2).mono ?_
      rintro e w' ⟨rfl, k⟩
      refine ⟨_, rfl, ?_, k⟩
      rw [sortO_short (by omega)]
      exact RowV.below ⟨_, _, _, rfl, hL.symm, fun j hj => ⟨b, off, rfl, hb, hrow j hj⟩⟩ k
    · exact rso_step N (by omega) h3 (fun M hM => rso_to n M (by omega) (by omega)) b off c L w hL hc hcm hb hrow hp
theorem rsorted_to (B : Nat) (v : Value) (L : List OV) (w : World) (h : RowO B w v L) (h3 : L.length ≤ 3000000) (hp : L.Pairwise cLt) :
    Calls Tryd.prog 25 #[v] w fun x w' => ∃ lv, x = .returned lv ∧ RowV ovC 3 w' lv (sortO L) ∧ Below w.heap.size w w' := by
  by_cases h0 : L.length = 0
  · obtain ⟨A, c, rfl⟩ := RowT.forms h
    refine (rso_short A _ c w (by omega)).mono ?_
    rintro e w' ⟨rfl, k⟩
    refine ⟨_, rfl, ?_, k⟩
    rw [sortO_short (by omega)]
    exact (RowT.val ovC_len h).below k
  · obtain ⟨g, c, rfl, _, hg, hr, _⟩ := RowT.form ovC_len h (by omega)
    have hcap := Ap.own_cap h
    exact rso_to L.length L.length (Nat.le_refl _) h3 g 0 c L w rfl hcap.2.1 hcap.2.2 hg (fun j hj => by rw [Nat.zero_add]; exact hr j hj) hp
end Ons
end Go.Proofs.YthefgagmjamdkaaDoor
