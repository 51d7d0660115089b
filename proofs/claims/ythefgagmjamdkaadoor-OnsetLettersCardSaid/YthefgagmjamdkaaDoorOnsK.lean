/-
  OnsetLetters: the law. (Written by gen/gen_onsk.py.)
-/
import Derived.Test.YthefgagmjamdkaaDoorOnsK1
namespace Go.Proofs.YthefgagmjamdkaaDoor
open Go.RowKit
namespace Ons
open Rul Rs Cel
open Rcv (IntV)
open Ap (Grew)
theorem let_sl : ∀ k : Nat, k < 26 → ((⟨#[65, 66, 67, 68, 69, 70, 71, 72, 73, 74, 75, 76, 77, 78, 79, 80, 81, 82, 83, 84, 85, 86, 87, 88, 89, 90]⟩ : ByteArray).extract k (k + 1)).data.toList = [65 + UInt8.ofNat k] := by decide +kernel
set_option maxHeartbeats 25600000 in
set_option maxRecDepth 100000 in
theorem letters_any (v0 v1 : Value) (Y : List Int) (S : List Bool) (w : World) (hA : Civ.Ahead w) (hy : IntV w v0 Y) (hs : BoolV w v1 S) (ly : Y.length ≤ maxLen) (ls : S.length ≤ maxLen) :
    Calls Tryd.prog 6 #[v0, v1] w fun e w' => e = .returned (.bool true) ∧ Below w.heap.size w w' := by
  unfold maxLen at ly ls
  obtain ⟨A0, n0, c0, rfl, hn0, hy⟩ := hy
  obtain ⟨A1, n1, c1, rfl, hn1, hs⟩ := hs
  rw [← hn0] at ly
  rw [← hn1] at ls
  have HY := Lib.hid hy
  have HS := Lib.hid hs
  have HA := Lib.hid hA
  have HN0 := Lib.hid hn0
  have HN1 := Lib.hid hn1
  clear hy hs hA hn0 hn1
  go_enter Tryd.func6, Tryd.ntmps6
  by_cases h20 : 20 < n0
  · go_wp2
    go_ret
    exact ⟨rfl, Below.refl _ _⟩
  by_cases hsn : n1 < n0
  · go_wp2
    go_ret
    exact ⟨rfl, Below.refl _ _⟩
  go_wp2_with fail
  go_loopw [6, 7, 8, 9] (fun lv bv tv iv wr => ∃ (i : Nat) (L : List RV) (best : Int) (T : List UInt8) (sv6 : Value), i ≤ n0 ∧ sv6 = lv ∧ bv = .int .i64 best ∧ tv = .string ⟨T.toArray⟩ ∧ iv = .int .i64 i ∧ Hid (L.length = i) ∧ Hid (RowR w.heap.size wr sv6 L) ∧ Hid (LeI L best T) ∧ Hid (LeR L) ∧ Hid (-10000000 ≤ best ∧ best ≤ 10000000) ∧ Hid (T.length ≤ 1) ∧ Hid (Below w.heap.size w wr)) (fun _ _ _ i _ => n0 - (intOf i).toNat)
  case atStart => exact ⟨0, [], 0, [], _, Nat.zero_le _, rfl, rfl, rfl, rfl, Lib.hid rfl, Lib.hid (RowR.nil _ _), Lib.hid (Or.inl ⟨rfl, rfl⟩), Lib.hid ⟨rfl, fun r hr => by cases hr⟩, Lib.hid (by decide), Lib.hid (by decide), Lib.hid (Below.refl _ _)⟩
  case round =>
    obtain ⟨i, L, best, T, sv6, hi, rfl, rfl, rfl, rfl, HLN, HR, HI, HLR, HBB, HTL, HB⟩ := hrel
    obtain ⟨wo, rfl⟩ : ∃ wo : World, wo = wr := ⟨_, rfl⟩
    obtain ⟨A9, c9, hf9⟩ := RowT.forms HR.out
    rw [HLN.out] at hf9
    subst hf9
    by_cases hlt : i < n0
    · obtain ⟨b, off, rfl, hb, cy⟩ := HY.out i (by rw [← HN0.out]; exact hlt)
      have cy := (HB.out.cell (p := ⟨b, off + i, none⟩) hb).trans cy
      obtain ⟨b1, off1, rfl, hb1, cs⟩ := HS.out i (by rw [← HN1.out]; omega)
      obtain ⟨y0, hy0⟩ : ∃ y0, Y[i]'(by rw [← HN0.out]; exact hlt) = y0 := ⟨_, rfl⟩
      obtain ⟨sv, hsv⟩ : ∃ sv, S[i]'(by rw [← HN1.out]; omega) = sv := ⟨_, rfl⟩
      rw [hy0] at cy
      rw [hsv] at cs
      have CSV := Lib.hid cs
      have HB1 := Lib.hid hb1
      clear hy0 hsv cs hb1 hb
      obtain ⟨m1, b1x, R1⟩ := uu_mod y0 (k := 3000) (by decide)
      obtain ⟨y, hyy⟩ : ∃ z, 1 + m1 = z := ⟨_, rfl⟩
      have YB : Hid (1 ≤ y ∧ y ≤ 9999) := Lib.hid (by omega)
      have x1 : IntKind.i64.wrap (1 + m1) = y := by rw [hyy]; exact wrap_t (by omega)
      have wv1 : wrap64 y = y := IntWalk.wrap64_in _ (by omega)
      have X9 := Lib.hid (And.intro x1 (And.intro wv1 hyy))
      clear b1x x1 wv1 hyy
      go_upto_region 9 with fail
      go_cut [10] (fun p wz => p = .int .i64 y ∧ wo = wz)
      case first =>
        obtain ⟨x1, wv1, hyy⟩ := X9.out
        have r1 := R1.out.1
        have z1 := R1.out.2
        go_wp2
        go_meet
        refine ⟨?_, rfl⟩
        first | rfl | (rw [wv1]; done) | (simp [r1, z1, x1, hyy, wv1]; done) | trace_state
      case rest =>
      obtain ⟨rfl, rfl⟩ := hcut
      clear X9 R1 cy
      obtain ⟨m, hm⟩ : ∃ m, 1 + (i : Int) % 12 = m := ⟨_, rfl⟩
      have MB : Hid (1 ≤ m ∧ m ≤ 12) := Lib.hid (by omega)
      have t1 : (i : Int).tmod 12 = (i : Int) % 12 := Int.tmod_eq_emod_of_nonneg (by omega)
      obtain ⟨c, hc⟩ : ∃ c, 65 + UInt8.ofNat i = c := ⟨_, rfl⟩
      have XS := let_sl i (by omega)
      rw [hc] at XS
      have wi1 : IntKind.i64.wrap ((i : Int) + 1) = ((i + 1 : Nat) : Int) := by rw [IntKind.wrap_i64]; omega
      have hi26 : i + 1 ≤ 26 := by omega
      have XE : (⟨#[65, 66, 67, 68, 69, 70, 71, 72, 73, 74, 75, 76, 77, 78, 79, 80, 81, 82, 83, 84, 85, 86, 87, 88, 89, 90]⟩ : ByteArray).extract i (i + 1) = ⟨#[c]⟩ := ByteArray.ext (Array.toList_inj.1 XS)
      have HXE := Lib.hid XE
      have HC := Lib.hid hc
      clear XS XE hc
      go_upto_region 10 with fail
      go_cut [11] (fun p wz => p = .pointer (some ⟨wo.heap.size, 0, none⟩) ∧ wo.alloc (Obj.cells #[.string ⟨#[69]⟩, .int .i64 y, .int .i64 9999, .int .i64 m, .int .i64 1, .int .i64 0, .int .i64 1, .int .i64 0, .int .i64 1, .int .i64 0, .string ⟨#[c]⟩] 43) = wz)
      case first =>
        go_wp2
        go_meet
        exact ⟨rfl, by rw [HXE.out]⟩
      case rest =>
      obtain ⟨rfl, hw10⟩ := hcut
      subst hw10
      clear t1 wi1 hm HXE
      have CB : (wo.alloc (Obj.cells #[.string ⟨#[69]⟩, .int .i64 y, .int .i64 9999, .int .i64 m, .int .i64 1, .int .i64 0, .int .i64 1, .int .i64 0, .int .i64 1, .int .i64 0, .string ⟨#[c]⟩] 43)).cell? ⟨b1, off1 + i, none⟩ = some (.bool sv) := by
        have q := (HB.out.cell (p := ⟨b1, off1 + i, none⟩) HB1.out).trans CSV.out
        have hlt1 : b1 < wo.heap.size := Nat.lt_of_lt_of_le HB1.out HB.out.size
        exact (((Below.refl wo.heap.size wo).alloc (Nat.le_refl _) _).cell (p := ⟨b1, off1 + i, none⟩) hlt1).trans q
      have hi1 : i < n1 := by omega
      cases sv with
      | true =>
        have C3 := Lib.hid (Cs.new wo [.string ⟨#[69]⟩, .int .i64 y, .int .i64 9999, .int .i64 m, .int .i64 1, .int .i64 0, .int .i64 1, .int .i64 0, .int .i64 1, .int .i64 3600, .string ⟨#[c]⟩] 43)
        have B3 := Lib.hid (HB.out.alloc HB.out.size (Obj.cells #[.string ⟨#[69]⟩, .int .i64 y, .int .i64 9999, .int .i64 m, .int .i64 1, .int .i64 0, .int .i64 1, .int .i64 0, .int .i64 1, .int .i64 3600, .string ⟨#[c]⟩] 43))
        have R3 := Lib.hid (HR.out.below ((Below.refl wo.heap.size wo).alloc (Nat.le_refl _) (Obj.cells #[.string ⟨#[69]⟩, .int .i64 y, .int .i64 9999, .int .i64 m, .int .i64 1, .int .i64 0, .int .i64 1, .int .i64 0, .int .i64 1, .int .i64 3600, .string ⟨#[c]⟩] 43)))
        go_upto_region 16 with fail
        generalize (wo.alloc (Obj.cells #[.string ⟨#[69]⟩, .int .i64 y, .int .i64 9999, .int .i64 m, .int .i64 1, .int .i64 0, .int .i64 1, .int .i64 0, .int .i64 1, .int .i64 3600, .string ⟨#[c]⟩] 43)) = w5 at C3 B3 R3 ⊢
        have LN := HLN.out
        have hi8 : i ≤ 100000000 := by omega
        have hsz := B3.out.size
        have C9 := Lib.hid C3.out.range
        clear C3
        go_wp2_with (first | (refine ldV C9.out rfl (by rfl) (by rfl) (by rfl) ?_; intro K2 hK2; go_simp) | (at_builtin; refine appLe rfl _ _ rfl w.heap.size _ L i LN rfl R3.out y m 3600 c rfl hi8 hsz ?_))
        intro wn gg gcap r5 g5 k5
        have B5 := Lib.hid (g5.below w.heap.size w (Nat.le_refl _) B3.out hsz)
        have R5 := Lib.hid r5
        have HL5 : Hid ((L ++ [leR y m 3600 c]).length = i + 1) := Lib.hid (by rw [List.length_append, HLN.out]; rfl)
        have HLR5 : Hid (LeR (L ++ [leR y m 3600 c])) := Lib.hid (by rw [← HC.out]; exact HLR.out.snoc YB.out MB.out (by decide) (by omega))
        have HI5 : Hid (LeI (L ++ [leR y m 3600 c]) best T) := Lib.hid (HI.out.skip)
        clear r5 g5 k5 hsz R3 B3 HR HLR HI
        go_wp2
        go_roundw
        case rel => exact ⟨i + 1, _, best, T, _, by omega, rfl, rfl, rfl, by go_num, HL5, R5, HI5, HLR5, HBB, HTL, B5⟩
        case measure => simp [intOf]; omega
      | false =>
        have C1 := Lib.hid (Cs.new wo [.string ⟨#[69]⟩, .int .i64 y, .int .i64 9999, .int .i64 m, .int .i64 1, .int .i64 0, .int .i64 1, .int .i64 0, .int .i64 1, .int .i64 0, .string ⟨#[c]⟩] 43)
        have B1 := Lib.hid (HB.out.alloc HB.out.size (Obj.cells #[.string ⟨#[69]⟩, .int .i64 y, .int .i64 9999, .int .i64 m, .int .i64 1, .int .i64 0, .int .i64 1, .int .i64 0, .int .i64 1, .int .i64 0, .string ⟨#[c]⟩] 43))
        have R1 := Lib.hid (HR.out.below ((Below.refl wo.heap.size wo).alloc (Nat.le_refl _) (Obj.cells #[.string ⟨#[69]⟩, .int .i64 y, .int .i64 9999, .int .i64 m, .int .i64 1, .int .i64 0, .int .i64 1, .int .i64 0, .int .i64 1, .int .i64 0, .string ⟨#[c]⟩] 43)))
        obtain ⟨n, hn⟩ : ∃ n, Cal.num y m 1 = n := ⟨_, rfl⟩
        have NN := Lib.hid hn
        have NB : Hid (-10000000 ≤ n ∧ n ≤ 10000000) := Lib.hid (by
          have h28 := Cal.mlen_28 (y := y) MB.out.1 MB.out.2
          obtain ⟨_, _, _, _, q1, q2⟩ := Civ.num_bd (Y := y) (M := m) (D := 1) (by have := YB.out; omega) (by have := YB.out; omega) MB.out.1 MB.out.2 (by decide) (by omega)
          rw [← hn]; omega)
        clear hn
        go_wp2_with fail
        refine (Civ.rnum_any y m 1 _ (by have := YB.out; omega) (by have := YB.out; omega) MB.out.1 MB.out.2 (by decide) (by decide)).mono ?_
        rintro e w5 ⟨rfl, k5⟩
        rw [NN.out]
        have C3 := Lib.hid (C1.out.below k5)
        have B3 := Lib.hid (bstep B1.out k5)
        have R3 := Lib.hid (R1.out.below k5)
        clear k5 C1 B1 R1 CB
        have z10 := (C3.out.2 10 _ rfl).1
        by_cases hT : T = []
        · subst hT
          go_upto_region 15 with fail
          go_region
          have C3 := Lib.hid (C3.out.drewN 1)
          have R3 := Lib.hid (R3.out.below (below_drewN (Below.refl _ _) 1))
          have B3 := Lib.hid (below_drewN B3.out 1)
          change Hid (Cs _ w5.drew _) at C3
          change Hid (RowR _ w5.drew _ _) at R3
          change Hid (Below _ _ w5.drew) at B3
          generalize w5.drew = w6 at C3 B3 R3 ⊢
          have LN := HLN.out
          have hi8 : i ≤ 100000000 := by omega
          have hsz := B3.out.size
          have C9 := Lib.hid C3.out.range
          clear C3
          go_wp2_with (first | (refine ldV C9.out rfl (by rfl) (by rfl) (by rfl) ?_; intro K2 hK2; go_simp) | (at_builtin; refine appLe rfl _ _ rfl w.heap.size _ L i LN rfl R3.out y m 0 c rfl hi8 hsz ?_))
          intro wn gg gcap r5 g5 k5
          have B5 := Lib.hid (g5.below w.heap.size w (Nat.le_refl _) B3.out hsz)
          have R5 := Lib.hid r5
          have HL5 : Hid ((L ++ [leR y m 0 c]).length = i + 1) := Lib.hid (by rw [List.length_append, HLN.out]; rfl)
          have HLR5 : Hid (LeR (L ++ [leR y m 0 c])) := Lib.hid (by rw [← HC.out]; exact HLR.out.snoc YB.out MB.out (by decide) (by omega))
          have HI5 : Hid (LeI (L ++ [leR y m 0 c]) n [c]) := Lib.hid (HI.out.set YB.out MB.out NN.out (Or.inl rfl))
          clear r5 g5 k5 hsz R3 B3 HR HLR HI
          go_wp2
          go_roundw
          case rel => exact ⟨i + 1, _, n, [c], _, by omega, rfl, rfl, rfl, by go_num, HL5, R5, HI5, HLR5, NB, Lib.hid (by simp), B5⟩
          case measure => simp [intOf]; omega
        · obtain ⟨d, rfl⟩ : ∃ d, T = [d] := by
            have := HTL.out
            match T, hT, this with
            | [d], _, _ => exact ⟨d, rfl⟩
          clear hT
          by_cases hnb : n < best
          · go_upto_region 15 with fail
            go_region
            have C3 := Lib.hid (C3.out.drewN 1)
            have R3 := Lib.hid (R3.out.below (below_drewN (Below.refl _ _) 1))
            have B3 := Lib.hid (below_drewN B3.out 1)
            change Hid (Cs _ w5.drew _) at C3
            change Hid (RowR _ w5.drew _ _) at R3
            change Hid (Below _ _ w5.drew) at B3
            generalize w5.drew = w6 at C3 B3 R3 ⊢
            have LN := HLN.out
            have hi8 : i ≤ 100000000 := by omega
            have hsz := B3.out.size
            have C9 := Lib.hid C3.out.range
            clear C3
            go_wp2_with (first | (refine ldV C9.out rfl (by rfl) (by rfl) (by rfl) ?_; intro K2 hK2; go_simp) | (at_builtin; refine appLe rfl _ _ rfl w.heap.size _ L i LN rfl R3.out y m 0 c rfl hi8 hsz ?_))
            intro wn gg gcap r5 g5 k5
            have B5 := Lib.hid (g5.below w.heap.size w (Nat.le_refl _) B3.out hsz)
            have R5 := Lib.hid r5
            have HL5 : Hid ((L ++ [leR y m 0 c]).length = i + 1) := Lib.hid (by rw [List.length_append, HLN.out]; rfl)
            have HLR5 : Hid (LeR (L ++ [leR y m 0 c])) := Lib.hid (by rw [← HC.out]; exact HLR.out.snoc YB.out MB.out (by decide) (by omega))
            have HI5 : Hid (LeI (L ++ [leR y m 0 c]) n [c]) := Lib.hid (HI.out.set YB.out MB.out NN.out (Or.inr hnb))
            clear r5 g5 k5 hsz R3 B3 HR HLR HI
            go_wp2
            go_roundw
            case rel => exact ⟨i + 1, _, n, [c], _, by omega, rfl, rfl, rfl, by go_num, HL5, R5, HI5, HLR5, NB, Lib.hid (by simp), B5⟩
            case measure => simp [intOf]; omega
          · have hnb2 : ¬ n < best := hnb
            have LN := HLN.out
            have hi8 : i ≤ 100000000 := by omega
            have hsz := B3.out.size
            have C9 := Lib.hid C3.out.range
            clear C3
            go_wp2_with (first | (refine ldV C9.out rfl (by rfl) (by rfl) (by rfl) ?_; intro K2 hK2; go_simp) | (at_builtin; refine appLe rfl _ _ rfl w.heap.size _ L i LN rfl R3.out y m 0 c rfl hi8 hsz ?_))
            intro wn gg gcap r5 g5 k5
            have B5 := Lib.hid (g5.below w.heap.size w (Nat.le_refl _) B3.out hsz)
            have R5 := Lib.hid r5
            have HL5 : Hid ((L ++ [leR y m 0 c]).length = i + 1) := Lib.hid (by rw [List.length_append, HLN.out]; rfl)
            have HLR5 : Hid (LeR (L ++ [leR y m 0 c])) := Lib.hid (by rw [← HC.out]; exact HLR.out.snoc YB.out MB.out (by decide) (by omega))
            have HI5 : Hid (LeI (L ++ [leR y m 0 c]) best [d]) := Lib.hid (HI.out.keep YB.out MB.out NN.out (by simp) (by omega))
            clear r5 g5 k5 hsz R3 B3 HR HLR HI
            go_wp2
            go_roundw
            case rel => exact ⟨i + 1, _, best, [d], _, by omega, rfl, rfl, rfl, by go_num, HL5, R5, HI5, HLR5, HBB, HTL, B5⟩
            case measure => simp [intOf]; omega
    · have hin : i = n0 := by omega
      subst hin
      have OKL : Hid (okE L = 0) := Lib.hid (by rw [okE, if_neg (by rw [HLN.out]; omega), if_pos HLR.out.1])
      have SML : Hid (∀ r ∈ L, r.nm.length ≤ 1000000 ∧ r.lt.length ≤ 1000000) := Lib.hid (fun r hr => by
        obtain ⟨q1, q2⟩ := HLR.out.2 r hr
        rw [q1, q2]; decide)
      have LB : Hid (L.length ≤ 1000000000) := Lib.hid (by rw [HLN.out]; omega)
      have V1 : Hid (RulV wo (.slice A9 i c9) L) := Lib.hid (RowT.val rvC_len HR.out)
      have T1 : Hid ((if (0 : Int) = 0 then ltS [69] L else []) = T) := Lib.hid (by rw [if_pos rfl]; exact HI.out.lt)
      have T2 : Hid ((if (0 : Int) = 0 then ltS [70] L else []) = []) := Lib.hid (by rw [if_pos rfl]; exact le_none (fun r hr => (HLR.out.2 r hr).1))
      clear HR HI HLR HLN HBB HTL h20 hsn
      go_wp2_with fail
      refine (let_to _ [69] L 0 T _ (HA.out.stays HB.out) V1.out SML LB.out OKL T1).mono ?_
      rintro e w2 ⟨rfl, k2⟩
      have B2 := Lib.hid (bstep HB.out k2)
      have V2 := Lib.hid (V1.out.below k2)
      clear k2 V1 HB
      go_wp2_with fail
      refine (let_to _ [70] L 0 [] _ (HA.out.stays B2.out) V2.out SML LB.out OKL T2).mono ?_
      rintro e w3 ⟨rfl, k3⟩
      have B3 := Lib.hid (bstep B2.out k3)
      clear k3 V2 B2
      go_wp2_with fail
      refine (wakes13_any _ (HA.out.stays B3.out)).mono ?_
      rintro e w4 ⟨rfl, k4⟩
      have B4 := Lib.hid (bstep B3.out k4)
      clear k4
      go_wp2
      go_ret
      exact ⟨rfl, B4.out⟩
theorem letters_w (v0 v1 : Value) (Y : List Int) (S : List Bool) (w : World) (hA : Civ.Ahead w) (hy : IntV w v0 Y) (hs : BoolV w v1 S) (ly : Y.length ≤ maxLen) (ls : S.length ≤ maxLen) :
    Calls Tryd.prog 6 #[v0, v1] w fun e w' => e = .returned (.bool true) ∧ Below w.heap.size w w' := letters_any v0 v1 Y S w hA hy hs ly ls
end Ons
end Go.Proofs.YthefgagmjamdkaaDoor
