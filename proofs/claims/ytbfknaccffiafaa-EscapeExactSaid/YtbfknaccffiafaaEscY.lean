/-
  EscapeExact: the walk. (Written by gen/gen_escx.py.)
-/
import Derived.Test.YtbfknaccffiafaaEscX
namespace Go.Proofs.Ytbfknaccffiafaa
open Go.RowKit Go.Deep
namespace Esc
open Opn (TxtV Strs lst sv)
open Opn
theorem bapp (A B : List UInt8) : (⟨A.toArray⟩ : ByteArray) ++ ⟨B.toArray⟩ = ⟨(A ++ B).toArray⟩ := ByteArray.ext (by simp)
theorem UnlP.below {S : List UInt8} {v : Value} {rc : Int} {w w' : World} (h : UnlP S v rc w) (hb : Below w.heap.size w w') : UnlP S v rc w' := by
  rcases h with ⟨h1, h2, h3⟩ | h
  · exact Or.inl ⟨h1, h2, h3.below hb⟩
  · exact Or.inr h
set_option maxHeartbeats 25600000 in
set_option maxRecDepth 100000 in
theorem eexact_nil (s : ByteArray) (A : Option Addr) (c : Nat) (ls : Nat → ByteArray) (w : World) :
    Calls Try.prog 3 #[.string s, .slice A 0 c] w fun e w' => e = .returned (.bool true) ∧ Below w.heap.size w w' := by
  have hl : Strs A 0 ls w := fun j hj => by omega
  by_cases z1 : 1000 < s.size
  · go_enter Try.func3, Try.ntmps3
    go_wp2
    go_ret
    exact ⟨rfl, Below.refl _ _⟩
  have z2 : s.size ≤ 1000 := by omega
  clear z1
  obtain ⟨S, hS⟩ : ∃ x, s.data.toList = x := ⟨_, rfl⟩
  have KS := Lib.hid hS
  have lS : S.length ≤ 1000 := by rw [← hS]; simpa using z2
  obtain ⟨X, rp, hp⟩ : ∃ X rp, putR S = (X, rp) := ⟨_, _, rfl⟩
  obtain ⟨Y, rg, hg⟩ : ∃ Y rg, getR S = (Y, rg) := ⟨_, _, rfl⟩
  have HP := Lib.hid hp
  have HG := Lib.hid hg
  have HLS := Lib.hid hl
  have HNP : Hid ((pcs S).length ≤ 1001) := Lib.hid (Nat.le_trans (pcs_len S _ [] S (Nat.le_refl _)) (by omega))
  have HSZ : Hid (∀ t ∈ pcs S, t.length ≤ 1000) := Lib.hid (fun t ht => by have := pcs_sz _ [] S t (Nat.le_refl _) ht; simp at this; omega)
  have HNE : Hid (0 < (pcs S).length) := Lib.hid (Nat.pos_of_ne_zero (fun h => absurd (List.length_eq_zero_iff.1 h) (pcs_ne _ [] S (Nat.le_refl _))))
  clear hS hl hp hg lS
  obtain ⟨i0, hi, hz0, hz1, hz2⟩ := info_parts is
  go_enter Try.func3, Try.ntmps3
  go_wp2_with fail
  refine (heavy_to A 0 c ls _ (by unfold maxLen; omega) HLS.out).mono ?_
  rintro e w1 ⟨hv, rfl, hh, b1⟩
  cases hv with
  | true =>
    go_wp2
    go_ret
    exact ⟨rfl, b1⟩
  | false =>
    obtain ⟨n60, n800⟩ := hh.out rfl
    have N8 := Lib.hid n800
    clear n800 hh
    go_wp2_with fail
    refine (twint_to A 0 c ls _ n60 (HLS.out.below b1)).mono ?_
    rintro e w2 ⟨v5, rfl, t2, d2⟩
    have b2 := b1.trans (d2.mono b1.size)
    clear d2 b1
    have T2 := Lib.hid t2
    clear t2
    go_wp2_with fail
    refine (put_to s S X rp _ (by omega) KS HP).mono ?_
    rintro e w3 ⟨rfl, d3⟩
    have b3 := b2.trans (d3.mono b2.size)
    have T3 := Lib.hid (T2.out.below d3)
    clear d3 b2 T2
    go_wp2_with fail
    refine (get_to s S Y rg _ (by omega) KS HG).mono ?_
    rintro e w4 ⟨rfl, d4⟩
    have b4 := b3.trans (d4.mono b3.size)
    have T4 := Lib.hid (T3.out.below d4)
    clear d4 b3 T3
    go_wp2_with fail
    refine (list_all v5 0 ls _ n60 T4.out N8.out).mono ?_
    rintro e w5 ⟨R, rl, rfl, lp, d5⟩
    have b5 := b4.trans (d5.mono b4.size)
    have T5 := Lib.hid (T4.out.below d5)
    have LP := Lib.hid lp
    clear d5 b4 T4 lp
    go_wp2_with fail
    refine (unl_any s S _ (by omega) KS).mono ?_
    rintro e w6 ⟨dv, ru, rfl, up, d6⟩
    have b6 := b5.trans (d6.mono b5.size)
    have T6 := Lib.hid (T5.out.below d6)
    have UP := Lib.hid up
    clear d6 b5 T5 up
    go_wp2_with fail
    refine (rput_to s S X rp _ (by omega) KS HP).mono ?_
    rintro e w7 ⟨rfl, d7⟩
    have b7 := b6.trans (d7.mono b6.size)
    have T7 := Lib.hid (T6.out.below d7)
    have U7 := Lib.hid (UP.out.below d7)
    clear d7 b6 T6 UP
    go_wp2_with fail
    refine (rget_to s S Y rg _ (by omega) KS HG).mono ?_
    rintro e w8 ⟨rfl, d8⟩
    have b8 := b7.trans (d8.mono b7.size)
    have T8 := Lib.hid (T7.out.below d8)
    have U8 := Lib.hid (U7.out.below d8)
    have LA : Hid (Strs A 0 ls w8) := Lib.hid (HLS.out.below b8)
    clear d8 b7 T7 U7
    go_wp2_with fail
    refine (Opn.texts_any v5 (.slice A 0 c) (lst ls 0) (lst ls 0) _ T8.out (TxtV.of_strs LA.out) (by rw [Opn.lst_len]; omega) (by rw [Opn.lst_len]; omega)).mono ?_
    rintro e w9 ⟨bb, rfl, hbb, m, rfl⟩
    obtain rfl : bb = true := by rw [hbb.out]; exact decide_eq_true rfl
    have b9 := below_drewN b8 m
    obtain ⟨W9, hW9⟩ : ∃ x, w8.drewN m = x := ⟨_, rfl⟩
    have U9 : Hid (UnlP S dv ru W9) := Lib.hid (by rw [← hW9]; exact U8.out)
    rw [hW9] at b9 ⊢
    clear hbb T8 U8 LA b8 hW9
    go_wp2

    go_loopw [18, 19, 20] (fun zv wv qv wr => ∃ (k : Nat) (Z : List UInt8) (want : Int), k ≤ 0 ∧ zv = .string ⟨Z.toArray⟩ ∧ wv = .int .i64 want ∧ qv = .int .i64 k ∧ Z.length ≤ 1700 * k ∧ ZP ls k Z want ∧ Below w.heap.size w wr ∧ Below W9.heap.size W9 wr) (fun _ _ qv _ => 0 - (intOf qv).toNat)
    case atStart => exact ⟨0, [], 0, Nat.zero_le _, rfl, rfl, rfl, Nat.le_refl _, ZP.zero ls, b9, Below.refl _ _⟩
    case round =>
      obtain ⟨k, Z, want, hk, rfl, rfl, rfl, hZ, hzp, hb, hb9⟩ := hrel
      obtain rfl : k = 0 := by omega
      have hcs : want = 0 ∧ rl = 2 ∧ R = [] := by
        rcases LP.out with ⟨_, h, _⟩ | ⟨_, _, j, hj, _⟩ | ⟨h1, h2, _⟩
        · omega
        · omega
        · rcases hzp with ⟨g1, _⟩ | ⟨_, i, hi, _⟩
          · exact ⟨g1, h1, h2⟩
          · omega
      have U10 := Lib.hid (U9.out.below hb9)
      clear LP hzp U9 hb9 b9
      obtain ⟨rfl, rfl, rfl⟩ := hcs
      go_wp2_with fail
      refine (pieces_to s S _ (by omega) KS).mono ?_
      rintro e w10 ⟨pv, rfl, tp, d10⟩
      have hb10 := hb.trans (d10.mono hb.size)
      have U11 := Lib.hid (U10.out.below d10)
      obtain ⟨pb, po, pc, rfl, hpb, hpc⟩ := tp.form HNE.out
      have HPC := Lib.hid hpc
      have np := HNP.out
      have np0 := HNE.out
      obtain ⟨T, hT⟩ : ∃ T, pcs S = T := ⟨_, rfl⟩
      have HT := Lib.hid hT
      rw [hT] at HPC np np0 HNP HSZ ⊢
      obtain ⟨tl, htl⟩ : ∃ tl, T.length = tl := ⟨_, rfl⟩
      have HTL := Lib.hid htl
      rw [htl] at np np0 ⊢
      clear hpc tp d10 hT htl U10 HNP HNE
      obtain ⟨W10, hW10⟩ : ∃ x, w10 = x := ⟨_, rfl⟩
      rw [hW10] at hb10 U11 hpb HPC ⊢
      clear hW10
      go_wp2
      go_loopw [19, 24, 25] (fun wv av qv wx => ∃ (k : Nat) (want : Int), k ≤ tl ∧ wv = .int .i64 want ∧ qv = .int .i64 k ∧ QP T k want ∧ wx.ownsRow W10.heap.size 9 1 av k ((T.map gsv).take k) ∧ Below w.heap.size w wx ∧ Below W10.heap.size W10 wx) (fun _ _ qv _ => tl - (intOf qv).toNat)
      case atStart => exact ⟨0, 0, Nat.zero_le _, rfl, rfl, Or.inl ⟨rfl, rfl⟩, World.ownsRow_nil _ _ _ _, hb10, Below.refl _ _⟩
      case round =>
        obtain ⟨k, want, hk, rfl, rfl, hq, hown, hbx, hb10x⟩ := hrel
        by_cases hlt : k < tl
        · have hkT : k < T.length := by rw [HTL.out]; exact hlt
          have hc2 := (hb10x.cell (p := ⟨pb, po + k, none⟩) hpb).trans (HPC.out k hkT)
          have hsz := HSZ.out _ (List.getElem_mem hkT)
          have HR : Hid ((T.map gsv).take (k + 1) = (T.map gsv).take k ++ [gsv T[k]]) := Lib.hid (by rw [List.take_succ_eq_append_getElem (by rw [List.length_map]; exact hkT), List.getElem_map])
          have hgq : (getR T[k] = (gv T[k], 0) ∧ okG T[k] = true) ∨ (getR T[k] = (gv T[k], 3) ∧ okG T[k] = false) := by
            cases h : okG T[k] with
            | true => exact Or.inl ⟨ok_yes h, rfl⟩
            | false => exact Or.inr ⟨by rw [gv, ok_no h], rfl⟩
          have hqg : okG T[k] = true → QP T (k + 1) want := fun h => hq.good hkT h
          have hqf : okG T[k] = false → QP T (k + 1) 3 := fun h => QP.fail hkT h
          have HQG := Lib.hid hqg
          have HQF := Lib.hid hqf
          clear hqg hqf hq
          rw [gsv, Opn.sv] at HR
          obtain ⟨t, ht⟩ : ∃ t, T[k] = t := ⟨_, rfl⟩
          rw [ht] at hc2 hsz HR hgq HQG HQF
          clear ht hkT
          have hz : Hid ((⟨t.toArray⟩ : ByteArray).size ≤ 1000000) := Lib.hid (by show t.length ≤ 1000000; omega)
          have HTT : Hid ((⟨t.toArray⟩ : ByteArray).data.toList = t) := Lib.hid rfl
          obtain ⟨tb, htb⟩ : ∃ tb : ByteArray, ⟨t.toArray⟩ = tb := ⟨_, rfl⟩
          rw [htb] at hc2 hz HTT
          clear htb
          rcases hgq with ⟨hg, ho⟩ | ⟨hg, ho⟩
          · have HGG := Lib.hid hg
            have HQ1 := Lib.hid (HQG.out ho)
            clear hg ho HQG HQF
            obtain ⟨G, hG⟩ : ∃ G, gv t = G := ⟨_, rfl⟩
            rw [hG] at HGG HR
            clear hG
            go_wp2_with fail
            refine (rget_to tb t G _ _ hz.out HTT HGG).mono ?_
            rintro e1 w1 ⟨rfl, d1⟩
            have hb1 := hbx.trans (d1.mono hbx.size)
            have hb101 := hb10x.trans (d1.mono hb10x.size)
            have r2 := owns_below hown d1
            clear d1 hc2 hown
            go_wp2_with (at_builtin; refine wpList_append_own _ rfl _ _ 22 rfl W10.heap.size 9 i0 (.string ⟨#[]⟩) 1 16 (by kernel_rfl) hi hz0 hz1 hz2 rfl (by decide) _ _ _ rfl (r2.alloc _) ⟨w1.heap.size, 0, none⟩ 1 1 [.string ⟨G.toArray⟩] rfl rfl ?d1 ?d2 ?d3 ?d4 ?d5 ?_)
            case d1 =>
              intro j u hj
              match j, hj with
              | 0, hj => simp at hj; subst hj; simp [Addr.add]
            case d2 => intro u hu; simp at hu; subst hu; rfl
            case d3 => unfold maxLen; omega
            case d4 => omega
            case d5 => have := hb101.size; simp; omega
            intro v' w5 r3 g3 hne
            have hb5 : Below w.heap.size w w5 := (hb1.alloc hb1.size _).grown g3 (by have := hb1.size; simp; omega) (fun j hj => Nat.le_trans hb10.size ((r2.alloc (Obj.cells #[.string ⟨G.toArray⟩] 9)).lt j hj).1)
            have hb105 : Below W10.heap.size W10 w5 := (hb101.alloc hb101.size _).grown g3 (by have := hb101.size; simp; omega) (fun j hj => ((r2.alloc (Obj.cells #[.string ⟨G.toArray⟩] 9)).lt j hj).1)
            clear r2 g3 hne
            go_wp2
            go_roundw
            case rel => exact ⟨k + 1, want, by omega, rfl, by go_num, HQ1.out, by rw [HR.out]; exact r3, hb5, hb105⟩
            case measure => simp [intOf]; omega
          · have HGG := Lib.hid hg
            have HQ1 := Lib.hid (HQF.out ho)
            clear hg ho HQG HQF
            obtain ⟨G, hG⟩ : ∃ G, gv t = G := ⟨_, rfl⟩
            rw [hG] at HGG HR
            clear hG
            go_wp2_with fail
            refine (rget_to tb t G _ _ hz.out HTT HGG).mono ?_
            rintro e1 w1 ⟨rfl, d1⟩
            have hb1 := hbx.trans (d1.mono hbx.size)
            have hb101 := hb10x.trans (d1.mono hb10x.size)
            have r2 := owns_below hown d1
            clear d1 hc2 hown
            go_wp2_with (at_builtin; refine wpList_append_own _ rfl _ _ 22 rfl W10.heap.size 9 i0 (.string ⟨#[]⟩) 1 16 (by kernel_rfl) hi hz0 hz1 hz2 rfl (by decide) _ _ _ rfl (r2.alloc _) ⟨w1.heap.size, 0, none⟩ 1 1 [.string ⟨G.toArray⟩] rfl rfl ?d1 ?d2 ?d3 ?d4 ?d5 ?_)
            case d1 =>
              intro j u hj
              match j, hj with
              | 0, hj => simp at hj; subst hj; simp [Addr.add]
            case d2 => intro u hu; simp at hu; subst hu; rfl
            case d3 => unfold maxLen; omega
            case d4 => omega
            case d5 => have := hb101.size; simp; omega
            intro v' w5 r3 g3 hne
            have hb5 : Below w.heap.size w w5 := (hb1.alloc hb1.size _).grown g3 (by have := hb1.size; simp; omega) (fun j hj => Nat.le_trans hb10.size ((r2.alloc (Obj.cells #[.string ⟨G.toArray⟩] 9)).lt j hj).1)
            have hb105 : Below W10.heap.size W10 w5 := (hb101.alloc hb101.size _).grown g3 (by have := hb101.size; simp; omega) (fun j hj => ((r2.alloc (Obj.cells #[.string ⟨G.toArray⟩] 9)).lt j hj).1)
            clear r2 g3 hne
            go_wp2
            go_roundw
            case rel => exact ⟨k + 1, 3, by omega, rfl, by go_num, HQ1.out, by rw [HR.out]; exact r3, hb5, hb105⟩
            case measure => simp [intOf]; omega
        · obtain rfl : k = tl := by omega
          have hTT : T.take k = T := List.take_of_length_le (by rw [HTL.out]; exact Nat.le_refl _)
          have U12 := U11.out.below hb10x
          have hcs : (want = 0 ∧ ru = 0 ∧ TxtV wr dv (T.map gv)) ∨ (want = 3 ∧ ru = 3 ∧ dv = .slice none 0 0) := by
            rw [← HT.out] at hq hTT ⊢
            rcases U12 with ⟨h1, h2, h3⟩ | ⟨h1, h2, h3⟩
            · rcases hq with ⟨g1, g2⟩ | ⟨g1, g2⟩
              · exact Or.inl ⟨g1, h1, h3⟩
              · rw [hTT, h2] at g2; cases g2
            · rcases hq with ⟨g1, g2⟩ | ⟨g1, g2⟩
              · rw [hTT, h3] at g2; cases g2
              · exact Or.inr ⟨g1, h1, h2⟩
          rw [← List.map_take, hTT, gsv_map] at hown
          have TA := TxtV.of_owns hown
          clear hTT hq U11 U12 hown hb10x
          rcases hcs with ⟨rfl, rfl, td⟩ | ⟨rfl, rfl, rfl⟩
          · have TD := Lib.hid td
            have TAA := Lib.hid TA
            clear td TA
            go_wp2_with fail
            refine (Opn.texts_any dv _ (T.map gv) (T.map gv) _ TD.out TAA.out (by rw [List.length_map, HTL.out]; omega) (by rw [List.length_map, HTL.out]; omega)).mono ?_
            rintro e w11 ⟨bb, rfl, hbb, m2, rfl⟩
            obtain rfl : bb = true := by rw [hbb.out]; exact decide_eq_true rfl
            have hb12 := below_drewN hbx m2
            clear hbb TD TAA
            go_wp2_with fail
            refine (wakes17_any _).mono ?_
            rintro e w12 ⟨rfl, d12⟩
            go_wp2
            go_ret
            exact ⟨rfl, hb12.trans (d12.mono hb12.size)⟩
          · clear TA
            go_wp2_with fail
            refine (wakes17_any _).mono ?_
            rintro e w12 ⟨rfl, d12⟩
            go_wp2
            go_ret
            exact ⟨rfl, hbx.trans (d12.mono hbx.size)⟩
set_option maxHeartbeats 25600000 in
set_option maxRecDepth 100000 in
theorem eexact_some (s : ByteArray) (bk off n c : Nat) (ls : Nat → ByteArray) (w : World) (hn : n ≤ maxLen) (h0 : 0 < n) (hl : Strs (some ⟨bk, off, none⟩) n ls w) (hbk : bk < w.heap.size) :
    Calls Try.prog 3 #[.string s, .slice (some ⟨bk, off, none⟩) n c] w fun e w' => e = .returned (.bool true) ∧ Below w.heap.size w w' := by
  by_cases z1 : 1000 < s.size
  · go_enter Try.func3, Try.ntmps3
    go_wp2
    go_ret
    exact ⟨rfl, Below.refl _ _⟩
  have z2 : s.size ≤ 1000 := by omega
  clear z1
  obtain ⟨S, hS⟩ : ∃ x, s.data.toList = x := ⟨_, rfl⟩
  have KS := Lib.hid hS
  have lS : S.length ≤ 1000 := by rw [← hS]; simpa using z2
  obtain ⟨X, rp, hp⟩ : ∃ X rp, putR S = (X, rp) := ⟨_, _, rfl⟩
  obtain ⟨Y, rg, hg⟩ : ∃ Y rg, getR S = (Y, rg) := ⟨_, _, rfl⟩
  have HP := Lib.hid hp
  have HG := Lib.hid hg
  have HLS := Lib.hid hl
  have HNP : Hid ((pcs S).length ≤ 1001) := Lib.hid (Nat.le_trans (pcs_len S _ [] S (Nat.le_refl _)) (by omega))
  have HSZ : Hid (∀ t ∈ pcs S, t.length ≤ 1000) := Lib.hid (fun t ht => by have := pcs_sz _ [] S t (Nat.le_refl _) ht; simp at this; omega)
  have HNE : Hid (0 < (pcs S).length) := Lib.hid (Nat.pos_of_ne_zero (fun h => absurd (List.length_eq_zero_iff.1 h) (pcs_ne _ [] S (Nat.le_refl _))))
  clear hS hl hp hg lS
  obtain ⟨i0, hi, hz0, hz1, hz2⟩ := info_parts is
  unfold maxLen at hn
  go_enter Try.func3, Try.ntmps3
  go_wp2_with fail
  refine (heavy_to (some ⟨bk, off, none⟩) n c ls _ (by unfold maxLen; omega) HLS.out).mono ?_
  rintro e w1 ⟨hv, rfl, hh, b1⟩
  cases hv with
  | true =>
    go_wp2
    go_ret
    exact ⟨rfl, b1⟩
  | false =>
    obtain ⟨n60, n800⟩ := hh.out rfl
    have N8 := Lib.hid n800
    clear n800 hh
    go_wp2_with fail
    refine (twint_to (some ⟨bk, off, none⟩) n c ls _ n60 (HLS.out.below b1)).mono ?_
    rintro e w2 ⟨v5, rfl, t2, d2⟩
    have b2 := b1.trans (d2.mono b1.size)
    clear d2 b1
    have T2 := Lib.hid t2
    clear t2
    go_wp2_with fail
    refine (put_to s S X rp _ (by omega) KS HP).mono ?_
    rintro e w3 ⟨rfl, d3⟩
    have b3 := b2.trans (d3.mono b2.size)
    have T3 := Lib.hid (T2.out.below d3)
    clear d3 b2 T2
    go_wp2_with fail
    refine (get_to s S Y rg _ (by omega) KS HG).mono ?_
    rintro e w4 ⟨rfl, d4⟩
    have b4 := b3.trans (d4.mono b3.size)
    have T4 := Lib.hid (T3.out.below d4)
    clear d4 b3 T3
    go_wp2_with fail
    refine (list_all v5 n ls _ n60 T4.out N8.out).mono ?_
    rintro e w5 ⟨R, rl, rfl, lp, d5⟩
    have b5 := b4.trans (d5.mono b4.size)
    have T5 := Lib.hid (T4.out.below d5)
    have LP := Lib.hid lp
    clear d5 b4 T4 lp
    go_wp2_with fail
    refine (unl_any s S _ (by omega) KS).mono ?_
    rintro e w6 ⟨dv, ru, rfl, up, d6⟩
    have b6 := b5.trans (d6.mono b5.size)
    have T6 := Lib.hid (T5.out.below d6)
    have UP := Lib.hid up
    clear d6 b5 T5 up
    go_wp2_with fail
    refine (rput_to s S X rp _ (by omega) KS HP).mono ?_
    rintro e w7 ⟨rfl, d7⟩
    have b7 := b6.trans (d7.mono b6.size)
    have T7 := Lib.hid (T6.out.below d7)
    have U7 := Lib.hid (UP.out.below d7)
    clear d7 b6 T6 UP
    go_wp2_with fail
    refine (rget_to s S Y rg _ (by omega) KS HG).mono ?_
    rintro e w8 ⟨rfl, d8⟩
    have b8 := b7.trans (d8.mono b7.size)
    have T8 := Lib.hid (T7.out.below d8)
    have U8 := Lib.hid (U7.out.below d8)
    have LA : Hid (Strs (some ⟨bk, off, none⟩) n ls w8) := Lib.hid (HLS.out.below b8)
    clear d8 b7 T7 U7
    go_wp2_with fail
    refine (Opn.texts_any v5 (.slice (some ⟨bk, off, none⟩) n c) (lst ls n) (lst ls n) _ T8.out (TxtV.of_strs LA.out) (by rw [Opn.lst_len]; omega) (by rw [Opn.lst_len]; omega)).mono ?_
    rintro e w9 ⟨bb, rfl, hbb, m, rfl⟩
    obtain rfl : bb = true := by rw [hbb.out]; exact decide_eq_true rfl
    have b9 := below_drewN b8 m
    obtain ⟨W9, hW9⟩ : ∃ x, w8.drewN m = x := ⟨_, rfl⟩
    have U9 : Hid (UnlP S dv ru W9) := Lib.hid (by rw [← hW9]; exact U8.out)
    rw [hW9] at b9 ⊢
    clear hbb T8 U8 LA b8 hW9
    go_wp2

    go_loopw [18, 19, 20] (fun zv wv qv wr => ∃ (k : Nat) (Z : List UInt8) (want : Int), k ≤ n ∧ zv = .string ⟨Z.toArray⟩ ∧ wv = .int .i64 want ∧ qv = .int .i64 k ∧ Z.length ≤ 1700 * k ∧ ZP ls k Z want ∧ Below w.heap.size w wr ∧ Below W9.heap.size W9 wr) (fun _ _ qv _ => n - (intOf qv).toNat)
    case atStart => exact ⟨0, [], 0, Nat.zero_le _, rfl, rfl, rfl, Nat.le_refl _, ZP.zero ls, b9, Below.refl _ _⟩
    case round =>
      obtain ⟨k, Z, want, hk, rfl, rfl, rfl, hZ, hzp, hb, hb9⟩ := hrel
      by_cases hlt : k < n
      · obtain ⟨_, _, hA, _, hcl, _⟩ := HLS.out k hlt
        injection hA with hA
        injection hA with e1 e2
        subst e1 e2
        have hc2 := (hb.cell (p := ⟨bk, off + k, none⟩) hbk).trans hcl
        have hz := N8.out k hlt
        have lk : (ls k).data.toList.length ≤ 800 := by simpa using hz
        have lp := putL_len (ls k).data.toList
        clear hcl
        rcases putR_cases (ls k).data.toList with ⟨hpr, hpb⟩ | ⟨hpr, hpb⟩
        · have HPR := Lib.hid hpr
          have hZP1 : want = 0 → ZP ls (k + 1) (if 0 < k then Z ++ [44] ++ putL (ls k).data.toList else Z ++ putL (ls k).data.toList) 0 := fun h => ZP.good (h ▸ hzp) hpb
          have hZP2 : ∀ Z', want = 3 → ZP ls (k + 1) Z' 3 := fun Z' h => ZP.stay (h ▸ hzp)
          have hw := hzp.cases
          have HZP1 := Lib.hid hZP1
          have HZP2 := Lib.hid hZP2
          clear hpr hpb hZP1 hZP2 hzp
          obtain ⟨Q, hQ⟩ : ∃ Q, putL (ls k).data.toList = Q := ⟨_, rfl⟩
          rw [hQ] at HPR HZP1 lp
          clear hQ
          have HNZ : Hid (∀ want', want' = want → ZP ls (k + 1) (if 0 < k then Z ++ [44] ++ Q else Z ++ Q) want') := Lib.hid (fun w' hw' => by
            subst hw'
            rcases hw with ⟨h, _⟩ | ⟨h, _⟩
            · rw [h]; exact HZP1.out h
            · rw [h]; exact HZP2.out _ h)
          clear HZP1 HZP2
          by_cases hk0 : k = 0
          · have hk1 : ¬ 0 < k := by omega
            have HNY : Hid (ZP ls (k + 1) (Z ++ Q) want) := Lib.hid (by have := HNZ.out want rfl; rwa [if_neg hk1] at this)
            clear HNZ hw hk0
            go_wp2_with fail
            refine (rput_to (ls k) _ _ _ _ (by omega) (Lib.hid rfl) HPR).mono ?_
            rintro e w1 ⟨rfl, d1⟩
            have hb1 := hb.trans (d1.mono hb.size)
            have hb91 := hb9.trans (d1.mono hb9.size)
            clear d1 hc2
            go_wp2
            go_roundw
            case rel => exact ⟨k + 1, Z ++ Q, want, by omega, by simp [bapp], rfl, by go_num, by rw [List.length_append]; omega, HNY.out, hb1, hb91⟩
            case measure => simp [intOf]; omega
          · have hk1 : 0 < k := by omega
            have HNY : Hid (ZP ls (k + 1) (Z ++ [44] ++ Q) want) := Lib.hid (by have := HNZ.out want rfl; rwa [if_pos hk1] at this)
            clear HNZ hw
            go_wp2_with fail
            refine (rput_to (ls k) _ _ _ _ (by omega) (Lib.hid rfl) HPR).mono ?_
            rintro e w1 ⟨rfl, d1⟩
            have hb1 := hb.trans (d1.mono hb.size)
            have hb91 := hb9.trans (d1.mono hb9.size)
            clear d1 hc2
            go_wp2
            go_roundw
            case rel => exact ⟨k + 1, Z ++ [44] ++ Q, want, by omega, by simp [bapp], rfl, by go_num, by rw [List.length_append, List.length_append]; simp; omega, HNY.out, hb1, hb91⟩
            case measure => simp [intOf]; omega
        · have HPR := Lib.hid hpr
          have HZP : Hid (∀ Z', ZP ls (k + 1) Z' 3) := Lib.hid (fun Z' => hzp.fail hpb)
          have hw : want = 0 ∨ want = 3 := by rcases hzp.cases with ⟨h, _⟩ | ⟨h, _⟩ <;> simp [h]
          clear hpr hpb hzp
          by_cases hk0 : k = 0
          · have hk1 : ¬ 0 < k := by omega
            clear hk0
            rcases hw with rfl | rfl
            all_goals
              go_wp2_with fail
              refine (rput_to (ls k) _ _ _ _ (by omega) (Lib.hid rfl) HPR).mono ?_
              rintro e w1 ⟨rfl, d1⟩
              have hb1 := hb.trans (d1.mono hb.size)
              have hb91 := hb9.trans (d1.mono hb9.size)
              clear d1 hc2
              go_wp2
              go_roundw
              case rel => exact ⟨k + 1, Z ++ [], 3, by omega, by simp [bapp], rfl, by go_num, by rw [List.length_append]; simp; omega, HZP.out _, hb1, hb91⟩
              case measure => simp [intOf]; omega
          · have hk1 : 0 < k := by omega
            clear hk0
            rcases hw with rfl | rfl
            all_goals
              go_wp2_with fail
              refine (rput_to (ls k) _ _ _ _ (by omega) (Lib.hid rfl) HPR).mono ?_
              rintro e w1 ⟨rfl, d1⟩
              have hb1 := hb.trans (d1.mono hb.size)
              have hb91 := hb9.trans (d1.mono hb9.size)
              clear d1 hc2
              go_wp2
              go_roundw
              case rel => exact ⟨k + 1, Z ++ [44] ++ [], 3, by omega, by simp [bapp], rfl, by go_num, by rw [List.length_append, List.length_append]; simp; omega, HZP.out _, hb1, hb91⟩
              case measure => simp [intOf]; omega
      · obtain rfl : k = n := by omega
        have hn0 : ((k : Int) == 0) = false := beq_eq_false_iff_ne.2 (by omega)
        have hcs : (want = 0 ∧ rl = 0 ∧ R = Z) ∨ (want = 3 ∧ rl = 3 ∧ R = []) := by
          rcases LP.out with ⟨h1, _, h2, h3⟩ | ⟨h1, h2, j, hj, h3⟩ | ⟨_, _, h⟩
          · rcases hzp with ⟨g1, g2, g3⟩ | ⟨g1, i, hi, g2⟩
            · exact Or.inl ⟨g1, h1, by rw [h3, g3]⟩
            · rw [h2 i hi] at g2; cases g2
          · rcases hzp with ⟨g1, g2, g3⟩ | ⟨g1, i, hi, g2⟩
            · rw [g2 j hj] at h3; cases h3
            · exact Or.inr ⟨g1, h1, h2⟩
          · omega
        have U10 := Lib.hid (U9.out.below hb9)
        clear LP hzp U9 hb9 b9
        rcases hcs with ⟨rfl, rfl, rfl⟩ | ⟨rfl, rfl, rfl⟩
        all_goals
          go_wp2_with fail
          refine (pieces_to s S _ (by omega) KS).mono ?_
          rintro e w10 ⟨pv, rfl, tp, d10⟩
          have hb10 := hb.trans (d10.mono hb.size)
          have U11 := Lib.hid (U10.out.below d10)
          obtain ⟨pb, po, pc, rfl, hpb, hpc⟩ := tp.form HNE.out
          have HPC := Lib.hid hpc
          have np := HNP.out
          have np0 := HNE.out
          obtain ⟨T, hT⟩ : ∃ T, pcs S = T := ⟨_, rfl⟩
          have HT := Lib.hid hT
          rw [hT] at HPC np np0 HNP HSZ ⊢
          obtain ⟨tl, htl⟩ : ∃ tl, T.length = tl := ⟨_, rfl⟩
          have HTL := Lib.hid htl
          rw [htl] at np np0 ⊢
          clear hpc tp d10 hT htl U10 HNP HNE
          obtain ⟨W10, hW10⟩ : ∃ x, w10 = x := ⟨_, rfl⟩
          rw [hW10] at hb10 U11 hpb HPC ⊢
          clear hW10
          go_wp2
          go_loopw [19, 24, 25] (fun wv av qv wx => ∃ (k : Nat) (want : Int), k ≤ tl ∧ wv = .int .i64 want ∧ qv = .int .i64 k ∧ QP T k want ∧ wx.ownsRow W10.heap.size 9 1 av k ((T.map gsv).take k) ∧ Below w.heap.size w wx ∧ Below W10.heap.size W10 wx) (fun _ _ qv _ => tl - (intOf qv).toNat)
          case atStart => exact ⟨0, 0, Nat.zero_le _, rfl, rfl, Or.inl ⟨rfl, rfl⟩, World.ownsRow_nil _ _ _ _, hb10, Below.refl _ _⟩
          case round =>
            obtain ⟨k, want, hk, rfl, rfl, hq, hown, hbx, hb10x⟩ := hrel
            by_cases hlt : k < tl
            · have hkT : k < T.length := by rw [HTL.out]; exact hlt
              have hc2 := (hb10x.cell (p := ⟨pb, po + k, none⟩) hpb).trans (HPC.out k hkT)
              have hsz := HSZ.out _ (List.getElem_mem hkT)
              have HR : Hid ((T.map gsv).take (k + 1) = (T.map gsv).take k ++ [gsv T[k]]) := Lib.hid (by rw [List.take_succ_eq_append_getElem (by rw [List.length_map]; exact hkT), List.getElem_map])
              have hgq : (getR T[k] = (gv T[k], 0) ∧ okG T[k] = true) ∨ (getR T[k] = (gv T[k], 3) ∧ okG T[k] = false) := by
                cases h : okG T[k] with
                | true => exact Or.inl ⟨ok_yes h, rfl⟩
                | false => exact Or.inr ⟨by rw [gv, ok_no h], rfl⟩
              have hqg : okG T[k] = true → QP T (k + 1) want := fun h => hq.good hkT h
              have hqf : okG T[k] = false → QP T (k + 1) 3 := fun h => QP.fail hkT h
              have HQG := Lib.hid hqg
              have HQF := Lib.hid hqf
              clear hqg hqf hq
              rw [gsv, Opn.sv] at HR
              obtain ⟨t, ht⟩ : ∃ t, T[k] = t := ⟨_, rfl⟩
              rw [ht] at hc2 hsz HR hgq HQG HQF
              clear ht hkT
              have hz : Hid ((⟨t.toArray⟩ : ByteArray).size ≤ 1000000) := Lib.hid (by show t.length ≤ 1000000; omega)
              have HTT : Hid ((⟨t.toArray⟩ : ByteArray).data.toList = t) := Lib.hid rfl
              obtain ⟨tb, htb⟩ : ∃ tb : ByteArray, ⟨t.toArray⟩ = tb := ⟨_, rfl⟩
              rw [htb] at hc2 hz HTT
              clear htb
              rcases hgq with ⟨hg, ho⟩ | ⟨hg, ho⟩
              · have HGG := Lib.hid hg
                have HQ1 := Lib.hid (HQG.out ho)
                clear hg ho HQG HQF
                obtain ⟨G, hG⟩ : ∃ G, gv t = G := ⟨_, rfl⟩
                rw [hG] at HGG HR
                clear hG
                go_wp2_with fail
                refine (rget_to tb t G _ _ hz.out HTT HGG).mono ?_
                rintro e1 w1 ⟨rfl, d1⟩
                have hb1 := hbx.trans (d1.mono hbx.size)
                have hb101 := hb10x.trans (d1.mono hb10x.size)
                have r2 := owns_below hown d1
                clear d1 hc2 hown
                go_wp2_with (at_builtin; refine wpList_append_own _ rfl _ _ 22 rfl W10.heap.size 9 i0 (.string ⟨#[]⟩) 1 16 (by kernel_rfl) hi hz0 hz1 hz2 rfl (by decide) _ _ _ rfl (r2.alloc _) ⟨w1.heap.size, 0, none⟩ 1 1 [.string ⟨G.toArray⟩] rfl rfl ?d1 ?d2 ?d3 ?d4 ?d5 ?_)
                case d1 =>
                  intro j u hj
                  match j, hj with
                  | 0, hj => simp at hj; subst hj; simp [Addr.add]
                case d2 => intro u hu; simp at hu; subst hu; rfl
                case d3 => unfold maxLen; omega
                case d4 => omega
                case d5 => have := hb101.size; simp; omega
                intro v' w5 r3 g3 hne
                have hb5 : Below w.heap.size w w5 := (hb1.alloc hb1.size _).grown g3 (by have := hb1.size; simp; omega) (fun j hj => Nat.le_trans hb10.size ((r2.alloc (Obj.cells #[.string ⟨G.toArray⟩] 9)).lt j hj).1)
                have hb105 : Below W10.heap.size W10 w5 := (hb101.alloc hb101.size _).grown g3 (by have := hb101.size; simp; omega) (fun j hj => ((r2.alloc (Obj.cells #[.string ⟨G.toArray⟩] 9)).lt j hj).1)
                clear r2 g3 hne
                go_wp2
                go_roundw
                case rel => exact ⟨k + 1, want, by omega, rfl, by go_num, HQ1.out, by rw [HR.out]; exact r3, hb5, hb105⟩
                case measure => simp [intOf]; omega
              · have HGG := Lib.hid hg
                have HQ1 := Lib.hid (HQF.out ho)
                clear hg ho HQG HQF
                obtain ⟨G, hG⟩ : ∃ G, gv t = G := ⟨_, rfl⟩
                rw [hG] at HGG HR
                clear hG
                go_wp2_with fail
                refine (rget_to tb t G _ _ hz.out HTT HGG).mono ?_
                rintro e1 w1 ⟨rfl, d1⟩
                have hb1 := hbx.trans (d1.mono hbx.size)
                have hb101 := hb10x.trans (d1.mono hb10x.size)
                have r2 := owns_below hown d1
                clear d1 hc2 hown
                go_wp2_with (at_builtin; refine wpList_append_own _ rfl _ _ 22 rfl W10.heap.size 9 i0 (.string ⟨#[]⟩) 1 16 (by kernel_rfl) hi hz0 hz1 hz2 rfl (by decide) _ _ _ rfl (r2.alloc _) ⟨w1.heap.size, 0, none⟩ 1 1 [.string ⟨G.toArray⟩] rfl rfl ?d1 ?d2 ?d3 ?d4 ?d5 ?_)
                case d1 =>
                  intro j u hj
                  match j, hj with
                  | 0, hj => simp at hj; subst hj; simp [Addr.add]
                case d2 => intro u hu; simp at hu; subst hu; rfl
                case d3 => unfold maxLen; omega
                case d4 => omega
                case d5 => have := hb101.size; simp; omega
                intro v' w5 r3 g3 hne
                have hb5 : Below w.heap.size w w5 := (hb1.alloc hb1.size _).grown g3 (by have := hb1.size; simp; omega) (fun j hj => Nat.le_trans hb10.size ((r2.alloc (Obj.cells #[.string ⟨G.toArray⟩] 9)).lt j hj).1)
                have hb105 : Below W10.heap.size W10 w5 := (hb101.alloc hb101.size _).grown g3 (by have := hb101.size; simp; omega) (fun j hj => ((r2.alloc (Obj.cells #[.string ⟨G.toArray⟩] 9)).lt j hj).1)
                clear r2 g3 hne
                go_wp2
                go_roundw
                case rel => exact ⟨k + 1, 3, by omega, rfl, by go_num, HQ1.out, by rw [HR.out]; exact r3, hb5, hb105⟩
                case measure => simp [intOf]; omega
            · obtain rfl : k = tl := by omega
              have hTT : T.take k = T := List.take_of_length_le (by rw [HTL.out]; exact Nat.le_refl _)
              have U12 := U11.out.below hb10x
              have hcs : (want = 0 ∧ ru = 0 ∧ TxtV wr dv (T.map gv)) ∨ (want = 3 ∧ ru = 3 ∧ dv = .slice none 0 0) := by
                rw [← HT.out] at hq hTT ⊢
                rcases U12 with ⟨h1, h2, h3⟩ | ⟨h1, h2, h3⟩
                · rcases hq with ⟨g1, g2⟩ | ⟨g1, g2⟩
                  · exact Or.inl ⟨g1, h1, h3⟩
                  · rw [hTT, h2] at g2; cases g2
                · rcases hq with ⟨g1, g2⟩ | ⟨g1, g2⟩
                  · rw [hTT, h3] at g2; cases g2
                  · exact Or.inr ⟨g1, h1, h2⟩
              rw [← List.map_take, hTT, gsv_map] at hown
              have TA := TxtV.of_owns hown
              clear hTT hq U11 U12 hown hb10x
              rcases hcs with ⟨rfl, rfl, td⟩ | ⟨rfl, rfl, rfl⟩
              · have TD := Lib.hid td
                have TAA := Lib.hid TA
                clear td TA
                go_wp2_with fail
                refine (Opn.texts_any dv _ (T.map gv) (T.map gv) _ TD.out TAA.out (by rw [List.length_map, HTL.out]; omega) (by rw [List.length_map, HTL.out]; omega)).mono ?_
                rintro e w11 ⟨bb, rfl, hbb, m2, rfl⟩
                obtain rfl : bb = true := by rw [hbb.out]; exact decide_eq_true rfl
                have hb12 := below_drewN hbx m2
                clear hbb TD TAA
                go_wp2_with fail
                refine (wakes17_any _).mono ?_
                rintro e w12 ⟨rfl, d12⟩
                go_wp2
                go_ret
                exact ⟨rfl, hb12.trans (d12.mono hb12.size)⟩
              · clear TA
                go_wp2_with fail
                refine (wakes17_any _).mono ?_
                rintro e w12 ⟨rfl, d12⟩
                go_wp2
                go_ret
                exact ⟨rfl, hbx.trans (d12.mono hbx.size)⟩
theorem eexact_any (s : ByteArray) (A : Option Addr) (n c : Nat) (ls : Nat → ByteArray) (w : World) (hn : n ≤ maxLen) (hl : Strs A n ls w) :
    Calls Try.prog 3 #[.string s, .slice A n c] w fun e w' => e = .returned (.bool true) ∧ Below w.heap.size w w' := by
  by_cases h0 : n = 0
  · subst h0; exact eexact_nil s A c ls w
  · obtain ⟨bk, off, rfl, hbk, _⟩ := hl.form (by omega)
    exact eexact_some s bk off n c ls w hn (by omega) hl hbk
end Esc
end Go.Proofs.Ytbfknaccffiafaa
