/-
  Several texts in one (TwnA, TwnB).
-/
import Derived.Test.YtgaolaafjiiehaaGreatDoorBdCl
import Derived.Laws.OwnMore
import Derived.Test.YtgaolaafjiiehaaGreatDoorKn
import Derived.Test.YtgaolaafjiiehaaGreatDoorBdRg
/-
  solsticekeep.TwinInts: the same numbers, in memory of their own.
-/
namespace Go.Proofs.YtgaolaafjiiehaaGreatDoor
open Go.RowKit
namespace Twn
open Ap (RowI Grew)
open Rcv (IntV)
set_option maxHeartbeats 6400000 in
set_option maxRecDepth 100000 in
theorem twini_to (v : Value) (L : List Int) (w : World) (hv : IntV w v L) (hL : L.length ≤ 1000000) :
    Calls Tryz.prog 16 #[v] w fun e w' => ∃ v', e = .returned v' ∧ RowI w.heap.size w' v' L ∧ Below w.heap.size w w' := by
  obtain ⟨i0, hi, hz0, hz1, hz2⟩ := info_parts Ap.infoI
  by_cases h0 : L.length = 0
  · obtain rfl : L = [] := List.length_eq_zero_iff.1 h0
    obtain ⟨A, c, rfl⟩ := hv.nil
    by_cases hA : A = none
    · subst hA
      go_enter Tryz.func16, Tryz.ntmps16
      go_wp2
      go_ret
      exact ⟨_, rfl, RowI.nil _ _, Below.refl _ _⟩
    · obtain ⟨ad, rfl⟩ : ∃ ad, A = some ad := Option.ne_none_iff_exists'.1 hA
      go_enter Tryz.func16, Tryz.ntmps16
      go_wp2_with (at_builtin; refine wpList_append_own _ rfl _ _ 22 rfl w.heap.size 3 i0 (.int .i64 0) 1 8 (by kernel_rfl) hi hz0 hz1 hz2 rfl (by decide) _ _ _ rfl (World.ownsRow_nil w _ _ _) ad 0 c [] rfl rfl ?d1 ?d2 ?d3 ?d4 ?d5 ?_)
      case d1 => intro j u hj; simp at hj
      case d2 => intro u hu; simp at hu
      case d3 => unfold maxLen; omega
      case d4 => omega
      case d5 => omega
      intro v' w5 r3 g3 hne
      have hb5 : Below w.heap.size w w5 := (Below.refl _ _).grown g3 (Nat.le_refl _) (fun j hj => by simp [Value.ownBlock] at hj)
      have hT : RowI w.heap.size w5 v' [] := by unfold RowI; simpa using r3
      clear r3 g3 hne
      go_wp2
      go_ret
      exact ⟨_, rfl, hT, hb5⟩
  · obtain ⟨bk, off, c, rfl, hbk, hcell⟩ := hv.form (by omega)
    obtain ⟨n, hn⟩ : ∃ n, L.length = n := ⟨_, rfl⟩
    have HN := Lib.hid hn
    have HC := Lib.hid hcell
    rw [hn] at hL h0 ⊢
    clear hv hcell hn
    go_enter Tryz.func16, Tryz.ntmps16
    go_wp2_with (at_builtin; refine wpList_append_own _ rfl _ _ 22 rfl w.heap.size 3 i0 (.int .i64 0) 1 8 (by kernel_rfl) hi hz0 hz1 hz2 rfl (by decide) _ _ _ rfl (World.ownsRow_nil w _ _ _) ⟨bk, off, none⟩ n c (L.map Ap.iv) rfl ?d0 ?d1 ?d2 ?d3 ?d4 ?d5 ?_)
    case d0 => rw [List.length_map, HN.out, Nat.mul_one]
    case d1 =>
      intro j u hj
      rw [List.getElem?_map] at hj
      obtain ⟨a, ha, rfl⟩ := Option.map_eq_some_iff.1 hj
      obtain ⟨hj2, rfl⟩ := List.getElem?_eq_some_iff.1 ha
      rw [show (⟨bk, off, none⟩ : Addr).add j = ⟨bk, off + j, none⟩ from by simp [Addr.add]]
      exact HC.out j hj2
    case d2 =>
      intro u hu
      obtain ⟨t, _, rfl⟩ := List.mem_map.1 hu
      rfl
    case d3 => unfold maxLen; omega
    case d4 => omega
    case d5 => omega
    intro v' w5 r3 g3 hne
    have hb5 : Below w.heap.size w w5 := (Below.refl _ _).grown g3 (Nat.le_refl _) (fun j hj => by simp [Value.ownBlock] at hj)
    have hT : RowI w.heap.size w5 v' L := by unfold RowI; rw [HN.out]; simpa using r3
    clear r3 g3 hne
    go_wp2
    go_ret
    exact ⟨_, rfl, hT, hb5⟩
end Twn
end Go.Proofs.YtgaolaafjiiehaaGreatDoor
/-
  solsticekeep.TwinRecur: the same rule, its lists in memory of their own. (Written by gen/gen_twn.py.)
-/
namespace Go.Proofs.YtgaolaafjiiehaaGreatDoor
open Go.RowKit
namespace Twn
open Cel
open Ap (RowI Grew)
open Rcp (RowD dvL infoD)
open Rct (kn_load kn_store)
open Rcv (CV IntV DayV LisV aggR)
/-- A row of numbers of the call's own, its block between lo and hi. -/
def TwR (lo hi : Nat) (w : World) (s : Value) (L : List Int) : Prop := RowI lo w s L ∧ ∀ g, s.ownBlock = some g → g < hi
theorem TwR.below {lo hi : Nat} {w w' : World} {s : Value} {L : List Int} (h : TwR lo hi w s L) (hb : Below w.heap.size w w') : TwR lo hi w' s L := ⟨h.1.below hb, h.2⟩
theorem TwR.cell {lo hi g i : Nat} {w : World} {s : Value} {L : List Int} (h : TwR lo hi w s L) (hg : g < lo) (v : Value) : TwR lo hi (w.setCell ⟨g, i, none⟩ v) s L := ⟨Rcp.own_cell h.1 hg v, h.2⟩
theorem TwR.less {lo lo' hi : Nat} {w : World} {s : Value} {L : List Int} (h : TwR lo hi w s L) (hl : lo' ≤ lo) : TwR lo' hi w s L := ⟨Rcp.own_less h.1 hl, h.2⟩
theorem TwR.cells {lo hi g : Nat} {s : Value} {L : List Int} (hg : g < lo) : ∀ (vs : List Value) (o : Nat) (w : World), TwR lo hi w s L → TwR lo hi (w.setCells g o vs) s L
  | [], _, _, h => h
  | v :: r, o, w, h => by rw [World.setCells]; exact TwR.cells hg r (o + 1) _ (h.cell hg v)
theorem rowd_cells {lo g : Nat} {s : Value} {L : List (Int × Int)} (hg : g < lo) : ∀ (vs : List Value) (o : Nat) (w : World), RowD lo w s L → RowD lo (w.setCells g o vs) s L
  | [], _, _, h => h
  | v :: r, o, w, h => by rw [World.setCells]; exact rowd_cells hg r (o + 1) _ (Rcp.own_cell h hg v)
theorem rowd_forms {B : Nat} {w : World} {v : Value} {L : List (Int × Int)} (h : RowD B w v L) : ∃ A c, v = .slice A L.length c := by
  rcases h.2 with ⟨h1, h2⟩ | ⟨g, cap, cur, h1, _⟩
  · exact ⟨none, 0, by rw [h1, h2]⟩
  · exact ⟨_, _, h1⟩
theorem TwR.new {w w' : World} {s : Value} {L : List Int} (h : RowI w.heap.size w' s L) : TwR w.heap.size w'.heap.size w' s L := ⟨h, fun g hg => (World.ownsRow.lt h g hg).2⟩
theorem drw {w : World} {n : Nat} {w0 : World} (h : Below n w0 w) : Below n w0 w.drew := ⟨h.os, h.tape, h.output, h.size, h.block⟩
theorem resT {P : Program} {fn : Func} {tmps : Array Value} {g : Nat} {W : World} {vs : List Value} {v : Value} (h : Cs g W vs) (k : ∀ W', Cs g W' vs → (results fn tmps).run P W' = .ok v W') : (results fn tmps).run P W = .ok v W := k W h
set_option maxHeartbeats 25600000 in
set_option maxRecDepth 100000 in
theorem twin_go (u : CV) (a6 a7 a8 a9 a10 a11 a12 a13 a14 : Option Addr) (c6 c7 c8 c9 c10 c11 c12 c13 c14 : Nat) (w : World) (L : LisV w u (.slice a6 u.sc.length c6) (.slice a7 u.mi.length c7) (.slice a8 u.hr.length c8) (.slice a9 u.dy.length c9) (.slice a10 u.md.length c10) (.slice a11 u.yd.length c11) (.slice a12 u.wn.length c12) (.slice a13 u.mo.length c13) (.slice a14 u.sp.length c14)) (hs : Rct.Len3 u) :
    Calls Tryz.prog 7 #[.agg #[.int .i64 u.fq, .int .i64 u.iv, .int .i64 u.ct, .bool u.un, .int .i64 u.ua, .bool u.ut, .slice a6 u.sc.length c6, .slice a7 u.mi.length c7, .slice a8 u.hr.length c8, .slice a9 u.dy.length c9, .slice a10 u.md.length c10, .slice a11 u.yd.length c11, .slice a12 u.wn.length c12, .slice a13 u.mo.length c13, .slice a14 u.sp.length c14, .int .i64 u.wk]] w fun e w' => ∃ s6 s7 s8 s9 s10 s11 s12 s13 s14, e = .returned (aggR u s6 s7 s8 s9 s10 s11 s12 s13 s14) ∧ (∃ m n0 n1 n2 n3 n4 n5 n6 n7 n8 n9, w.heap.size ≤ m ∧ m < n0 ∧ n0 ≤ n1 ∧ n1 ≤ n2 ∧ n2 ≤ n3 ∧ n3 ≤ n4 ∧ n4 ≤ n5 ∧ n5 ≤ n6 ∧ n6 ≤ n7 ∧ n7 ≤ n8 ∧ n8 ≤ n9 ∧ n9 ≤ w'.heap.size ∧ TwR n0 n1 w' s6 u.sc ∧ TwR n1 n2 w' s7 u.mi ∧ TwR n2 n3 w' s8 u.hr ∧ TwR n3 n4 w' s10 u.md ∧ TwR n4 n5 w' s11 u.yd ∧ TwR n5 n6 w' s12 u.wn ∧ TwR n6 n7 w' s13 u.mo ∧ TwR n7 n8 w' s14 u.sp ∧ RowD n8 w' s9 u.dy) ∧ Below w.heap.size w w' := by
  have L0 := Lib.hid L
  obtain ⟨z6, z7, z8, z9, z10, z11, z12, z13, z14⟩ := hs
  clear L
  go_enter Tryz.func7, Tryz.ntmps7
  go_upto_region 0 with fail
  go_cut [1, 2] (fun p q wz => p = .pointer (some ⟨w.heap.size, 0, none⟩) ∧ q = .pointer (some ⟨w.heap.size + 1, 0, none⟩) ∧ Hid (Cs w.heap.size wz [.int .i64 u.fq, .int .i64 u.iv, .int .i64 u.ct, .bool u.un, .int .i64 u.ua, .bool u.ut, .slice a6 u.sc.length c6, .slice a7 u.mi.length c7, .slice a8 u.hr.length c8, .slice a9 u.dy.length c9, .slice a10 u.md.length c10, .slice a11 u.yd.length c11, .slice a12 u.wn.length c12, .slice a13 u.mo.length c13, .slice a14 u.sp.length c14, .int .i64 u.wk]) ∧ Hid (Cs (w.heap.size + 1) wz [.int .i64 0, .int .i64 0, .int .i64 0, .bool false, .int .i64 0, .bool false, .slice none 0 0, .slice none 0 0, .slice none 0 0, .slice none 0 0, .slice none 0 0, .slice none 0 0, .slice none 0 0, .slice none 0 0, .slice none 0 0, .int .i64 0]) ∧ Hid (Below w.heap.size w wz))
  case first =>
    go_wp2
    go_meet
    exact ⟨rfl, rfl, Lib.hid ((Cs.new w _ _).alloc _), Lib.hid (Rct.cs_at (by simp) _ _), Lib.hid (((Below.refl _ _).alloc (Nat.le_refl _) _).alloc (by simp) _)⟩
  case rest =>
  obtain ⟨w1, rfl⟩ : ∃ x : World, x = wc := ⟨_, rfl⟩
  obtain ⟨rfl, rfl, CC, GG, BB⟩ := hcut
  obtain ⟨g1, hg1⟩ : ∃ g, w.heap.size = g := ⟨_, rfl⟩
  rw [hg1] at CC GG ⊢
  have HG1 := Lib.hid hg1
  have hlt2 : g1 + 1 < w1.heap.size := GG.out.1
  go_upto_region 1 with fail
  go_cut [3] (fun p wz => ∃ g3, p = .pointer (some ⟨g3, 0, none⟩) ∧ g1 + 1 < g3 ∧ Hid (Cs g3 wz [.int .i64 u.fq, .int .i64 u.iv, .int .i64 u.ct, .bool u.un, .int .i64 u.ua, .bool u.ut, .slice a6 u.sc.length c6, .slice a7 u.mi.length c7, .slice a8 u.hr.length c8, .slice a9 u.dy.length c9, .slice a10 u.md.length c10, .slice a11 u.yd.length c11, .slice a12 u.wn.length c12, .slice a13 u.mo.length c13, .slice a14 u.sp.length c14, .int .i64 u.wk]) ∧ Hid (Cs g1 wz [.int .i64 u.fq, .int .i64 u.iv, .int .i64 u.ct, .bool u.un, .int .i64 u.ua, .bool u.ut, .slice a6 u.sc.length c6, .slice a7 u.mi.length c7, .slice a8 u.hr.length c8, .slice a9 u.dy.length c9, .slice a10 u.md.length c10, .slice a11 u.yd.length c11, .slice a12 u.wn.length c12, .slice a13 u.mo.length c13, .slice a14 u.sp.length c14, .int .i64 u.wk]) ∧ Hid (Cs (g1 + 1) wz [.int .i64 0, .int .i64 0, .int .i64 0, .bool false, .int .i64 0, .bool false, .slice none 0 0, .slice none 0 0, .slice none 0 0, .slice none 0 0, .slice none 0 0, .slice none 0 0, .slice none 0 0, .slice none 0 0, .slice none 0 0, .int .i64 0]) ∧ Hid (Below w.heap.size w wz))
  case first =>
    go_wp2_with (refine kn_load CC.out rfl (by rfl) (by rfl) (by rfl) ?_; intro K hK; go_simp)
    go_meet
    exact ⟨_, rfl, hlt2, Lib.hid (Cs.new w1 _ _), Lib.hid (CC.out.alloc _), Lib.hid (GG.out.alloc _), Lib.hid (BB.out.alloc BB.out.size _)⟩
  case rest =>
  obtain ⟨w2, rfl⟩ : ∃ x : World, x = wc := ⟨_, rfl⟩
  clear CC GG BB hlt2
  obtain ⟨g3, rfl, hg3, EE, CC, GG, BB⟩ := hcut
  have d1 : g3 ≠ g1 := by omega
  have d2 : g3 ≠ g1 + 1 := by omega
  go_upto_region 2 with fail
  go_cut [] (fun wz => ∃ (b6 b7 b8 : Option Addr) (d6 d7 d8 : Nat) (n0 n1 n2 n3 : Nat), g3 < n0 ∧ n0 ≤ n1 ∧ n1 ≤ n2 ∧ n2 ≤ n3 ∧ n3 ≤ wz.heap.size ∧ Hid (TwR n0 n1 wz (.slice b6 u.sc.length d6) u.sc) ∧ Hid (TwR n1 n2 wz (.slice b7 u.mi.length d7) u.mi) ∧ Hid (TwR n2 n3 wz (.slice b8 u.hr.length d8) u.hr) ∧ Hid (Cs g3 wz [.int .i64 u.fq, .int .i64 u.iv, .int .i64 u.ct, .bool u.un, .int .i64 u.ua, .bool u.ut, .slice b6 u.sc.length d6, .slice b7 u.mi.length d7, .slice b8 u.hr.length d8, .slice a9 u.dy.length c9, .slice a10 u.md.length c10, .slice a11 u.yd.length c11, .slice a12 u.wn.length c12, .slice a13 u.mo.length c13, .slice a14 u.sp.length c14, .int .i64 u.wk]) ∧ Hid (Cs g1 wz [.int .i64 u.fq, .int .i64 u.iv, .int .i64 u.ct, .bool u.un, .int .i64 u.ua, .bool u.ut, .slice a6 u.sc.length c6, .slice a7 u.mi.length c7, .slice a8 u.hr.length c8, .slice a9 u.dy.length c9, .slice a10 u.md.length c10, .slice a11 u.yd.length c11, .slice a12 u.wn.length c12, .slice a13 u.mo.length c13, .slice a14 u.sp.length c14, .int .i64 u.wk]) ∧ Hid (Cs (g1 + 1) wz [.int .i64 0, .int .i64 0, .int .i64 0, .bool false, .int .i64 0, .bool false, .slice none 0 0, .slice none 0 0, .slice none 0 0, .slice none 0 0, .slice none 0 0, .slice none 0 0, .slice none 0 0, .slice none 0 0, .slice none 0 0, .int .i64 0]) ∧ Hid (Below w.heap.size w wz))
  case first =>
    have DW : Below w2.heap.size w2 w2.drew := drw (Below.refl _ _)
    have SZ := Lib.hid (CC.out.below DW)
    have EE := Lib.hid (EE.out.below DW)
    have GG := Lib.hid (GG.out.below DW)
    have BB := Lib.hid (bstep BB.out DW)
    clear CC DW
    have dz : w2.drew.heap.size = w2.heap.size := rfl
    refine Hr.Walk.region (R := fun _ x => Cs g1 x [.int .i64 u.fq, .int .i64 u.iv, .int .i64 u.ct, .bool u.un, .int .i64 u.ua, .bool u.ut, .slice a6 u.sc.length c6, .slice a7 u.mi.length c7, .slice a8 u.hr.length c8, .slice a9 u.dy.length c9, .slice a10 u.md.length c10, .slice a11 u.yd.length c11, .slice a12 u.wn.length c12, .slice a13 u.mo.length c13, .slice a14 u.sp.length c14, .int .i64 u.wk]) (by kernel_rfl) ?_
    refine Hr.Walk.take (i := 0) (v := ?v2_0) (fun x => Cs g1 x [.int .i64 u.fq, .int .i64 u.iv, .int .i64 u.ct, .bool u.un, .int .i64 u.ua, .bool u.ut, .slice a6 u.sc.length c6, .slice a7 u.mi.length c7, .slice a8 u.hr.length c8, .slice a9 u.dy.length c9, .slice a10 u.md.length c10, .slice a11 u.yd.length c11, .slice a12 u.wn.length c12, .slice a13 u.mo.length c13, .slice a14 u.sp.length c14, .int .i64 u.wk]) (fun _ => True) rfl (by kernel_rfl) (by kernel_rfl) (by kernel_rfl) (fun _ _ _ h => h) (fun _ _ _ _ _ _ => trivial) (fun _ _ _ h => h) (fun _ _ h => h) trivial (Or.inl ⟨by rfl, ?hy2_0⟩) SZ.out SZ.out ?rest2_0
    case hy2_0 => intro x hx; have q6 := (hx.2 6 _ rfl).1; have q7 := (hx.2 7 _ rfl).1; have q8 := (hx.2 8 _ rfl).1; clear hx; go_simp; try with_reducible rfl
    (try go_simp)
    refine Hr.Walk.take (i := 1) (v := ?v2_1) (fun x => Cs g1 x [.int .i64 u.fq, .int .i64 u.iv, .int .i64 u.ct, .bool u.un, .int .i64 u.ua, .bool u.ut, .slice a6 u.sc.length c6, .slice a7 u.mi.length c7, .slice a8 u.hr.length c8, .slice a9 u.dy.length c9, .slice a10 u.md.length c10, .slice a11 u.yd.length c11, .slice a12 u.wn.length c12, .slice a13 u.mo.length c13, .slice a14 u.sp.length c14, .int .i64 u.wk]) (fun _ => True) rfl (by kernel_rfl) (by kernel_rfl) (by kernel_rfl) (fun _ _ _ h => h) (fun _ _ _ _ _ _ => trivial) (fun _ _ _ h => h) (fun _ _ h => h) trivial (Or.inl ⟨by rfl, ?hy2_1⟩) SZ.out SZ.out ?rest2_1
    case hy2_1 => intro x hx; have q6 := (hx.2 6 _ rfl).1; have q7 := (hx.2 7 _ rfl).1; have q8 := (hx.2 8 _ rfl).1; clear hx; go_simp; try with_reducible rfl
    (try go_simp)
    refine Hr.Walk.take (i := 3) (v := ?v2_3) (fun x => Cs g1 x [.int .i64 u.fq, .int .i64 u.iv, .int .i64 u.ct, .bool u.un, .int .i64 u.ua, .bool u.ut, .slice a6 u.sc.length c6, .slice a7 u.mi.length c7, .slice a8 u.hr.length c8, .slice a9 u.dy.length c9, .slice a10 u.md.length c10, .slice a11 u.yd.length c11, .slice a12 u.wn.length c12, .slice a13 u.mo.length c13, .slice a14 u.sp.length c14, .int .i64 u.wk]) (fun _ => True) rfl (by kernel_rfl) (by kernel_rfl) (by kernel_rfl) (fun _ _ _ h => h) (fun _ _ _ _ _ _ => trivial) (fun _ _ _ h => h) (fun _ _ h => h) trivial (Or.inl ⟨by rfl, ?hy2_3⟩) SZ.out SZ.out ?rest2_3
    case hy2_3 => intro x hx; have q6 := (hx.2 6 _ rfl).1; have q7 := (hx.2 7 _ rfl).1; have q8 := (hx.2 8 _ rfl).1; clear hx; go_simp; try with_reducible rfl
    (try go_simp)
    refine Hr.Walk.take (i := 4) (v := ?v2_4) (fun x => Cs g1 x [.int .i64 u.fq, .int .i64 u.iv, .int .i64 u.ct, .bool u.un, .int .i64 u.ua, .bool u.ut, .slice a6 u.sc.length c6, .slice a7 u.mi.length c7, .slice a8 u.hr.length c8, .slice a9 u.dy.length c9, .slice a10 u.md.length c10, .slice a11 u.yd.length c11, .slice a12 u.wn.length c12, .slice a13 u.mo.length c13, .slice a14 u.sp.length c14, .int .i64 u.wk]) (fun _ => True) rfl (by kernel_rfl) (by kernel_rfl) (by kernel_rfl) (fun _ _ _ h => h) (fun _ _ _ _ _ _ => trivial) (fun _ _ _ h => h) (fun _ _ h => h) trivial (Or.inl ⟨by rfl, ?hy2_4⟩) SZ.out SZ.out ?rest2_4
    case hy2_4 => intro x hx; have q6 := (hx.2 6 _ rfl).1; have q7 := (hx.2 7 _ rfl).1; have q8 := (hx.2 8 _ rfl).1; clear hx; go_simp; try with_reducible rfl
    (try go_simp)
    refine Hr.Walk.take (i := 6) (v := ?v2_6) (fun x => Cs g1 x [.int .i64 u.fq, .int .i64 u.iv, .int .i64 u.ct, .bool u.un, .int .i64 u.ua, .bool u.ut, .slice a6 u.sc.length c6, .slice a7 u.mi.length c7, .slice a8 u.hr.length c8, .slice a9 u.dy.length c9, .slice a10 u.md.length c10, .slice a11 u.yd.length c11, .slice a12 u.wn.length c12, .slice a13 u.mo.length c13, .slice a14 u.sp.length c14, .int .i64 u.wk]) (fun _ => True) rfl (by kernel_rfl) (by kernel_rfl) (by kernel_rfl) (fun _ _ _ h => h) (fun _ _ _ _ _ _ => trivial) (fun _ _ _ h => h) (fun _ _ h => h) trivial (Or.inl ⟨by rfl, ?hy2_6⟩) SZ.out SZ.out ?rest2_6
    case hy2_6 => intro x hx; have q6 := (hx.2 6 _ rfl).1; have q7 := (hx.2 7 _ rfl).1; have q8 := (hx.2 8 _ rfl).1; clear hx; go_simp; try with_reducible rfl
    (try go_simp)
    refine Hr.Walk.take (i := 7) (v := ?v2_7) (fun x => Cs g1 x [.int .i64 u.fq, .int .i64 u.iv, .int .i64 u.ct, .bool u.un, .int .i64 u.ua, .bool u.ut, .slice a6 u.sc.length c6, .slice a7 u.mi.length c7, .slice a8 u.hr.length c8, .slice a9 u.dy.length c9, .slice a10 u.md.length c10, .slice a11 u.yd.length c11, .slice a12 u.wn.length c12, .slice a13 u.mo.length c13, .slice a14 u.sp.length c14, .int .i64 u.wk]) (fun _ => True) rfl (by kernel_rfl) (by kernel_rfl) (by kernel_rfl) (fun _ _ _ h => h) (fun _ _ _ _ _ _ => trivial) (fun _ _ _ h => h) (fun _ _ h => h) trivial (Or.inl ⟨by rfl, ?hy2_7⟩) SZ.out SZ.out ?rest2_7
    case hy2_7 => intro x hx; have q6 := (hx.2 6 _ rfl).1; have q7 := (hx.2 7 _ rfl).1; have q8 := (hx.2 8 _ rfl).1; clear hx; go_simp; try with_reducible rfl
    (try go_simp)
    refine Hr.Walk.one (i := 2) (by kernel_rfl) rfl (fun K hK => ?_)
    have lt6 := EE.out.1
    go_simp
    go_at_call 16
    (with_reducible refine (twini_to _ u.sc _ (L0.out.below BB.out).h6 (by omega)).mono ?_)
    rintro e v6 ⟨s6, rfl, hr, hb⟩
    obtain ⟨b6, d6, rfl⟩ := hr.forms
    have SZ := Lib.hid (SZ.out.below hb)
    have EE := Lib.hid (EE.out.below hb)
    have GG := Lib.hid (GG.out.below hb)
    have BB := Lib.hid (bstep BB.out hb)
    have Q6 := Lib.hid (TwR.new hr)
    have sz6 := hb.size
    clear hr hb
    refine hK.out _ _ SZ.out ?_
    clear hK K
    refine Hr.Walk.take (i := 9) (v := ?v2_9) (fun x => Cs g1 x [.int .i64 u.fq, .int .i64 u.iv, .int .i64 u.ct, .bool u.un, .int .i64 u.ua, .bool u.ut, .slice a6 u.sc.length c6, .slice a7 u.mi.length c7, .slice a8 u.hr.length c8, .slice a9 u.dy.length c9, .slice a10 u.md.length c10, .slice a11 u.yd.length c11, .slice a12 u.wn.length c12, .slice a13 u.mo.length c13, .slice a14 u.sp.length c14, .int .i64 u.wk]) (fun _ => True) rfl (by kernel_rfl) (by kernel_rfl) (by kernel_rfl) (fun _ _ _ h => h) (fun _ _ _ _ _ _ => trivial) (fun _ _ _ h => h) (fun _ _ h => h) trivial (Or.inl ⟨by rfl, ?hy2_9⟩) SZ.out SZ.out ?rest2_9
    case hy2_9 => intro x hx; have q6 := (hx.2 6 _ rfl).1; have q7 := (hx.2 7 _ rfl).1; have q8 := (hx.2 8 _ rfl).1; clear hx; go_simp; try with_reducible rfl
    (try go_simp)
    refine Hr.Walk.one (i := 5) (by kernel_rfl) rfl (fun K hK => ?_)
    have lt7 := EE.out.1
    go_simp
    go_at_call 16
    (with_reducible refine (twini_to _ u.mi _ (L0.out.below BB.out).h7 (by omega)).mono ?_)
    rintro e v7 ⟨s7, rfl, hr, hb⟩
    obtain ⟨b7, d7, rfl⟩ := hr.forms
    have SZ := Lib.hid (SZ.out.below hb)
    have EE := Lib.hid (EE.out.below hb)
    have GG := Lib.hid (GG.out.below hb)
    have BB := Lib.hid (bstep BB.out hb)
    have Q6 := Lib.hid (Q6.out.below hb)
    have Q7 := Lib.hid (TwR.new hr)
    have sz7 := hb.size
    clear hr hb
    refine hK.out _ _ SZ.out ?_
    clear hK K
    refine Hr.Walk.one (i := 8) (by kernel_rfl) rfl (fun K hK => ?_)
    have lt8 := EE.out.1
    go_simp
    go_at_call 16
    (with_reducible refine (twini_to _ u.hr _ (L0.out.below BB.out).h8 (by omega)).mono ?_)
    rintro e v8 ⟨s8, rfl, hr, hb⟩
    obtain ⟨b8, d8, rfl⟩ := hr.forms
    have SZ := Lib.hid (SZ.out.below hb)
    have EE := Lib.hid (EE.out.below hb)
    have GG := Lib.hid (GG.out.below hb)
    have BB := Lib.hid (bstep BB.out hb)
    have Q6 := Lib.hid (Q6.out.below hb)
    have Q7 := Lib.hid (Q7.out.below hb)
    have Q8 := Lib.hid (TwR.new hr)
    have sz8 := hb.size
    clear hr hb
    refine hK.out _ _ SZ.out ?_
    clear hK K
    refine Hr.Walk.one (i := 10) (by kernel_rfl) rfl (fun K hK => ?_)
    have e0 := (EE.out.2 6 _ rfl).1
    have f0 := (EE.out.2 6 _ rfl).2
    go_simp
    clear e0 f0
    have D := EE.out.set 6 (by simp) (.slice b6 u.sc.length d6)
    simp only [List.set_cons_succ, List.set_cons_zero] at D
    have EE := Lib.hid D
    clear D
    have SZ := Lib.hid (SZ.out.other (i := 6) d1 (.slice b6 u.sc.length d6))
    have GG := Lib.hid (GG.out.other (i := 6) d2 (.slice b6 u.sc.length d6))
    have BB := Lib.hid (BB.out.setCell (p := ⟨g3, 6, none⟩) (by show w.heap.size ≤ g3; have := HG1.out; omega) (.slice b6 u.sc.length d6))
    have Q6 := Lib.hid (Q6.out.cell (g := g3) (i := 6) (by omega) (.slice b6 u.sc.length d6))
    have Q7 := Lib.hid (Q7.out.cell (g := g3) (i := 6) (by omega) (.slice b6 u.sc.length d6))
    have Q8 := Lib.hid (Q8.out.cell (g := g3) (i := 6) (by omega) (.slice b6 u.sc.length d6))
    refine hK.out _ _ SZ.out ?_
    clear hK K
    refine Hr.Walk.one (i := 11) (by kernel_rfl) rfl (fun K hK => ?_)
    go_simp
    refine hK.out _ _ SZ.out ?_
    clear hK K
    refine Hr.Walk.one (i := 12) (by kernel_rfl) rfl (fun K hK => ?_)
    have e0 := (EE.out.2 7 _ rfl).1
    have f0 := (EE.out.2 7 _ rfl).2
    go_simp
    clear e0 f0
    have D := EE.out.set 7 (by simp) (.slice b7 u.mi.length d7)
    simp only [List.set_cons_succ, List.set_cons_zero] at D
    have EE := Lib.hid D
    clear D
    have SZ := Lib.hid (SZ.out.other (i := 7) d1 (.slice b7 u.mi.length d7))
    have GG := Lib.hid (GG.out.other (i := 7) d2 (.slice b7 u.mi.length d7))
    have BB := Lib.hid (BB.out.setCell (p := ⟨g3, 7, none⟩) (by show w.heap.size ≤ g3; have := HG1.out; omega) (.slice b7 u.mi.length d7))
    have Q6 := Lib.hid (Q6.out.cell (g := g3) (i := 7) (by omega) (.slice b7 u.mi.length d7))
    have Q7 := Lib.hid (Q7.out.cell (g := g3) (i := 7) (by omega) (.slice b7 u.mi.length d7))
    have Q8 := Lib.hid (Q8.out.cell (g := g3) (i := 7) (by omega) (.slice b7 u.mi.length d7))
    refine hK.out _ _ SZ.out ?_
    clear hK K
    refine Hr.Walk.one (i := 13) (by kernel_rfl) rfl (fun K hK => ?_)
    go_simp
    refine hK.out _ _ SZ.out ?_
    clear hK K
    refine Hr.Walk.one (i := 14) (by kernel_rfl) rfl (fun K hK => ?_)
    have e0 := (EE.out.2 8 _ rfl).1
    have f0 := (EE.out.2 8 _ rfl).2
    go_simp
    clear e0 f0
    have D := EE.out.set 8 (by simp) (.slice b8 u.hr.length d8)
    simp only [List.set_cons_succ, List.set_cons_zero] at D
    have EE := Lib.hid D
    clear D
    have SZ := Lib.hid (SZ.out.other (i := 8) d1 (.slice b8 u.hr.length d8))
    have GG := Lib.hid (GG.out.other (i := 8) d2 (.slice b8 u.hr.length d8))
    have BB := Lib.hid (BB.out.setCell (p := ⟨g3, 8, none⟩) (by show w.heap.size ≤ g3; have := HG1.out; omega) (.slice b8 u.hr.length d8))
    have Q6 := Lib.hid (Q6.out.cell (g := g3) (i := 8) (by omega) (.slice b8 u.hr.length d8))
    have Q7 := Lib.hid (Q7.out.cell (g := g3) (i := 8) (by omega) (.slice b8 u.hr.length d8))
    have Q8 := Lib.hid (Q8.out.cell (g := g3) (i := 8) (by omega) (.slice b8 u.hr.length d8))
    refine hK.out _ _ SZ.out ?_
    clear hK K
    refine Hr.Walk.done (by kernel_rfl) ?_ _
    go_wp2
    go_meet
    exact ⟨b6, b7, b8, d6, d7, d8, _, _, _, _, by omega, by omega, by omega, by omega, by simp [World.setCell], Q6, Q7, Q8, EE, SZ, GG, BB⟩
  case rest =>
  obtain ⟨w3, rfl⟩ : ∃ x : World, x = wc := ⟨_, rfl⟩
  clear CC GG BB EE
  obtain ⟨b6, b7, b8, d6, d7, d8, n0, n1, n2, n3, m0, m1, m2, m3, tp2, Q6, Q7, Q8, EE, CC, GG, BB⟩ := hcut
  go_upto_region 3 with fail
  go_cut [] (fun wz => ∃ (b10 b11 b12 : Option Addr) (d10 d11 d12 : Nat) (n4 n5 n6 : Nat), n3 ≤ n4 ∧ n4 ≤ n5 ∧ n5 ≤ n6 ∧ n6 ≤ wz.heap.size ∧ Hid (TwR n0 n1 wz (.slice b6 u.sc.length d6) u.sc) ∧ Hid (TwR n1 n2 wz (.slice b7 u.mi.length d7) u.mi) ∧ Hid (TwR n2 n3 wz (.slice b8 u.hr.length d8) u.hr) ∧ Hid (TwR n3 n4 wz (.slice b10 u.md.length d10) u.md) ∧ Hid (TwR n4 n5 wz (.slice b11 u.yd.length d11) u.yd) ∧ Hid (TwR n5 n6 wz (.slice b12 u.wn.length d12) u.wn) ∧ Hid (Cs g3 wz [.int .i64 u.fq, .int .i64 u.iv, .int .i64 u.ct, .bool u.un, .int .i64 u.ua, .bool u.ut, .slice b6 u.sc.length d6, .slice b7 u.mi.length d7, .slice b8 u.hr.length d8, .slice a9 u.dy.length c9, .slice b10 u.md.length d10, .slice b11 u.yd.length d11, .slice b12 u.wn.length d12, .slice a13 u.mo.length c13, .slice a14 u.sp.length c14, .int .i64 u.wk]) ∧ Hid (Cs g1 wz [.int .i64 u.fq, .int .i64 u.iv, .int .i64 u.ct, .bool u.un, .int .i64 u.ua, .bool u.ut, .slice a6 u.sc.length c6, .slice a7 u.mi.length c7, .slice a8 u.hr.length c8, .slice a9 u.dy.length c9, .slice a10 u.md.length c10, .slice a11 u.yd.length c11, .slice a12 u.wn.length c12, .slice a13 u.mo.length c13, .slice a14 u.sp.length c14, .int .i64 u.wk]) ∧ Hid (Cs (g1 + 1) wz [.int .i64 0, .int .i64 0, .int .i64 0, .bool false, .int .i64 0, .bool false, .slice none 0 0, .slice none 0 0, .slice none 0 0, .slice none 0 0, .slice none 0 0, .slice none 0 0, .slice none 0 0, .slice none 0 0, .slice none 0 0, .int .i64 0]) ∧ Hid (Below w.heap.size w wz))
  case first =>
    have DW : Below w3.heap.size w3 w3.drew := drw (Below.refl _ _)
    have SZ := Lib.hid (CC.out.below DW)
    have EE := Lib.hid (EE.out.below DW)
    have GG := Lib.hid (GG.out.below DW)
    have BB := Lib.hid (bstep BB.out DW)
    have Q6 := Lib.hid (Q6.out.below DW)
    have Q7 := Lib.hid (Q7.out.below DW)
    have Q8 := Lib.hid (Q8.out.below DW)
    clear CC DW
    have dz : w3.drew.heap.size = w3.heap.size := rfl
    refine Hr.Walk.region (R := fun _ x => Cs g1 x [.int .i64 u.fq, .int .i64 u.iv, .int .i64 u.ct, .bool u.un, .int .i64 u.ua, .bool u.ut, .slice a6 u.sc.length c6, .slice a7 u.mi.length c7, .slice a8 u.hr.length c8, .slice a9 u.dy.length c9, .slice a10 u.md.length c10, .slice a11 u.yd.length c11, .slice a12 u.wn.length c12, .slice a13 u.mo.length c13, .slice a14 u.sp.length c14, .int .i64 u.wk]) (by kernel_rfl) ?_
    refine Hr.Walk.take (i := 0) (v := ?v3_0) (fun x => Cs g1 x [.int .i64 u.fq, .int .i64 u.iv, .int .i64 u.ct, .bool u.un, .int .i64 u.ua, .bool u.ut, .slice a6 u.sc.length c6, .slice a7 u.mi.length c7, .slice a8 u.hr.length c8, .slice a9 u.dy.length c9, .slice a10 u.md.length c10, .slice a11 u.yd.length c11, .slice a12 u.wn.length c12, .slice a13 u.mo.length c13, .slice a14 u.sp.length c14, .int .i64 u.wk]) (fun _ => True) rfl (by kernel_rfl) (by kernel_rfl) (by kernel_rfl) (fun _ _ _ h => h) (fun _ _ _ _ _ _ => trivial) (fun _ _ _ h => h) (fun _ _ h => h) trivial (Or.inl ⟨by rfl, ?hy3_0⟩) SZ.out SZ.out ?rest3_0
    case hy3_0 => intro x hx; have q10 := (hx.2 10 _ rfl).1; have q11 := (hx.2 11 _ rfl).1; have q12 := (hx.2 12 _ rfl).1; clear hx; go_simp; try with_reducible rfl
    (try go_simp)
    refine Hr.Walk.take (i := 1) (v := ?v3_1) (fun x => Cs g1 x [.int .i64 u.fq, .int .i64 u.iv, .int .i64 u.ct, .bool u.un, .int .i64 u.ua, .bool u.ut, .slice a6 u.sc.length c6, .slice a7 u.mi.length c7, .slice a8 u.hr.length c8, .slice a9 u.dy.length c9, .slice a10 u.md.length c10, .slice a11 u.yd.length c11, .slice a12 u.wn.length c12, .slice a13 u.mo.length c13, .slice a14 u.sp.length c14, .int .i64 u.wk]) (fun _ => True) rfl (by kernel_rfl) (by kernel_rfl) (by kernel_rfl) (fun _ _ _ h => h) (fun _ _ _ _ _ _ => trivial) (fun _ _ _ h => h) (fun _ _ h => h) trivial (Or.inl ⟨by rfl, ?hy3_1⟩) SZ.out SZ.out ?rest3_1
    case hy3_1 => intro x hx; have q10 := (hx.2 10 _ rfl).1; have q11 := (hx.2 11 _ rfl).1; have q12 := (hx.2 12 _ rfl).1; clear hx; go_simp; try with_reducible rfl
    (try go_simp)
    refine Hr.Walk.take (i := 3) (v := ?v3_3) (fun x => Cs g1 x [.int .i64 u.fq, .int .i64 u.iv, .int .i64 u.ct, .bool u.un, .int .i64 u.ua, .bool u.ut, .slice a6 u.sc.length c6, .slice a7 u.mi.length c7, .slice a8 u.hr.length c8, .slice a9 u.dy.length c9, .slice a10 u.md.length c10, .slice a11 u.yd.length c11, .slice a12 u.wn.length c12, .slice a13 u.mo.length c13, .slice a14 u.sp.length c14, .int .i64 u.wk]) (fun _ => True) rfl (by kernel_rfl) (by kernel_rfl) (by kernel_rfl) (fun _ _ _ h => h) (fun _ _ _ _ _ _ => trivial) (fun _ _ _ h => h) (fun _ _ h => h) trivial (Or.inl ⟨by rfl, ?hy3_3⟩) SZ.out SZ.out ?rest3_3
    case hy3_3 => intro x hx; have q10 := (hx.2 10 _ rfl).1; have q11 := (hx.2 11 _ rfl).1; have q12 := (hx.2 12 _ rfl).1; clear hx; go_simp; try with_reducible rfl
    (try go_simp)
    refine Hr.Walk.take (i := 4) (v := ?v3_4) (fun x => Cs g1 x [.int .i64 u.fq, .int .i64 u.iv, .int .i64 u.ct, .bool u.un, .int .i64 u.ua, .bool u.ut, .slice a6 u.sc.length c6, .slice a7 u.mi.length c7, .slice a8 u.hr.length c8, .slice a9 u.dy.length c9, .slice a10 u.md.length c10, .slice a11 u.yd.length c11, .slice a12 u.wn.length c12, .slice a13 u.mo.length c13, .slice a14 u.sp.length c14, .int .i64 u.wk]) (fun _ => True) rfl (by kernel_rfl) (by kernel_rfl) (by kernel_rfl) (fun _ _ _ h => h) (fun _ _ _ _ _ _ => trivial) (fun _ _ _ h => h) (fun _ _ h => h) trivial (Or.inl ⟨by rfl, ?hy3_4⟩) SZ.out SZ.out ?rest3_4
    case hy3_4 => intro x hx; have q10 := (hx.2 10 _ rfl).1; have q11 := (hx.2 11 _ rfl).1; have q12 := (hx.2 12 _ rfl).1; clear hx; go_simp; try with_reducible rfl
    (try go_simp)
    refine Hr.Walk.take (i := 6) (v := ?v3_6) (fun x => Cs g1 x [.int .i64 u.fq, .int .i64 u.iv, .int .i64 u.ct, .bool u.un, .int .i64 u.ua, .bool u.ut, .slice a6 u.sc.length c6, .slice a7 u.mi.length c7, .slice a8 u.hr.length c8, .slice a9 u.dy.length c9, .slice a10 u.md.length c10, .slice a11 u.yd.length c11, .slice a12 u.wn.length c12, .slice a13 u.mo.length c13, .slice a14 u.sp.length c14, .int .i64 u.wk]) (fun _ => True) rfl (by kernel_rfl) (by kernel_rfl) (by kernel_rfl) (fun _ _ _ h => h) (fun _ _ _ _ _ _ => trivial) (fun _ _ _ h => h) (fun _ _ h => h) trivial (Or.inl ⟨by rfl, ?hy3_6⟩) SZ.out SZ.out ?rest3_6
    case hy3_6 => intro x hx; have q10 := (hx.2 10 _ rfl).1; have q11 := (hx.2 11 _ rfl).1; have q12 := (hx.2 12 _ rfl).1; clear hx; go_simp; try with_reducible rfl
    (try go_simp)
    refine Hr.Walk.take (i := 7) (v := ?v3_7) (fun x => Cs g1 x [.int .i64 u.fq, .int .i64 u.iv, .int .i64 u.ct, .bool u.un, .int .i64 u.ua, .bool u.ut, .slice a6 u.sc.length c6, .slice a7 u.mi.length c7, .slice a8 u.hr.length c8, .slice a9 u.dy.length c9, .slice a10 u.md.length c10, .slice a11 u.yd.length c11, .slice a12 u.wn.length c12, .slice a13 u.mo.length c13, .slice a14 u.sp.length c14, .int .i64 u.wk]) (fun _ => True) rfl (by kernel_rfl) (by kernel_rfl) (by kernel_rfl) (fun _ _ _ h => h) (fun _ _ _ _ _ _ => trivial) (fun _ _ _ h => h) (fun _ _ h => h) trivial (Or.inl ⟨by rfl, ?hy3_7⟩) SZ.out SZ.out ?rest3_7
    case hy3_7 => intro x hx; have q10 := (hx.2 10 _ rfl).1; have q11 := (hx.2 11 _ rfl).1; have q12 := (hx.2 12 _ rfl).1; clear hx; go_simp; try with_reducible rfl
    (try go_simp)
    refine Hr.Walk.one (i := 2) (by kernel_rfl) rfl (fun K hK => ?_)
    have lt10 := EE.out.1
    go_simp
    go_at_call 16
    (with_reducible refine (twini_to _ u.md _ (L0.out.below BB.out).h10 (by omega)).mono ?_)
    rintro e v10 ⟨s10, rfl, hr, hb⟩
    obtain ⟨b10, d10, rfl⟩ := hr.forms
    have SZ := Lib.hid (SZ.out.below hb)
    have EE := Lib.hid (EE.out.below hb)
    have GG := Lib.hid (GG.out.below hb)
    have BB := Lib.hid (bstep BB.out hb)
    have Q6 := Lib.hid (Q6.out.below hb)
    have Q7 := Lib.hid (Q7.out.below hb)
    have Q8 := Lib.hid (Q8.out.below hb)
    have Q10 := Lib.hid (TwR.new hr)
    have sz10 := hb.size
    clear hr hb
    refine hK.out _ _ SZ.out ?_
    clear hK K
    refine Hr.Walk.take (i := 9) (v := ?v3_9) (fun x => Cs g1 x [.int .i64 u.fq, .int .i64 u.iv, .int .i64 u.ct, .bool u.un, .int .i64 u.ua, .bool u.ut, .slice a6 u.sc.length c6, .slice a7 u.mi.length c7, .slice a8 u.hr.length c8, .slice a9 u.dy.length c9, .slice a10 u.md.length c10, .slice a11 u.yd.length c11, .slice a12 u.wn.length c12, .slice a13 u.mo.length c13, .slice a14 u.sp.length c14, .int .i64 u.wk]) (fun _ => True) rfl (by kernel_rfl) (by kernel_rfl) (by kernel_rfl) (fun _ _ _ h => h) (fun _ _ _ _ _ _ => trivial) (fun _ _ _ h => h) (fun _ _ h => h) trivial (Or.inl ⟨by rfl, ?hy3_9⟩) SZ.out SZ.out ?rest3_9
    case hy3_9 => intro x hx; have q10 := (hx.2 10 _ rfl).1; have q11 := (hx.2 11 _ rfl).1; have q12 := (hx.2 12 _ rfl).1; clear hx; go_simp; try with_reducible rfl
    (try go_simp)
    refine Hr.Walk.one (i := 5) (by kernel_rfl) rfl (fun K hK => ?_)
    have lt11 := EE.out.1
    go_simp
    go_at_call 16
    (with_reducible refine (twini_to _ u.yd _ (L0.out.below BB.out).h11 (by omega)).mono ?_)
    rintro e v11 ⟨s11, rfl, hr, hb⟩
    obtain ⟨b11, d11, rfl⟩ := hr.forms
    have SZ := Lib.hid (SZ.out.below hb)
    have EE := Lib.hid (EE.out.below hb)
    have GG := Lib.hid (GG.out.below hb)
    have BB := Lib.hid (bstep BB.out hb)
    have Q6 := Lib.hid (Q6.out.below hb)
    have Q7 := Lib.hid (Q7.out.below hb)
    have Q8 := Lib.hid (Q8.out.below hb)
    have Q10 := Lib.hid (Q10.out.below hb)
    have Q11 := Lib.hid (TwR.new hr)
    have sz11 := hb.size
    clear hr hb
    refine hK.out _ _ SZ.out ?_
    clear hK K
    refine Hr.Walk.one (i := 8) (by kernel_rfl) rfl (fun K hK => ?_)
    have lt12 := EE.out.1
    go_simp
    go_at_call 16
    (with_reducible refine (twini_to _ u.wn _ (L0.out.below BB.out).h12 (by omega)).mono ?_)
    rintro e v12 ⟨s12, rfl, hr, hb⟩
    obtain ⟨b12, d12, rfl⟩ := hr.forms
    have SZ := Lib.hid (SZ.out.below hb)
    have EE := Lib.hid (EE.out.below hb)
    have GG := Lib.hid (GG.out.below hb)
    have BB := Lib.hid (bstep BB.out hb)
    have Q6 := Lib.hid (Q6.out.below hb)
    have Q7 := Lib.hid (Q7.out.below hb)
    have Q8 := Lib.hid (Q8.out.below hb)
    have Q10 := Lib.hid (Q10.out.below hb)
    have Q11 := Lib.hid (Q11.out.below hb)
    have Q12 := Lib.hid (TwR.new hr)
    have sz12 := hb.size
    clear hr hb
    refine hK.out _ _ SZ.out ?_
    clear hK K
    refine Hr.Walk.one (i := 10) (by kernel_rfl) rfl (fun K hK => ?_)
    have e0 := (EE.out.2 10 _ rfl).1
    have f0 := (EE.out.2 10 _ rfl).2
    go_simp
    clear e0 f0
    have D := EE.out.set 10 (by simp) (.slice b10 u.md.length d10)
    simp only [List.set_cons_succ, List.set_cons_zero] at D
    have EE := Lib.hid D
    clear D
    have SZ := Lib.hid (SZ.out.other (i := 10) d1 (.slice b10 u.md.length d10))
    have GG := Lib.hid (GG.out.other (i := 10) d2 (.slice b10 u.md.length d10))
    have BB := Lib.hid (BB.out.setCell (p := ⟨g3, 10, none⟩) (by show w.heap.size ≤ g3; have := HG1.out; omega) (.slice b10 u.md.length d10))
    have Q6 := Lib.hid (Q6.out.cell (g := g3) (i := 10) (by omega) (.slice b10 u.md.length d10))
    have Q7 := Lib.hid (Q7.out.cell (g := g3) (i := 10) (by omega) (.slice b10 u.md.length d10))
    have Q8 := Lib.hid (Q8.out.cell (g := g3) (i := 10) (by omega) (.slice b10 u.md.length d10))
    have Q10 := Lib.hid (Q10.out.cell (g := g3) (i := 10) (by omega) (.slice b10 u.md.length d10))
    have Q11 := Lib.hid (Q11.out.cell (g := g3) (i := 10) (by omega) (.slice b10 u.md.length d10))
    have Q12 := Lib.hid (Q12.out.cell (g := g3) (i := 10) (by omega) (.slice b10 u.md.length d10))
    refine hK.out _ _ SZ.out ?_
    clear hK K
    refine Hr.Walk.one (i := 11) (by kernel_rfl) rfl (fun K hK => ?_)
    go_simp
    refine hK.out _ _ SZ.out ?_
    clear hK K
    refine Hr.Walk.one (i := 12) (by kernel_rfl) rfl (fun K hK => ?_)
    have e0 := (EE.out.2 11 _ rfl).1
    have f0 := (EE.out.2 11 _ rfl).2
    go_simp
    clear e0 f0
    have D := EE.out.set 11 (by simp) (.slice b11 u.yd.length d11)
    simp only [List.set_cons_succ, List.set_cons_zero] at D
    have EE := Lib.hid D
    clear D
    have SZ := Lib.hid (SZ.out.other (i := 11) d1 (.slice b11 u.yd.length d11))
    have GG := Lib.hid (GG.out.other (i := 11) d2 (.slice b11 u.yd.length d11))
    have BB := Lib.hid (BB.out.setCell (p := ⟨g3, 11, none⟩) (by show w.heap.size ≤ g3; have := HG1.out; omega) (.slice b11 u.yd.length d11))
    have Q6 := Lib.hid (Q6.out.cell (g := g3) (i := 11) (by omega) (.slice b11 u.yd.length d11))
    have Q7 := Lib.hid (Q7.out.cell (g := g3) (i := 11) (by omega) (.slice b11 u.yd.length d11))
    have Q8 := Lib.hid (Q8.out.cell (g := g3) (i := 11) (by omega) (.slice b11 u.yd.length d11))
    have Q10 := Lib.hid (Q10.out.cell (g := g3) (i := 11) (by omega) (.slice b11 u.yd.length d11))
    have Q11 := Lib.hid (Q11.out.cell (g := g3) (i := 11) (by omega) (.slice b11 u.yd.length d11))
    have Q12 := Lib.hid (Q12.out.cell (g := g3) (i := 11) (by omega) (.slice b11 u.yd.length d11))
    refine hK.out _ _ SZ.out ?_
    clear hK K
    refine Hr.Walk.one (i := 13) (by kernel_rfl) rfl (fun K hK => ?_)
    go_simp
    refine hK.out _ _ SZ.out ?_
    clear hK K
    refine Hr.Walk.one (i := 14) (by kernel_rfl) rfl (fun K hK => ?_)
    have e0 := (EE.out.2 12 _ rfl).1
    have f0 := (EE.out.2 12 _ rfl).2
    go_simp
    clear e0 f0
    have D := EE.out.set 12 (by simp) (.slice b12 u.wn.length d12)
    simp only [List.set_cons_succ, List.set_cons_zero] at D
    have EE := Lib.hid D
    clear D
    have SZ := Lib.hid (SZ.out.other (i := 12) d1 (.slice b12 u.wn.length d12))
    have GG := Lib.hid (GG.out.other (i := 12) d2 (.slice b12 u.wn.length d12))
    have BB := Lib.hid (BB.out.setCell (p := ⟨g3, 12, none⟩) (by show w.heap.size ≤ g3; have := HG1.out; omega) (.slice b12 u.wn.length d12))
    have Q6 := Lib.hid (Q6.out.cell (g := g3) (i := 12) (by omega) (.slice b12 u.wn.length d12))
    have Q7 := Lib.hid (Q7.out.cell (g := g3) (i := 12) (by omega) (.slice b12 u.wn.length d12))
    have Q8 := Lib.hid (Q8.out.cell (g := g3) (i := 12) (by omega) (.slice b12 u.wn.length d12))
    have Q10 := Lib.hid (Q10.out.cell (g := g3) (i := 12) (by omega) (.slice b12 u.wn.length d12))
    have Q11 := Lib.hid (Q11.out.cell (g := g3) (i := 12) (by omega) (.slice b12 u.wn.length d12))
    have Q12 := Lib.hid (Q12.out.cell (g := g3) (i := 12) (by omega) (.slice b12 u.wn.length d12))
    refine hK.out _ _ SZ.out ?_
    clear hK K
    refine Hr.Walk.done (by kernel_rfl) ?_ _
    go_wp2
    go_meet
    exact ⟨b10, b11, b12, d10, d11, d12, _, _, _, by omega, by omega, by omega, by simp [World.setCell], Q6, Q7, Q8, Lib.hid (Q10.out.less (by show n3 ≤ w3.heap.size; omega)), Q11, Q12, EE, SZ, GG, BB⟩
  case rest =>
  obtain ⟨w4, rfl⟩ : ∃ x : World, x = wc := ⟨_, rfl⟩
  clear CC GG BB EE Q6 Q7 Q8
  obtain ⟨b10, b11, b12, d10, d11, d12, n4, n5, n6, m4, m5, m6, tp3, Q6, Q7, Q8, Q10, Q11, Q12, EE, CC, GG, BB⟩ := hcut
  go_upto_region 4 with fail
  go_cut [] (fun wz => ∃ (b13 b14 : Option Addr) (d13 d14 : Nat) (n7 n8 : Nat), n6 ≤ n7 ∧ n7 ≤ n8 ∧ n8 ≤ wz.heap.size ∧ Hid (TwR n0 n1 wz (.slice b6 u.sc.length d6) u.sc) ∧ Hid (TwR n1 n2 wz (.slice b7 u.mi.length d7) u.mi) ∧ Hid (TwR n2 n3 wz (.slice b8 u.hr.length d8) u.hr) ∧ Hid (TwR n3 n4 wz (.slice b10 u.md.length d10) u.md) ∧ Hid (TwR n4 n5 wz (.slice b11 u.yd.length d11) u.yd) ∧ Hid (TwR n5 n6 wz (.slice b12 u.wn.length d12) u.wn) ∧ Hid (TwR n6 n7 wz (.slice b13 u.mo.length d13) u.mo) ∧ Hid (TwR n7 n8 wz (.slice b14 u.sp.length d14) u.sp) ∧ Hid (Cs g3 wz [.int .i64 u.fq, .int .i64 u.iv, .int .i64 u.ct, .bool u.un, .int .i64 u.ua, .bool u.ut, .slice b6 u.sc.length d6, .slice b7 u.mi.length d7, .slice b8 u.hr.length d8, .slice none 0 0, .slice b10 u.md.length d10, .slice b11 u.yd.length d11, .slice b12 u.wn.length d12, .slice b13 u.mo.length d13, .slice b14 u.sp.length d14, .int .i64 u.wk]) ∧ Hid (Cs g1 wz [.int .i64 u.fq, .int .i64 u.iv, .int .i64 u.ct, .bool u.un, .int .i64 u.ua, .bool u.ut, .slice a6 u.sc.length c6, .slice a7 u.mi.length c7, .slice a8 u.hr.length c8, .slice a9 u.dy.length c9, .slice a10 u.md.length c10, .slice a11 u.yd.length c11, .slice a12 u.wn.length c12, .slice a13 u.mo.length c13, .slice a14 u.sp.length c14, .int .i64 u.wk]) ∧ Hid (Cs (g1 + 1) wz [.int .i64 0, .int .i64 0, .int .i64 0, .bool false, .int .i64 0, .bool false, .slice none 0 0, .slice none 0 0, .slice none 0 0, .slice none 0 0, .slice none 0 0, .slice none 0 0, .slice none 0 0, .slice none 0 0, .slice none 0 0, .int .i64 0]) ∧ Hid (Below w.heap.size w wz))
  case first =>
    have DW : Below w4.heap.size w4 w4.drew := drw (Below.refl _ _)
    have SZ := Lib.hid (CC.out.below DW)
    have EE := Lib.hid (EE.out.below DW)
    have GG := Lib.hid (GG.out.below DW)
    have BB := Lib.hid (bstep BB.out DW)
    have Q6 := Lib.hid (Q6.out.below DW)
    have Q7 := Lib.hid (Q7.out.below DW)
    have Q8 := Lib.hid (Q8.out.below DW)
    have Q10 := Lib.hid (Q10.out.below DW)
    have Q11 := Lib.hid (Q11.out.below DW)
    have Q12 := Lib.hid (Q12.out.below DW)
    clear CC DW
    have dz : w4.drew.heap.size = w4.heap.size := rfl
    refine Hr.Walk.region (R := fun _ x => Cs g1 x [.int .i64 u.fq, .int .i64 u.iv, .int .i64 u.ct, .bool u.un, .int .i64 u.ua, .bool u.ut, .slice a6 u.sc.length c6, .slice a7 u.mi.length c7, .slice a8 u.hr.length c8, .slice a9 u.dy.length c9, .slice a10 u.md.length c10, .slice a11 u.yd.length c11, .slice a12 u.wn.length c12, .slice a13 u.mo.length c13, .slice a14 u.sp.length c14, .int .i64 u.wk]) (by kernel_rfl) ?_
    refine Hr.Walk.take (i := 0) (v := ?v4_0) (fun x => Cs g1 x [.int .i64 u.fq, .int .i64 u.iv, .int .i64 u.ct, .bool u.un, .int .i64 u.ua, .bool u.ut, .slice a6 u.sc.length c6, .slice a7 u.mi.length c7, .slice a8 u.hr.length c8, .slice a9 u.dy.length c9, .slice a10 u.md.length c10, .slice a11 u.yd.length c11, .slice a12 u.wn.length c12, .slice a13 u.mo.length c13, .slice a14 u.sp.length c14, .int .i64 u.wk]) (fun _ => True) rfl (by kernel_rfl) (by kernel_rfl) (by kernel_rfl) (fun _ _ _ h => h) (fun _ _ _ _ _ _ => trivial) (fun _ _ _ h => h) (fun _ _ h => h) trivial (Or.inl ⟨by rfl, ?hy4_0⟩) SZ.out SZ.out ?rest4_0
    case hy4_0 => intro x hx; have q13 := (hx.2 13 _ rfl).1; have q14 := (hx.2 14 _ rfl).1; clear hx; go_simp; try with_reducible rfl
    (try go_simp)
    refine Hr.Walk.take (i := 1) (v := ?v4_1) (fun x => Cs g1 x [.int .i64 u.fq, .int .i64 u.iv, .int .i64 u.ct, .bool u.un, .int .i64 u.ua, .bool u.ut, .slice a6 u.sc.length c6, .slice a7 u.mi.length c7, .slice a8 u.hr.length c8, .slice a9 u.dy.length c9, .slice a10 u.md.length c10, .slice a11 u.yd.length c11, .slice a12 u.wn.length c12, .slice a13 u.mo.length c13, .slice a14 u.sp.length c14, .int .i64 u.wk]) (fun _ => True) rfl (by kernel_rfl) (by kernel_rfl) (by kernel_rfl) (fun _ _ _ h => h) (fun _ _ _ _ _ _ => trivial) (fun _ _ _ h => h) (fun _ _ h => h) trivial (Or.inl ⟨by rfl, ?hy4_1⟩) SZ.out SZ.out ?rest4_1
    case hy4_1 => intro x hx; have q13 := (hx.2 13 _ rfl).1; have q14 := (hx.2 14 _ rfl).1; clear hx; go_simp; try with_reducible rfl
    (try go_simp)
    refine Hr.Walk.take (i := 3) (v := ?v4_3) (fun x => Cs g1 x [.int .i64 u.fq, .int .i64 u.iv, .int .i64 u.ct, .bool u.un, .int .i64 u.ua, .bool u.ut, .slice a6 u.sc.length c6, .slice a7 u.mi.length c7, .slice a8 u.hr.length c8, .slice a9 u.dy.length c9, .slice a10 u.md.length c10, .slice a11 u.yd.length c11, .slice a12 u.wn.length c12, .slice a13 u.mo.length c13, .slice a14 u.sp.length c14, .int .i64 u.wk]) (fun _ => True) rfl (by kernel_rfl) (by kernel_rfl) (by kernel_rfl) (fun _ _ _ h => h) (fun _ _ _ _ _ _ => trivial) (fun _ _ _ h => h) (fun _ _ h => h) trivial (Or.inl ⟨by rfl, ?hy4_3⟩) SZ.out SZ.out ?rest4_3
    case hy4_3 => intro x hx; have q13 := (hx.2 13 _ rfl).1; have q14 := (hx.2 14 _ rfl).1; clear hx; go_simp; try with_reducible rfl
    (try go_simp)
    refine Hr.Walk.take (i := 4) (v := ?v4_4) (fun x => Cs g1 x [.int .i64 u.fq, .int .i64 u.iv, .int .i64 u.ct, .bool u.un, .int .i64 u.ua, .bool u.ut, .slice a6 u.sc.length c6, .slice a7 u.mi.length c7, .slice a8 u.hr.length c8, .slice a9 u.dy.length c9, .slice a10 u.md.length c10, .slice a11 u.yd.length c11, .slice a12 u.wn.length c12, .slice a13 u.mo.length c13, .slice a14 u.sp.length c14, .int .i64 u.wk]) (fun _ => True) rfl (by kernel_rfl) (by kernel_rfl) (by kernel_rfl) (fun _ _ _ h => h) (fun _ _ _ _ _ _ => trivial) (fun _ _ _ h => h) (fun _ _ h => h) trivial (Or.inl ⟨by rfl, ?hy4_4⟩) SZ.out SZ.out ?rest4_4
    case hy4_4 => intro x hx; have q13 := (hx.2 13 _ rfl).1; have q14 := (hx.2 14 _ rfl).1; clear hx; go_simp; try with_reducible rfl
    (try go_simp)
    refine Hr.Walk.one (i := 2) (by kernel_rfl) rfl (fun K hK => ?_)
    have lt13 := EE.out.1
    go_simp
    go_at_call 16
    (with_reducible refine (twini_to _ u.mo _ (L0.out.below BB.out).h13 (by omega)).mono ?_)
    rintro e v13 ⟨s13, rfl, hr, hb⟩
    obtain ⟨b13, d13, rfl⟩ := hr.forms
    have SZ := Lib.hid (SZ.out.below hb)
    have EE := Lib.hid (EE.out.below hb)
    have GG := Lib.hid (GG.out.below hb)
    have BB := Lib.hid (bstep BB.out hb)
    have Q6 := Lib.hid (Q6.out.below hb)
    have Q7 := Lib.hid (Q7.out.below hb)
    have Q8 := Lib.hid (Q8.out.below hb)
    have Q10 := Lib.hid (Q10.out.below hb)
    have Q11 := Lib.hid (Q11.out.below hb)
    have Q12 := Lib.hid (Q12.out.below hb)
    have Q13 := Lib.hid (TwR.new hr)
    have sz13 := hb.size
    clear hr hb
    refine hK.out _ _ SZ.out ?_
    clear hK K
    refine Hr.Walk.take (i := 6) (v := ?v4_6) (fun x => Cs g1 x [.int .i64 u.fq, .int .i64 u.iv, .int .i64 u.ct, .bool u.un, .int .i64 u.ua, .bool u.ut, .slice a6 u.sc.length c6, .slice a7 u.mi.length c7, .slice a8 u.hr.length c8, .slice a9 u.dy.length c9, .slice a10 u.md.length c10, .slice a11 u.yd.length c11, .slice a12 u.wn.length c12, .slice a13 u.mo.length c13, .slice a14 u.sp.length c14, .int .i64 u.wk]) (fun _ => True) rfl (by kernel_rfl) (by kernel_rfl) (by kernel_rfl) (fun _ _ _ h => h) (fun _ _ _ _ _ _ => trivial) (fun _ _ _ h => h) (fun _ _ h => h) trivial (Or.inl ⟨by rfl, ?hy4_6⟩) SZ.out SZ.out ?rest4_6
    case hy4_6 => intro x hx; have q13 := (hx.2 13 _ rfl).1; have q14 := (hx.2 14 _ rfl).1; clear hx; go_simp; try with_reducible rfl
    (try go_simp)
    refine Hr.Walk.one (i := 5) (by kernel_rfl) rfl (fun K hK => ?_)
    have lt14 := EE.out.1
    go_simp
    go_at_call 16
    (with_reducible refine (twini_to _ u.sp _ (L0.out.below BB.out).h14 (by omega)).mono ?_)
    rintro e v14 ⟨s14, rfl, hr, hb⟩
    obtain ⟨b14, d14, rfl⟩ := hr.forms
    have SZ := Lib.hid (SZ.out.below hb)
    have EE := Lib.hid (EE.out.below hb)
    have GG := Lib.hid (GG.out.below hb)
    have BB := Lib.hid (bstep BB.out hb)
    have Q6 := Lib.hid (Q6.out.below hb)
    have Q7 := Lib.hid (Q7.out.below hb)
    have Q8 := Lib.hid (Q8.out.below hb)
    have Q10 := Lib.hid (Q10.out.below hb)
    have Q11 := Lib.hid (Q11.out.below hb)
    have Q12 := Lib.hid (Q12.out.below hb)
    have Q13 := Lib.hid (Q13.out.below hb)
    have Q14 := Lib.hid (TwR.new hr)
    have sz14 := hb.size
    clear hr hb
    refine hK.out _ _ SZ.out ?_
    clear hK K
    refine Hr.Walk.one (i := 7) (by kernel_rfl) rfl (fun K hK => ?_)
    have e0 := (EE.out.2 13 _ rfl).1
    have f0 := (EE.out.2 13 _ rfl).2
    go_simp
    clear e0 f0
    have D := EE.out.set 13 (by simp) (.slice b13 u.mo.length d13)
    simp only [List.set_cons_succ, List.set_cons_zero] at D
    have EE := Lib.hid D
    clear D
    have SZ := Lib.hid (SZ.out.other (i := 13) d1 (.slice b13 u.mo.length d13))
    have GG := Lib.hid (GG.out.other (i := 13) d2 (.slice b13 u.mo.length d13))
    have BB := Lib.hid (BB.out.setCell (p := ⟨g3, 13, none⟩) (by show w.heap.size ≤ g3; have := HG1.out; omega) (.slice b13 u.mo.length d13))
    have Q6 := Lib.hid (Q6.out.cell (g := g3) (i := 13) (by omega) (.slice b13 u.mo.length d13))
    have Q7 := Lib.hid (Q7.out.cell (g := g3) (i := 13) (by omega) (.slice b13 u.mo.length d13))
    have Q8 := Lib.hid (Q8.out.cell (g := g3) (i := 13) (by omega) (.slice b13 u.mo.length d13))
    have Q10 := Lib.hid (Q10.out.cell (g := g3) (i := 13) (by omega) (.slice b13 u.mo.length d13))
    have Q11 := Lib.hid (Q11.out.cell (g := g3) (i := 13) (by omega) (.slice b13 u.mo.length d13))
    have Q12 := Lib.hid (Q12.out.cell (g := g3) (i := 13) (by omega) (.slice b13 u.mo.length d13))
    have Q13 := Lib.hid (Q13.out.cell (g := g3) (i := 13) (by omega) (.slice b13 u.mo.length d13))
    have Q14 := Lib.hid (Q14.out.cell (g := g3) (i := 13) (by omega) (.slice b13 u.mo.length d13))
    refine hK.out _ _ SZ.out ?_
    clear hK K
    refine Hr.Walk.one (i := 8) (by kernel_rfl) rfl (fun K hK => ?_)
    go_simp
    refine hK.out _ _ SZ.out ?_
    clear hK K
    refine Hr.Walk.one (i := 9) (by kernel_rfl) rfl (fun K hK => ?_)
    have e0 := (EE.out.2 14 _ rfl).1
    have f0 := (EE.out.2 14 _ rfl).2
    go_simp
    clear e0 f0
    have D := EE.out.set 14 (by simp) (.slice b14 u.sp.length d14)
    simp only [List.set_cons_succ, List.set_cons_zero] at D
    have EE := Lib.hid D
    clear D
    have SZ := Lib.hid (SZ.out.other (i := 14) d1 (.slice b14 u.sp.length d14))
    have GG := Lib.hid (GG.out.other (i := 14) d2 (.slice b14 u.sp.length d14))
    have BB := Lib.hid (BB.out.setCell (p := ⟨g3, 14, none⟩) (by show w.heap.size ≤ g3; have := HG1.out; omega) (.slice b14 u.sp.length d14))
    have Q6 := Lib.hid (Q6.out.cell (g := g3) (i := 14) (by omega) (.slice b14 u.sp.length d14))
    have Q7 := Lib.hid (Q7.out.cell (g := g3) (i := 14) (by omega) (.slice b14 u.sp.length d14))
    have Q8 := Lib.hid (Q8.out.cell (g := g3) (i := 14) (by omega) (.slice b14 u.sp.length d14))
    have Q10 := Lib.hid (Q10.out.cell (g := g3) (i := 14) (by omega) (.slice b14 u.sp.length d14))
    have Q11 := Lib.hid (Q11.out.cell (g := g3) (i := 14) (by omega) (.slice b14 u.sp.length d14))
    have Q12 := Lib.hid (Q12.out.cell (g := g3) (i := 14) (by omega) (.slice b14 u.sp.length d14))
    have Q13 := Lib.hid (Q13.out.cell (g := g3) (i := 14) (by omega) (.slice b14 u.sp.length d14))
    have Q14 := Lib.hid (Q14.out.cell (g := g3) (i := 14) (by omega) (.slice b14 u.sp.length d14))
    refine hK.out _ _ SZ.out ?_
    clear hK K
    refine Hr.Walk.one (i := 10) (by kernel_rfl) rfl (fun K hK => ?_)
    go_simp
    refine hK.out _ _ SZ.out ?_
    clear hK K
    refine Hr.Walk.one (i := 11) (by kernel_rfl) rfl (fun K hK => ?_)
    have e0 := (EE.out.2 9 _ rfl).1
    have f0 := (EE.out.2 9 _ rfl).2
    go_simp
    clear e0 f0
    have D := EE.out.set 9 (by simp) (.slice none 0 0)
    simp only [List.set_cons_succ, List.set_cons_zero] at D
    have EE := Lib.hid D
    clear D
    have SZ := Lib.hid (SZ.out.other (i := 9) d1 (.slice none 0 0))
    have GG := Lib.hid (GG.out.other (i := 9) d2 (.slice none 0 0))
    have BB := Lib.hid (BB.out.setCell (p := ⟨g3, 9, none⟩) (by show w.heap.size ≤ g3; have := HG1.out; omega) (.slice none 0 0))
    have Q6 := Lib.hid (Q6.out.cell (g := g3) (i := 9) (by omega) (.slice none 0 0))
    have Q7 := Lib.hid (Q7.out.cell (g := g3) (i := 9) (by omega) (.slice none 0 0))
    have Q8 := Lib.hid (Q8.out.cell (g := g3) (i := 9) (by omega) (.slice none 0 0))
    have Q10 := Lib.hid (Q10.out.cell (g := g3) (i := 9) (by omega) (.slice none 0 0))
    have Q11 := Lib.hid (Q11.out.cell (g := g3) (i := 9) (by omega) (.slice none 0 0))
    have Q12 := Lib.hid (Q12.out.cell (g := g3) (i := 9) (by omega) (.slice none 0 0))
    have Q13 := Lib.hid (Q13.out.cell (g := g3) (i := 9) (by omega) (.slice none 0 0))
    have Q14 := Lib.hid (Q14.out.cell (g := g3) (i := 9) (by omega) (.slice none 0 0))
    refine hK.out _ _ SZ.out ?_
    clear hK K
    refine Hr.Walk.done (by kernel_rfl) ?_ _
    go_wp2
    go_meet
    exact ⟨b13, b14, d13, d14, _, _, by omega, by omega, by simp [World.setCell], Q6, Q7, Q8, Q10, Q11, Q12, Lib.hid (Q13.out.less (by show n6 ≤ w4.heap.size; omega)), Q14, EE, SZ, GG, BB⟩
  case rest =>
  obtain ⟨w5, rfl⟩ : ∃ x : World, x = wc := ⟨_, rfl⟩
  clear CC GG BB EE Q6 Q7 Q8 Q10 Q11 Q12
  obtain ⟨b13, b14, d13, d14, n7, n8, m7, m8, tp4, Q6, Q7, Q8, Q10, Q11, Q12, Q13, Q14, EE, CC, GG, BB⟩ := hcut
  go_upto_region 5 with fail
  go_cut [] (fun wz => ∃ (b9 : Option Addr) (d9 : Nat), n8 ≤ wz.heap.size ∧ Hid (RowD n8 wz (.slice b9 u.dy.length d9) u.dy) ∧ Hid (TwR n0 n1 wz (.slice b6 u.sc.length d6) u.sc) ∧ Hid (TwR n1 n2 wz (.slice b7 u.mi.length d7) u.mi) ∧ Hid (TwR n2 n3 wz (.slice b8 u.hr.length d8) u.hr) ∧ Hid (TwR n3 n4 wz (.slice b10 u.md.length d10) u.md) ∧ Hid (TwR n4 n5 wz (.slice b11 u.yd.length d11) u.yd) ∧ Hid (TwR n5 n6 wz (.slice b12 u.wn.length d12) u.wn) ∧ Hid (TwR n6 n7 wz (.slice b13 u.mo.length d13) u.mo) ∧ Hid (TwR n7 n8 wz (.slice b14 u.sp.length d14) u.sp) ∧ Hid (Cs g3 wz [.int .i64 u.fq, .int .i64 u.iv, .int .i64 u.ct, .bool u.un, .int .i64 u.ua, .bool u.ut, .slice b6 u.sc.length d6, .slice b7 u.mi.length d7, .slice b8 u.hr.length d8, .slice b9 u.dy.length d9, .slice b10 u.md.length d10, .slice b11 u.yd.length d11, .slice b12 u.wn.length d12, .slice b13 u.mo.length d13, .slice b14 u.sp.length d14, .int .i64 u.wk]) ∧ Hid (Cs g1 wz [.int .i64 u.fq, .int .i64 u.iv, .int .i64 u.ct, .bool u.un, .int .i64 u.ua, .bool u.ut, .slice a6 u.sc.length c6, .slice a7 u.mi.length c7, .slice a8 u.hr.length c8, .slice a9 u.dy.length c9, .slice a10 u.md.length c10, .slice a11 u.yd.length c11, .slice a12 u.wn.length c12, .slice a13 u.mo.length c13, .slice a14 u.sp.length c14, .int .i64 u.wk]) ∧ Hid (Cs (g1 + 1) wz [.int .i64 0, .int .i64 0, .int .i64 0, .bool false, .int .i64 0, .bool false, .slice none 0 0, .slice none 0 0, .slice none 0 0, .slice none 0 0, .slice none 0 0, .slice none 0 0, .slice none 0 0, .slice none 0 0, .slice none 0 0, .int .i64 0]) ∧ Hid (Below w.heap.size w wz))
  case first =>
    have m9 := (CC.out.2 9 _ rfl).1
    have e9 := (EE.out.2 9 _ rfl).1
    have f9 := (EE.out.2 9 _ rfl).2
    obtain ⟨i0, hi, hz0, hz1, hz2⟩ := info_parts infoD
    have DV := Lib.hid (L0.out.below BB.out).h9
    by_cases h0 : u.dy.length = 0
    · rw [h0] at m9
      have hd : u.dy = [] := List.length_eq_zero_iff.1 h0
      have H0 := Lib.hid h0
      have HD := Lib.hid hd
      clear h0 hd
      by_cases hA : a9 = none
      · rw [hA] at m9
        have HA := Lib.hid hA
        clear hA DV
        go_wp2
        have Q6 := Lib.hid (Q6.out.cell (g := g3) (i := 9) (by omega) (.slice none 0 0))
        have Q7 := Lib.hid (Q7.out.cell (g := g3) (i := 9) (by omega) (.slice none 0 0))
        have Q8 := Lib.hid (Q8.out.cell (g := g3) (i := 9) (by omega) (.slice none 0 0))
        have Q10 := Lib.hid (Q10.out.cell (g := g3) (i := 9) (by omega) (.slice none 0 0))
        have Q11 := Lib.hid (Q11.out.cell (g := g3) (i := 9) (by omega) (.slice none 0 0))
        have Q12 := Lib.hid (Q12.out.cell (g := g3) (i := 9) (by omega) (.slice none 0 0))
        have Q13 := Lib.hid (Q13.out.cell (g := g3) (i := 9) (by omega) (.slice none 0 0))
        have Q14 := Lib.hid (Q14.out.cell (g := g3) (i := 9) (by omega) (.slice none 0 0))
        have D := EE.out.set 9 (by simp) (.slice none 0 0)
        simp only [List.set_cons_succ, List.set_cons_zero] at D
        have EE := Lib.hid D
        clear D
        have CC := Lib.hid (CC.out.other (i := 9) d1 (.slice none 0 0))
        have GG := Lib.hid (GG.out.other (i := 9) d2 (.slice none 0 0))
        have BB := Lib.hid (BB.out.setCell (p := ⟨g3, 9, none⟩) (by show w.heap.size ≤ g3; have := HG1.out; omega) (.slice none 0 0))
        go_meet
        exact ⟨none, 0, by simp [World.setCell]; omega, Lib.hid (by rw [HD.out]; exact RowD.nil _ _), Q6, Q7, Q8, Q10, Q11, Q12, Q13, Q14, Lib.hid (by rw [H0.out]; exact EE.out), CC, GG, BB⟩
      · obtain ⟨ad, hA'⟩ : ∃ ad, a9 = some ad := Option.ne_none_iff_exists'.1 hA
        rw [hA'] at m9
        have HA := Lib.hid hA'
        clear hA hA' DV
        go_wp2_with (at_builtin; refine wpList_append_own _ rfl _ _ 23 rfl w5.heap.size 45 i0 (.agg #[.int .i64 0, .int .i64 0]) 2 16 (by kernel_rfl) hi hz0 hz1 hz2 rfl (by decide) _ _ _ rfl (World.ownsRow_nil w5 _ _ _) ad 0 c9 [] rfl rfl ?d1 ?d2 ?d3 ?d4 ?d5 ?_)
        case d1 => intro j v hj; simp at hj
        case d2 => intro v hv; simp at hv
        case d3 => unfold maxLen; omega
        case d4 => omega
        case d5 => omega
        intro v' v9 r3 gr hne
        have hb5 : Below w5.heap.size w5 v9 := (Below.refl _ _).grown gr (Nat.le_refl _) (fun j hj => by simp [Value.ownBlock] at hj)
        have CC := Lib.hid (CC.out.below hb5)
        have EE := Lib.hid (EE.out.below hb5)
        have GG := Lib.hid (GG.out.below hb5)
        have BB := Lib.hid (bstep BB.out hb5)
        have Q6 := Lib.hid (Q6.out.below hb5)
        have Q7 := Lib.hid (Q7.out.below hb5)
        have Q8 := Lib.hid (Q8.out.below hb5)
        have Q10 := Lib.hid (Q10.out.below hb5)
        have Q11 := Lib.hid (Q11.out.below hb5)
        have Q12 := Lib.hid (Q12.out.below hb5)
        have Q13 := Lib.hid (Q13.out.below hb5)
        have Q14 := Lib.hid (Q14.out.below hb5)
        have sz9 := hb5.size
        have hT : RowD w5.heap.size v9 v' u.dy := by rw [HD.out]; unfold RowD; simpa [dvL] using r3
        obtain ⟨b9, d9, rfl⟩ := rowd_forms hT
        have e9 := (EE.out.2 9 _ rfl).1
        have f9 := (EE.out.2 9 _ rfl).2
        have Q9 := Lib.hid (Rcp.own_cell (g := g3) (i := 9) (Rcp.own_less hT (show n8 ≤ w5.heap.size by omega)) (by omega) (.slice b9 u.dy.length d9))
        clear r3 gr hne hT hb5
        go_wp2
        have Q6 := Lib.hid (Q6.out.cell (g := g3) (i := 9) (by omega) (.slice b9 u.dy.length d9))
        have Q7 := Lib.hid (Q7.out.cell (g := g3) (i := 9) (by omega) (.slice b9 u.dy.length d9))
        have Q8 := Lib.hid (Q8.out.cell (g := g3) (i := 9) (by omega) (.slice b9 u.dy.length d9))
        have Q10 := Lib.hid (Q10.out.cell (g := g3) (i := 9) (by omega) (.slice b9 u.dy.length d9))
        have Q11 := Lib.hid (Q11.out.cell (g := g3) (i := 9) (by omega) (.slice b9 u.dy.length d9))
        have Q12 := Lib.hid (Q12.out.cell (g := g3) (i := 9) (by omega) (.slice b9 u.dy.length d9))
        have Q13 := Lib.hid (Q13.out.cell (g := g3) (i := 9) (by omega) (.slice b9 u.dy.length d9))
        have Q14 := Lib.hid (Q14.out.cell (g := g3) (i := 9) (by omega) (.slice b9 u.dy.length d9))
        have D := EE.out.set 9 (by simp) (.slice b9 u.dy.length d9)
        simp only [List.set_cons_succ, List.set_cons_zero] at D
        have EE := Lib.hid D
        clear D
        have CC := Lib.hid (CC.out.other (i := 9) d1 (.slice b9 u.dy.length d9))
        have GG := Lib.hid (GG.out.other (i := 9) d2 (.slice b9 u.dy.length d9))
        have BB := Lib.hid (BB.out.setCell (p := ⟨g3, 9, none⟩) (by show w.heap.size ≤ g3; have := HG1.out; omega) (.slice b9 u.dy.length d9))
        go_meet
        exact ⟨b9, d9, by simp [World.setCell]; omega, Q9, Q6, Q7, Q8, Q10, Q11, Q12, Q13, Q14, EE, CC, GG, BB⟩
    · obtain ⟨bk, off, cc, hsl, hbk, hcell⟩ := DV.out.form (by omega)
      injection hsl with ha hb_ hc_
      rw [ha] at m9
      have HA := Lib.hid ha
      have HC := Lib.hid hcell
      obtain ⟨n, hn⟩ : ∃ n, u.dy.length = n := ⟨_, rfl⟩
      have HN := Lib.hid hn
      rw [hn] at m9 z9 h0
      clear hcell hb_ hc_ hn DV ha
      go_wp2_with (at_builtin; refine wpList_append_own _ rfl _ _ 23 rfl w5.heap.size 45 i0 (.agg #[.int .i64 0, .int .i64 0]) 2 16 (by kernel_rfl) hi hz0 hz1 hz2 rfl (by decide) _ _ _ rfl (World.ownsRow_nil w5 _ _ _) ⟨bk, off, none⟩ n c9 (dvL u.dy) rfl ?d0 ?d1 ?d2 ?d3 ?d4 ?d5 ?_)
      case d0 => rw [Rcp.dv_len, HN.out]
      case d1 =>
        intro j v hj
        rw [show (⟨bk, off, none⟩ : Addr).add j = ⟨bk, off + j, none⟩ from by simp [Addr.add]]
        have hl := (List.getElem?_eq_some_iff.1 hj).1
        rw [Rcp.dv_len] at hl
        obtain ⟨i, hi | hi⟩ : ∃ i, j = i * 2 ∨ j = i * 2 + 1 := ⟨j / 2, by omega⟩
        · subst hi
          rw [(Rcp.dv_at u.dy i (by omega)).1] at hj
          obtain rfl := Option.some.inj hj
          exact (HC.out i (by omega)).1
        · subst hi
          rw [(Rcp.dv_at u.dy i (by omega)).2] at hj
          obtain rfl := Option.some.inj hj
          have := (HC.out i (by omega)).2
          rwa [show off + (i * 2 + 1) = off + i * 2 + 1 by omega]
      case d2 =>
        intro v hv
        obtain ⟨d, _, hd⟩ := List.mem_flatMap.1 hv
        simp at hd
        rcases hd with rfl | rfl <;> rfl
      case d3 => unfold maxLen; omega
      case d4 => omega
      case d5 => omega
      intro v' v9 r3 gr hne
      have hb5 : Below w5.heap.size w5 v9 := (Below.refl _ _).grown gr (Nat.le_refl _) (fun j hj => by simp [Value.ownBlock] at hj)
      have CC := Lib.hid (CC.out.below hb5)
      have EE := Lib.hid (EE.out.below hb5)
      have GG := Lib.hid (GG.out.below hb5)
      have BB := Lib.hid (bstep BB.out hb5)
      have Q6 := Lib.hid (Q6.out.below hb5)
      have Q7 := Lib.hid (Q7.out.below hb5)
      have Q8 := Lib.hid (Q8.out.below hb5)
      have Q10 := Lib.hid (Q10.out.below hb5)
      have Q11 := Lib.hid (Q11.out.below hb5)
      have Q12 := Lib.hid (Q12.out.below hb5)
      have Q13 := Lib.hid (Q13.out.below hb5)
      have Q14 := Lib.hid (Q14.out.below hb5)
      have sz9 := hb5.size
      have hT : RowD w5.heap.size v9 v' u.dy := by unfold RowD; rw [HN.out]; simpa using r3
      obtain ⟨b9, d9, rfl⟩ := rowd_forms hT
      have e9 := (EE.out.2 9 _ rfl).1
      have f9 := (EE.out.2 9 _ rfl).2
      have Q9 := Lib.hid (Rcp.own_cell (g := g3) (i := 9) (Rcp.own_less hT (show n8 ≤ w5.heap.size by omega)) (by omega) (.slice b9 u.dy.length d9))
      clear r3 gr hne hT hb5
      go_wp2
      have Q6 := Lib.hid (Q6.out.cell (g := g3) (i := 9) (by omega) (.slice b9 u.dy.length d9))
      have Q7 := Lib.hid (Q7.out.cell (g := g3) (i := 9) (by omega) (.slice b9 u.dy.length d9))
      have Q8 := Lib.hid (Q8.out.cell (g := g3) (i := 9) (by omega) (.slice b9 u.dy.length d9))
      have Q10 := Lib.hid (Q10.out.cell (g := g3) (i := 9) (by omega) (.slice b9 u.dy.length d9))
      have Q11 := Lib.hid (Q11.out.cell (g := g3) (i := 9) (by omega) (.slice b9 u.dy.length d9))
      have Q12 := Lib.hid (Q12.out.cell (g := g3) (i := 9) (by omega) (.slice b9 u.dy.length d9))
      have Q13 := Lib.hid (Q13.out.cell (g := g3) (i := 9) (by omega) (.slice b9 u.dy.length d9))
      have Q14 := Lib.hid (Q14.out.cell (g := g3) (i := 9) (by omega) (.slice b9 u.dy.length d9))
      have D := EE.out.set 9 (by simp) (.slice b9 u.dy.length d9)
      simp only [List.set_cons_succ, List.set_cons_zero] at D
      have EE := Lib.hid D
      clear D
      have CC := Lib.hid (CC.out.other (i := 9) d1 (.slice b9 u.dy.length d9))
      have GG := Lib.hid (GG.out.other (i := 9) d2 (.slice b9 u.dy.length d9))
      have BB := Lib.hid (BB.out.setCell (p := ⟨g3, 9, none⟩) (by show w.heap.size ≤ g3; have := HG1.out; omega) (.slice b9 u.dy.length d9))
      go_meet
      exact ⟨b9, d9, by simp [World.setCell]; omega, Q9, Q6, Q7, Q8, Q10, Q11, Q12, Q13, Q14, EE, CC, GG, BB⟩
  case rest =>
  obtain ⟨w6, rfl⟩ : ∃ x : World, x = wc := ⟨_, rfl⟩
  clear CC GG BB EE Q6 Q7 Q8 Q10 Q11 Q12 Q13 Q14
  obtain ⟨b9, d9, tp9, Q9, Q6, Q7, Q8, Q10, Q11, Q12, Q13, Q14, EE, CC, GG, BB⟩ := hcut
  obtain ⟨S, hS⟩ : ∃ S, w6.setCells (g1 + 1) 0 [.int .i64 u.fq, .int .i64 u.iv, .int .i64 u.ct, .bool u.un, .int .i64 u.ua, .bool u.ut, .slice b6 u.sc.length d6, .slice b7 u.mi.length d7, .slice b8 u.hr.length d8, .slice b9 u.dy.length d9, .slice b10 u.md.length d10, .slice b11 u.yd.length d11, .slice b12 u.wn.length d12, .slice b13 u.mo.length d13, .slice b14 u.sp.length d14, .int .i64 u.wk] = S := ⟨_, rfl⟩
  have GS : Hid (Cs (g1 + 1) S [.int .i64 u.fq, .int .i64 u.iv, .int .i64 u.ct, .bool u.un, .int .i64 u.ua, .bool u.ut, .slice b6 u.sc.length d6, .slice b7 u.mi.length d7, .slice b8 u.hr.length d8, .slice b9 u.dy.length d9, .slice b10 u.md.length d10, .slice b11 u.yd.length d11, .slice b12 u.wn.length d12, .slice b13 u.mo.length d13, .slice b14 u.sp.length d14, .int .i64 u.wk]) := Lib.hid (by rw [← hS]; exact Cs.row GG.out _ rfl)
  have BS : Hid (Below w.heap.size w S) := Lib.hid (by rw [← hS]; exact below_setCells (by have := HG1.out; omega) _ _ _ BB.out)
  have SS : Hid (S.heap.size = w6.heap.size) := Lib.hid (by rw [← hS]; exact size_setCells _ _ _ _)
  have R9 : Hid (RowD n8 S (.slice b9 u.dy.length d9) u.dy) := Lib.hid (by rw [← hS]; exact rowd_cells (by omega) _ _ _ Q9.out)
  have R6 : Hid (TwR n0 n1 S (.slice b6 u.sc.length d6) u.sc) := Lib.hid (by rw [← hS]; exact TwR.cells (by omega) _ _ _ Q6.out)
  have R7 : Hid (TwR n1 n2 S (.slice b7 u.mi.length d7) u.mi) := Lib.hid (by rw [← hS]; exact TwR.cells (by omega) _ _ _ Q7.out)
  have R8 : Hid (TwR n2 n3 S (.slice b8 u.hr.length d8) u.hr) := Lib.hid (by rw [← hS]; exact TwR.cells (by omega) _ _ _ Q8.out)
  have R10 : Hid (TwR n3 n4 S (.slice b10 u.md.length d10) u.md) := Lib.hid (by rw [← hS]; exact TwR.cells (by omega) _ _ _ Q10.out)
  have R11 : Hid (TwR n4 n5 S (.slice b11 u.yd.length d11) u.yd) := Lib.hid (by rw [← hS]; exact TwR.cells (by omega) _ _ _ Q11.out)
  have R12 : Hid (TwR n5 n6 S (.slice b12 u.wn.length d12) u.wn) := Lib.hid (by rw [← hS]; exact TwR.cells (by omega) _ _ _ Q12.out)
  have R13 : Hid (TwR n6 n7 S (.slice b13 u.mo.length d13) u.mo) := Lib.hid (by rw [← hS]; exact TwR.cells (by omega) _ _ _ Q13.out)
  have R14 : Hid (TwR n7 n8 S (.slice b14 u.sp.length d14) u.sp) := Lib.hid (by rw [← hS]; exact TwR.cells (by omega) _ _ _ Q14.out)
  have HS := Lib.hid hS
  clear hS CC BB Q9 Q6 Q7 Q8 Q10 Q11 Q12 Q13 Q14
  go_upto_region 6 with fail
  refine wp_region_lit ?_
  refine wpList_load_mid rfl 25 (.tmp 3) rfl g3 0 rfl [.int .i64 u.fq, .int .i64 u.iv, .int .i64 u.ct, .bool u.un, .int .i64 u.ua, .bool u.ut, .slice b6 u.sc.length d6, .slice b7 u.mi.length d7, .slice b8 u.hr.length d8, .slice b9 u.dy.length d9, .slice b10 u.md.length d10, .slice b11 u.yd.length d11, .slice b12 u.wn.length d12, .slice b13 u.mo.length d13, .slice b14 u.sp.length d14, .int .i64 u.wk] _ EE.out.range Tryz.underlying25 rfl (by kernel_rfl) ?_
  refine wpList_store_mid rfl 25 (.tmp 2) (.tmp 44) rfl (g1 + 1) 0 #[.int .i64 u.fq, .int .i64 u.iv, .int .i64 u.ct, .bool u.un, .int .i64 u.ua, .bool u.ut, .slice b6 u.sc.length d6, .slice b7 u.mi.length d7, .slice b8 u.hr.length d8, .slice b9 u.dy.length d9, .slice b10 u.md.length d10, .slice b11 u.yd.length d11, .slice b12 u.wn.length d12, .slice b13 u.mo.length d13, .slice b14 u.sp.length d14, .int .i64 u.wk] rfl rfl GG.out.there (by kernel_rfl) (all_oneCell_toArray (cs := [.int .i64 u.fq, .int .i64 u.iv, .int .i64 u.ct, .bool u.un, .int .i64 u.ua, .bool u.ut, .slice b6 u.sc.length d6, .slice b7 u.mi.length d7, .slice b8 u.hr.length d8, .slice b9 u.dy.length d9, .slice b10 u.md.length d10, .slice b11 u.yd.length d11, .slice b12 u.wn.length d12, .slice b13 u.mo.length d13, .slice b14 u.sp.length d14, .int .i64 u.wk]) (by intro v hv; simp only [List.mem_cons, List.not_mem_nil, or_false] at hv; rcases hv with rfl | rfl | rfl | rfl | rfl | rfl | rfl | rfl | rfl | rfl | rfl | rfl | rfl | rfl | rfl | rfl <;> rfl)) ?_
  refine (congrArg (fun W => wpList _ _ _ _ _ W) HS.out).mpr ?_
  clear EE GG HS
  go_wp2
  refine bodyPost_ret (v := .agg #[.int .i64 u.fq, .int .i64 u.iv, .int .i64 u.ct, .bool u.un, .int .i64 u.ua, .bool u.ut, .slice b6 u.sc.length d6, .slice b7 u.mi.length d7, .slice b8 u.hr.length d8, .slice b9 u.dy.length d9, .slice b10 u.md.length d10, .slice b11 u.yd.length d11, .slice b12 u.wn.length d12, .slice b13 u.mo.length d13, .slice b14 u.sp.length d14, .int .i64 u.wk]) (resT GS.out (fun W h => by have t0 := (h.2 0 _ rfl).1; have t1 := (h.2 1 _ rfl).1; have t2 := (h.2 2 _ rfl).1; have t3 := (h.2 3 _ rfl).1; have t4 := (h.2 4 _ rfl).1; have t5 := (h.2 5 _ rfl).1; have t6 := (h.2 6 _ rfl).1; have t7 := (h.2 7 _ rfl).1; have t8 := (h.2 8 _ rfl).1; have t9 := (h.2 9 _ rfl).1; have t10 := (h.2 10 _ rfl).1; have t11 := (h.2 11 _ rfl).1; have t12 := (h.2 12 _ rfl).1; have t13 := (h.2 13 _ rfl).1; have t14 := (h.2 14 _ rfl).1; have t15 := (h.2 15 _ rfl).1; simp [results, Tryz.results7, go_sem, t0, t1, t2, t3, t4, t5, t6, t7, t8, t9, t10, t11, t12, t13, t14, t15])) rfl ?_
  exact ⟨_, _, _, _, _, _, _, _, _, rfl, ⟨g3, n0, n1, n2, n3, n4, n5, n6, n7, n8, n8, by have := HG1.out; omega, by omega, by omega, by omega, by omega, by omega, by omega, by omega, by omega, by omega, Nat.le_refl _, by rw [SS.out]; exact tp9, R6.out, R7.out, R8.out, R10.out, R11.out, R12.out, R13.out, R14.out, R9.out⟩, BS.out⟩
end Twn
end Go.Proofs.YtgaolaafjiiehaaGreatDoor
