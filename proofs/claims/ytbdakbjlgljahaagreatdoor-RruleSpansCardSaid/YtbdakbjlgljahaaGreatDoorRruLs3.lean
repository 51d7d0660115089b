/-
  RruleSpans, from its region 17 on
-/
import Derived.Test.YtbdakbjlgljahaaGreatDoorRruW
import Derived.Test.YtbdakbjlgljahaaGreatDoorBdU7
import Derived.Test.YtbdakbjlgljahaaGreatDoorBdCl
import Derived.Test.YtbdakbjlgljahaaGreatDoorBdFd
namespace Go.Proofs.YtbdakbjlgljahaaGreatDoor
open Go.RowKit
namespace Rru
open Rcv (CV LisV IntV DayV)
open Rck (ckE ckB Small)
open Ap (RowI)
open Civ (numV numE dY dM dD dnE ydV Ahead)
open Fil (moO mo_bd spE spT spF spQ perV perE perQ ld16 vsm vsm_mo vsm_bd vsome_to ck_fq per_to span_to)
open Cel
abbrev GQ (x : CV) (t6 t7 t8 t9 t10 t11 t12 t13 t14 : Value) (nn : Int) (g : Nat) (wz : World) : Prop := Hid (Cs g wz [.int .i64 x.fq, .int .i64 x.iv, .int .i64 nn, .bool x.un, .int .i64 x.ua, .bool x.ut, t6, t7, t8, t9, t10, t11, t12, t13, t14, .int .i64 x.wk])
abbrev FQ (x : CV) (s6 s7 s8 s9 s10 s11 s12 s13 s14 : Value) (w wz : World) : Prop := Hid (Cs w.heap.size wz [.int .i64 x.fq, .int .i64 x.iv, .int .i64 x.ct, .bool x.un, .int .i64 x.ua, .bool x.ut, s6, s7, s8, s9, s10, s11, s12, s13, s14, .int .i64 x.wk]) ∧ Hid (Below w.heap.size w wz)
theorem row_cap {w : World} {B : Nat} {A : Option Addr} {n c : Nat} {L : List Int} (h : RowI B w (.slice A n c) L) : L.length ≤ c := by
  rcases h.2 with ⟨h1, h2⟩ | ⟨g, cap, cur, h1, _, _, h2, _⟩
  · omega
  · injection h1 with _ _ h3
    omega
theorem int_take {w : World} {A : Option Addr} {n c c2 m : Nat} {L : List Int} (h : IntV w (.slice A n c) L) (hm : m ≤ L.length) : IntV w (.slice A m c2) (L.take m) := by
  obtain ⟨a, n2, c3, hv, hn, hc⟩ := h
  injection hv with h1 h2 h3
  subst h1
  refine ⟨A, m, c2, rfl, by rw [List.length_take]; omega, fun j hj => ?_⟩
  rw [List.length_take] at hj
  obtain ⟨b, off, hb, hl, hcell⟩ := hc j (by omega)
  exact ⟨b, off, hb, hl, by rw [hcell, List.getElem_take]⟩
theorem cs_grown2 {g : Nat} {w w' : World} {vs : List Value} {row : Option Nat} (h : Cs g w vs) (k : w.grownBy w' row) (hne : some g ≠ row) : Cs g w' vs :=
  ⟨Nat.lt_of_lt_of_le h.1 k.size, fun j v hj => ⟨(World.cell?_of_block (a := ⟨g, j, none⟩) (k.block g h.1 hne)).trans (h.2 j v hj).1, (World.frozen?_of_block (a := ⟨g, j, none⟩) (k.block g h.1 hne)).trans (h.2 j v hj).2⟩⟩
theorem below_grown2 {w0 w w' : World} {row : Option Nat} (hb : Below w0.heap.size w0 w) (hg : w.grownBy w' row) (hr : ∀ k, row = some k → w0.heap.size ≤ k) : Below w0.heap.size w0 w' := hb.grown hg (by exact hb.size) hr
noncomputable def spT17C : Code := (Tryz.f6.body.bind (Tl.from_ 17)).getD .skip
set_option maxHeartbeats 25600000 in
set_option maxRecDepth 100000 in
theorem spT17 (x : CV) (s6 s7 s8 s9 s10 s11 s12 s13 s14 : Value) (T to_ nn : Int) (g : Nat) (t6 t7 t8 t9 t10 t11 t12 t13 t14 : Value) (w w2 : World) (HA : Hid (Ahead w)) (HU : Hid (-9223372036854775808 ≤ x.ua ∧ x.ua ≤ 9223372036854775807)) (L : Hid (LisV w x s6 s7 s8 s9 s10 s11 s12 s13 s14)) (S : Hid (Small x)) (HKB : Hid (ckB x = true)) (MT : Hid (moO T = true)) (PE : Hid (perE x T = 0)) (BDS : Hid (-62135596800 ≤ T ∧ T ≤ to_ ∧ to_ ≤ 253600000000)) (A4 : Hid (arB T to_ 3000 = false)) (CU : Hid (x.ct ≤ 0 ∧ x.un = false)) (NB : Hid (1 ≤ nn ∧ nn ≤ 50)) (LT : Hid (LisV w2 (withCt x nn) t6 t7 t8 t9 t10 t11 t12 t13 t14)) (G : GQ x t6 t7 t8 t9 t10 t11 t12 t13 t14 nn g w2) (RB : Hid (Cs w.heap.size w2 [.int .i64 x.fq, .int .i64 x.iv, .int .i64 x.ct, .bool x.un, .int .i64 x.ua, .bool x.ut, s6, s7, s8, s9, s10, s11, s12, s13, s14, .int .i64 x.wk])) (B : Hid (Below w.heap.size w w2)) (z0 z2 z3 z4 z7 z8 z9 z10 z11 z12 z13 z15 z16 z17 z18 z19 z20 z21 z22 z23 z25 z26 z27 z28 z29 z30 z31 z32 z33 z34 z35 z36 z37 z38 z39 z40 z41 z42 z43 z44 z45 z46 z47 z48 z49 z50 z51 z52 z53 z54 z55 z56 z57 z58 z59 z60 z61 z62 z63 z64 z65 z66 z67 z68 z69 z70 z71 z72 z73 z74 z75 z76 z77 z78 z79 z80 z81 z82 z83 z84 z85 z86 z87 z88 z89 z90 z91 z92 z93 z94 z95 z96 z97 z98 z99 z100 z101 z102 z103 z104 z105 z106 z107 z108 z109 z110 z111 z112 z113 z114 z115 z116 z117 z118 z119 z120 z121 z122 z123 z124 z125 z126 z127 z128 z129 z130 z131 z132 z133 z134 z135 z136 z137 z138 z139 z140 z141 z142 z143 z144 z145 z146 z147 z148 z149 z150 z151 z152 z153 z154 z155 z156 z157 : Value) : Code.wp Tryz.prog spT17C (bodyPost Tryz.prog Tryz.f6 (fun e w' => e = .returned (.bool true) ∧ Below w.heap.size w w')) ⟨List.toArray (z0 :: .int .i64 T :: z2 :: z3 :: z4 :: .int .i64 nn :: .pointer (some ⟨w.heap.size, 0, none⟩) :: z7 :: z8 :: z9 :: z10 :: z11 :: z12 :: z13 :: .int .i64 to_ :: z15 :: z16 :: z17 :: z18 :: z19 :: z20 :: z21 :: z22 :: z23 :: .pointer (some ⟨g, 0, none⟩) :: z25 :: z26 :: z27 :: z28 :: z29 :: z30 :: z31 :: z32 :: z33 :: z34 :: z35 :: z36 :: z37 :: z38 :: z39 :: z40 :: z41 :: z42 :: z43 :: z44 :: z45 :: z46 :: z47 :: z48 :: z49 :: z50 :: z51 :: z52 :: z53 :: z54 :: z55 :: z56 :: z57 :: z58 :: z59 :: z60 :: z61 :: z62 :: z63 :: z64 :: z65 :: z66 :: z67 :: z68 :: z69 :: z70 :: z71 :: z72 :: z73 :: z74 :: z75 :: z76 :: z77 :: z78 :: z79 :: z80 :: z81 :: z82 :: z83 :: z84 :: z85 :: z86 :: z87 :: z88 :: z89 :: z90 :: z91 :: z92 :: z93 :: z94 :: z95 :: z96 :: z97 :: z98 :: z99 :: z100 :: z101 :: z102 :: z103 :: z104 :: z105 :: z106 :: z107 :: z108 :: z109 :: z110 :: z111 :: z112 :: z113 :: z114 :: z115 :: z116 :: z117 :: z118 :: z119 :: z120 :: z121 :: z122 :: z123 :: z124 :: z125 :: z126 :: z127 :: z128 :: z129 :: z130 :: z131 :: z132 :: z133 :: z134 :: z135 :: z136 :: z137 :: z138 :: z139 :: z140 :: z141 :: z142 :: z143 :: z144 :: z145 :: z146 :: z147 :: z148 :: z149 :: z150 :: z151 :: z152 :: z153 :: z154 :: z155 :: z156 :: z157 :: []), []⟩ w2 := by
  conv => arg 2; whnf
  obtain ⟨⟨en4, co4, O4⟩, hX⟩ : ∃ z, tmX x T T to_ 3000 = z := ⟨_, rfl⟩
  have X4 := Lib.hid hX
  clear hX
  go_upto_region 17 with fail
  go_cut [25, 27] (fun a c wz => ∃ lv N4 M4, lv = a ∧ c = .int .i64 en4 ∧ Hid (RowI N4 wz lv O4) ∧ Hid (w.heap.size + 1 ≤ N4 ∧ N4 ≤ M4) ∧ Hid (N4 ≤ wz.heap.size ∧ M4 ≤ wz.heap.size) ∧ GQ x t6 t7 t8 t9 t10 t11 t12 t13 t14 nn g wz ∧ Hid (LisV wz (withCt x nn) t6 t7 t8 t9 t10 t11 t12 t13 t14) ∧ FQ x s6 s7 s8 s9 s10 s11 s12 s13 s14 w wz)
  case first =>
    go_wp2_with (refine ld16 RB.out rfl (by rfl) (by rfl) (by rfl) ?_; intro K hK; go_simp)
    refine (tms_to x _ _ _ _ _ _ _ _ _ T T to_ 3000 _ _ (Lib.hid (HA.out.stays B.out)) HU (Lib.hid (L.out.below B.out)) S (Lib.hid (by have := BDS.out; omega)) X4).mono ?_
    rintro e w5 ⟨lv, rfl, R, k⟩
    have n1 := RB.out.1
    have G := Lib.hid (G.out.below k)
    have LT := Lib.hid (LT.out.below k)
    have RB := Lib.hid (RB.out.below k)
    have B := Lib.hid (bstep B.out k)
    have hk := k.size
    have RN := Lib.hid R
    clear k R
    go_wp2
    go_meet
    exact ⟨_, _, _, rfl, rfl, RN, Lib.hid ⟨n1, hk⟩, Lib.hid ⟨hk, Nat.le_refl _⟩, G, LT, RB, B⟩
  case rest =>
  obtain ⟨w17, rfl⟩ : ∃ x : World, x = wc := ⟨_, rfl⟩
  clear RB B G LT
  obtain ⟨lv4, N4, M4, rfl, rfl, R4, NM4, SZ4, G, LT, RB, B⟩ := hcut
  have SC : Hid (Small (withCt x nn)) := Lib.hid ⟨S.out.sc, S.out.mi, S.out.hr, S.out.dy, S.out.md, S.out.yd, S.out.wn, S.out.mo, S.out.sp⟩
  have C2 := Lib.hid (ck_ct HKB.out CU.out.2 (n := nn) (by have := NB.out; omega))
  have P2 : Hid (perE (withCt x nn) T = 0) := Lib.hid (by rw [perE, if_pos C2.out, if_pos MT.out])
  obtain ⟨⟨en5, co5, O5⟩, hX⟩ : ∃ z, tmX (withCt x nn) T T to_ 3000 = z := ⟨_, rfl⟩
  have X5 := Lib.hid hX
  clear hX
  go_upto_region 18 with fail
  go_cut [28, 30] (fun a c wz => ∃ lv N5 M5, lv = a ∧ c = .int .i64 en5 ∧ Hid (RowI N5 wz lv O5) ∧ Hid (M4 ≤ N5 ∧ N5 ≤ M5) ∧ Hid (N5 ≤ wz.heap.size ∧ M5 ≤ wz.heap.size) ∧ Hid (RowI N4 wz lv4 O4) ∧ FQ x s6 s7 s8 s9 s10 s11 s12 s13 s14 w wz)
  case first =>
    go_wp2_with (refine ld16 G.out rfl (by rfl) (by rfl) (by rfl) ?_; intro K hK; go_simp)
    refine (tms_to (withCt x nn) _ _ _ _ _ _ _ _ _ T T to_ 3000 _ _ (Lib.hid (HA.out.stays B.out)) HU LT SC (Lib.hid (by have := BDS.out; omega)) X5).mono ?_
    rintro e w5 ⟨lv, rfl, R, k⟩
    have n1 := SZ4.out.2
    have R4 := Lib.hid (R4.out.below k)
    have RB := Lib.hid (RB.out.below k)
    have B := Lib.hid (bstep B.out k)
    have hk := k.size
    have RN := Lib.hid R
    clear k R
    go_wp2
    go_meet
    exact ⟨_, _, _, rfl, rfl, RN, Lib.hid ⟨n1, hk⟩, Lib.hid ⟨hk, Nat.le_refl _⟩, R4, RB, B⟩
  case rest =>
  obtain ⟨w18, rfl⟩ : ∃ x : World, x = wc := ⟨_, rfl⟩
  clear RB B R4
  obtain ⟨lv5, N5, M5, rfl, rfl, R5, NM5, SZ5, R4, RB, B⟩ := hcut
  have E4 := tm_two PE.out A4.out X4.out
  have E5 := tm_two P2.out A4.out X5.out
  rcases E4 with rfl | ⟨rfl, rfl, rfl⟩
  rotate_left
  · go_wp2_with fail
    refine (wakes23_any _ (HA.out.stays B.out)).mono ?_
    rintro e w13 ⟨rfl, k⟩
    go_wp2
    go_ret
    exact ⟨ret_b rfl, bstep B.out k⟩
  rcases E5 with rfl | ⟨rfl, rfl, rfl⟩
  rotate_left
  · go_wp2_with fail
    refine (wakes23_any _ (HA.out.stays B.out)).mono ?_
    rintro e w13 ⟨rfl, k⟩
    go_wp2
    go_ret
    exact ⟨ret_b rfl, bstep B.out k⟩
  have EQ := Lib.hid (span_ct HKB.out MT.out (by have := CU.out.1; omega) CU.out.2 (by have := NB.out; omega) A4.out X4.out X5.out)
  have q4 := tm_len x T T to_ 3000
  rw [X4.out] at q4
  have Q4 := Lib.hid q4
  clear q4 X4 X5
  obtain ⟨A4b, c4, rfl⟩ := R4.out.forms
  have CAP := Lib.hid (row_cap R4.out)
  obtain ⟨ol, hol⟩ : ∃ z, O4.length = z := ⟨_, rfl⟩
  have HOL := Lib.hid hol
  have R4b := Lib.hid (IntV.of_row R4.out)
  rw [hol] at R4b ⊢
  clear R4 hol
  obtain ⟨mn, hmn⟩ : ∃ z : Nat, min nn.toNat ol = z := ⟨_, rfl⟩
  have m1 : min nn (ol : Int) = (mn : Int) := by have := NB.out; omega
  have m2 : (mn : Int).toNat = mn := by omega
  have m3 : mn ≤ c4 := by have := CAP.out; rw [HOL.out] at this; omega
  go_upto_region 21 with fail
  go_wp2_with fail
  have TE : O5 = O4.take mn := by
    rw [EQ.out, ← hmn, ← HOL.out]
    exact List.take_eq_take_min
  have q5 : O5.length ≤ 1000000 := by rw [TE, List.length_take]; have := Q4.out; omega
  refine (ints_b _ _ O5 (O4.take mn) _ (IntV.of_row R5.out) (int_take R4b.out (by rw [HOL.out]; omega)) q5 (by rw [← TE]; exact q5) true (Lib.hid (decide_eq_true TE))).mono ?_
  rintro e w19 ⟨rfl, k⟩
  have B := Lib.hid (bstep B.out k)
  clear k
  go_wp2_with fail
  refine (wakes23_any _ (HA.out.stays B.out)).mono ?_
  rintro e w13 ⟨rfl, k⟩
  go_wp2
  go_ret
  exact ⟨ret_b rfl, bstep B.out k⟩
end Rru
end Go.Proofs.YtbdakbjlgljahaaGreatDoor
