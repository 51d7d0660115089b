/-
  recur.Text. (Written by gen/gen_rctc.py.)
-/
import Derived.Test.YtbeefhmnoihmcaaGreatDoorRctC
namespace Go.Proofs.YtbeefhmnoihmcaaGreatDoor
open Go.RowKit
namespace Rct
open Cel
open Rcp
open Ap (Grew)
open Rcv (CV IntV DayV LisV)
open Rck (Small ckE ckB)
open Civ (Ahead)
theorem al_len (Ls : List (List UInt8)) (N : List UInt8) (L : List Int) : Ls.length ≤ (alX Ls N L).length ∧ (alX Ls N L).length ≤ Ls.length + 1 := by
  rw [alX]; split <;> simp
theorem ad_len (Ls : List (List UInt8)) (L : List (Int × Int)) : Ls.length ≤ (adX Ls L).length ∧ (adX Ls L).length ≤ Ls.length + 1 := by
  rw [adX]; split <;> simp
/-- A rule of lists that are written. -/
structure WrX (x : CV) : Prop where
  wk : 0 ≤ x.wk ∧ x.wk ≤ 6
  dy : x.dy.length ≤ 1000 ∧ ∀ d ∈ x.dy, -1000000 ≤ d.1 ∧ d.1 ≤ 1000000 ∧ 0 ≤ d.2 ∧ d.2 ≤ 6
  sc : x.sc.length ≤ 1000 ∧ ∀ n ∈ x.sc, -9223372036854775808 ≤ n ∧ n ≤ 9223372036854775807
  mi : x.mi.length ≤ 1000 ∧ ∀ n ∈ x.mi, -9223372036854775808 ≤ n ∧ n ≤ 9223372036854775807
  hr : x.hr.length ≤ 1000 ∧ ∀ n ∈ x.hr, -9223372036854775808 ≤ n ∧ n ≤ 9223372036854775807
  md : x.md.length ≤ 1000 ∧ ∀ n ∈ x.md, -9223372036854775808 ≤ n ∧ n ≤ 9223372036854775807
  yd : x.yd.length ≤ 1000 ∧ ∀ n ∈ x.yd, -9223372036854775808 ≤ n ∧ n ≤ 9223372036854775807
  wn : x.wn.length ≤ 1000 ∧ ∀ n ∈ x.wn, -9223372036854775808 ≤ n ∧ n ≤ 9223372036854775807
  mo : x.mo.length ≤ 1000 ∧ ∀ n ∈ x.mo, -9223372036854775808 ≤ n ∧ n ≤ 9223372036854775807
  sp : x.sp.length ≤ 1000 ∧ ∀ n ∈ x.sp, -9223372036854775808 ≤ n ∧ n ≤ 9223372036854775807
noncomputable def codeL : Code := (Tryz.f8.body.bind (fromT 14)).getD .skip
set_option maxHeartbeats 6400000 in
set_option maxRecDepth 100000 in
theorem txC (x : CV) (lv : Value) (Ls : List (List UInt8)) (J : List UInt8) (s6 s7 s8 s9 s10 s11 s12 s13 s14 : Value) (w w1 : World) (hX : Hid (WrX x)) (hp : Hid (Pow w)) (hD : Hid (DayT w)) (hl : Hid (LisV w x s6 s7 s8 s9 s10 s11 s12 s13 s14)) (C : Hid (Cs w.heap.size w1 [.int .i64 x.fq, .int .i64 x.iv, .int .i64 x.ct, .bool x.un, .int .i64 x.ua, .bool x.ut, s6, s7, s8, s9, s10, s11, s12, s13, s14, .int .i64 x.wk])) (R : Hid (RowT (w.heap.size + 1) w1 lv Ls)) (B : Hid (Below w.heap.size w w1)) (hn : Ls.length ≤ 50) (h0 : 0 < Ls.length) (hJ : Hid (Lib.join (txW (txL Ls x) x) [59] = J)) (hJl : J.length ≤ 10000000)
    (x0 x2 x3 x4 x6 x7 x8 x9 x10 x11 x12 x13 x14 x15 x16 x17 x18 x19 x20 x21 x22 x23 x24 x25 x26 x27 x28 x29 x30 x31 x32 x33 x34 x35 x36 x37 x38 x39 x40 x41 x42 x43 x44 x45 x46 x47 x48 x49 x50 x51 x52 x53 x54 x55 x56 x57 x58 x59 x60 x61 x62 x63 x64 x65 x66 x67 x68 x69 x70 x71 x72 x73 x74 x75 x76 x77 x78 x79 x80 x81 x82 x83 x84 x85 x86 x87 x88 x89 x90 x91 x92 x93 x94 x95 x96 x97 x98 x99 x100 x101 x102 x103 x104 x105 : Value) : Code.wp Tryz.prog codeL (bodyPost Tryz.prog Tryz.f8 (fun e w' => e = .returned (.tuple #[.string ⟨J.toArray⟩, .int .i64 0]) ∧ Below w.heap.size w w')) ⟨List.toArray (x0 :: .pointer (some ⟨w.heap.size, 0, none⟩) :: x2 :: x3 :: x4 :: lv :: x6 :: x7 :: x8 :: x9 :: x10 :: x11 :: x12 :: x13 :: x14 :: x15 :: x16 :: x17 :: x18 :: x19 :: x20 :: x21 :: x22 :: x23 :: x24 :: x25 :: x26 :: x27 :: x28 :: x29 :: x30 :: x31 :: x32 :: x33 :: x34 :: x35 :: x36 :: x37 :: x38 :: x39 :: x40 :: x41 :: x42 :: x43 :: x44 :: x45 :: x46 :: x47 :: x48 :: x49 :: x50 :: x51 :: x52 :: x53 :: x54 :: x55 :: x56 :: x57 :: x58 :: x59 :: x60 :: x61 :: x62 :: x63 :: x64 :: x65 :: x66 :: x67 :: x68 :: x69 :: x70 :: x71 :: x72 :: x73 :: x74 :: x75 :: x76 :: x77 :: x78 :: x79 :: x80 :: x81 :: x82 :: x83 :: x84 :: x85 :: x86 :: x87 :: x88 :: x89 :: x90 :: x91 :: x92 :: x93 :: x94 :: x95 :: x96 :: x97 :: x98 :: x99 :: x100 :: x101 :: x102 :: x103 :: x104 :: x105 :: []), []⟩ w1 := by
  conv => arg 2; whnf
  obtain ⟨L0, e0⟩ : ∃ q, alX Ls [66, 89, 77, 79, 78, 84, 72] x.mo = q := ⟨_, rfl⟩
  have b0 := al_len Ls [66, 89, 77, 79, 78, 84, 72] x.mo
  rw [e0] at b0
  obtain ⟨L1, e1⟩ : ∃ q, alX L0 [66, 89, 87, 69, 69, 75, 78, 79] x.wn = q := ⟨_, rfl⟩
  have b1 := al_len L0 [66, 89, 87, 69, 69, 75, 78, 79] x.wn
  rw [e1] at b1
  obtain ⟨L2, e2⟩ : ∃ q, alX L1 [66, 89, 89, 69, 65, 82, 68, 65, 89] x.yd = q := ⟨_, rfl⟩
  have b2 := al_len L1 [66, 89, 89, 69, 65, 82, 68, 65, 89] x.yd
  rw [e2] at b2
  obtain ⟨L3, e3⟩ : ∃ q, alX L2 [66, 89, 77, 79, 78, 84, 72, 68, 65, 89] x.md = q := ⟨_, rfl⟩
  have b3 := al_len L2 [66, 89, 77, 79, 78, 84, 72, 68, 65, 89] x.md
  rw [e3] at b3
  obtain ⟨L4, e4⟩ : ∃ q, adX L3 x.dy = q := ⟨_, rfl⟩
  have b4 := ad_len L3 x.dy
  rw [e4] at b4
  obtain ⟨L5, e5⟩ : ∃ q, alX L4 [66, 89, 72, 79, 85, 82] x.hr = q := ⟨_, rfl⟩
  have b5 := al_len L4 [66, 89, 72, 79, 85, 82] x.hr
  rw [e5] at b5
  obtain ⟨L6, e6⟩ : ∃ q, alX L5 [66, 89, 77, 73, 78, 85, 84, 69] x.mi = q := ⟨_, rfl⟩
  have b6 := al_len L5 [66, 89, 77, 73, 78, 85, 84, 69] x.mi
  rw [e6] at b6
  obtain ⟨L7, e7⟩ : ∃ q, alX L6 [66, 89, 83, 69, 67, 79, 78, 68] x.sc = q := ⟨_, rfl⟩
  have b7 := al_len L6 [66, 89, 83, 69, 67, 79, 78, 68] x.sc
  rw [e7] at b7
  obtain ⟨L8, e8⟩ : ∃ q, alX L7 [66, 89, 83, 69, 84, 80, 79, 83] x.sp = q := ⟨_, rfl⟩
  have b8 := al_len L7 [66, 89, 83, 69, 84, 80, 79, 83] x.sp
  rw [e8] at b8
  have HJ : Hid (Lib.join (txW L8 x) [59] = J) := Lib.hid (by have q := hJ.out; rw [txL, e0, e1, e2, e3, e4, e5, e6, e7, e8] at q; exact q)
  have E0 := Lib.hid e0
  have E1 := Lib.hid e1
  have E2 := Lib.hid e2
  have E3 := Lib.hid e3
  have E4 := Lib.hid e4
  have E5 := Lib.hid e5
  have E6 := Lib.hid e6
  have E7 := Lib.hid e7
  have E8 := Lib.hid e8
  clear hJ e0 e1 e2 e3 e4 e5 e6 e7 e8
  have l13 := (C.out.2 13 _ rfl).1
  go_wp2_with fail
  refine (al_to _ Ls ⟨#[66, 89, 77, 79, 78, 84, 72]⟩ [66, 89, 77, 79, 78, 84, 72] s13 x.mo (w.heap.size + 1) _ (hp.out.stays B.out) R.out C.out.1 (by omega) (hl.out.h13.below B.out) hX.out.mo.1 (Lib.hid rfl) (by decide) (Lib.hid hX.out.mo.2)).mono ?_
  rintro e v0 ⟨u0_, rfl, r0, st0⟩
  rw [E0.out] at r0
  have R := r0
  have C' := Lib.hid (wps_lo C.out (st0 (w.heap.size + 1) _ (Nat.le_refl _) C.out.1 (Below.refl _ _)) (Nat.lt_succ_self _))
  have B := Lib.hid (st0 w.heap.size w (by omega) B.out.size B.out)
  clear l13 C st0 r0
  have C := C'
  clear C'
  have l12 := (C.out.2 12 _ rfl).1
  go_wp2_with fail
  refine (al_to _ L0 ⟨#[66, 89, 87, 69, 69, 75, 78, 79]⟩ [66, 89, 87, 69, 69, 75, 78, 79] s12 x.wn (w.heap.size + 1) _ (hp.out.stays B.out) R.out C.out.1 (by omega) (hl.out.h12.below B.out) hX.out.wn.1 (Lib.hid rfl) (by decide) (Lib.hid hX.out.wn.2)).mono ?_
  rintro e v1 ⟨u1_, rfl, r1, st1⟩
  rw [E1.out] at r1
  have R := r1
  have C' := Lib.hid (wps_lo C.out (st1 (w.heap.size + 1) _ (Nat.le_refl _) C.out.1 (Below.refl _ _)) (Nat.lt_succ_self _))
  have B := Lib.hid (st1 w.heap.size w (by omega) B.out.size B.out)
  clear l12 C st1 r1
  have C := C'
  clear C'
  have l11 := (C.out.2 11 _ rfl).1
  go_wp2_with fail
  refine (al_to _ L1 ⟨#[66, 89, 89, 69, 65, 82, 68, 65, 89]⟩ [66, 89, 89, 69, 65, 82, 68, 65, 89] s11 x.yd (w.heap.size + 1) _ (hp.out.stays B.out) R.out C.out.1 (by omega) (hl.out.h11.below B.out) hX.out.yd.1 (Lib.hid rfl) (by decide) (Lib.hid hX.out.yd.2)).mono ?_
  rintro e v2 ⟨u2_, rfl, r2, st2⟩
  rw [E2.out] at r2
  have R := r2
  have C' := Lib.hid (wps_lo C.out (st2 (w.heap.size + 1) _ (Nat.le_refl _) C.out.1 (Below.refl _ _)) (Nat.lt_succ_self _))
  have B := Lib.hid (st2 w.heap.size w (by omega) B.out.size B.out)
  clear l11 C st2 r2
  have C := C'
  clear C'
  have l10 := (C.out.2 10 _ rfl).1
  go_wp2_with fail
  refine (al_to _ L2 ⟨#[66, 89, 77, 79, 78, 84, 72, 68, 65, 89]⟩ [66, 89, 77, 79, 78, 84, 72, 68, 65, 89] s10 x.md (w.heap.size + 1) _ (hp.out.stays B.out) R.out C.out.1 (by omega) (hl.out.h10.below B.out) hX.out.md.1 (Lib.hid rfl) (by decide) (Lib.hid hX.out.md.2)).mono ?_
  rintro e v3 ⟨u3_, rfl, r3, st3⟩
  rw [E3.out] at r3
  have R := r3
  have C' := Lib.hid (wps_lo C.out (st3 (w.heap.size + 1) _ (Nat.le_refl _) C.out.1 (Below.refl _ _)) (Nat.lt_succ_self _))
  have B := Lib.hid (st3 w.heap.size w (by omega) B.out.size B.out)
  clear l10 C st3 r3
  have C := C'
  clear C'
  have l9 := (C.out.2 9 _ rfl).1
  go_wp2_with fail
  refine (ad_to _ L3 s9 x.dy (w.heap.size + 1) _ (hp.out.stays B.out) (StrT.below hD.out B.out) R.out C.out.1 (by omega) (hl.out.h9.below B.out) hX.out.dy.1 (Lib.hid hX.out.dy.2)).mono ?_
  rintro e v4 ⟨u4_, rfl, r4, st4⟩
  rw [E4.out] at r4
  have R := r4
  have C' := Lib.hid (wps_lo C.out (st4 (w.heap.size + 1) _ (Nat.le_refl _) C.out.1 (Below.refl _ _)) (Nat.lt_succ_self _))
  have B := Lib.hid (st4 w.heap.size w (by omega) B.out.size B.out)
  clear l9 C st4 r4
  have C := C'
  clear C'
  have l8 := (C.out.2 8 _ rfl).1
  go_wp2_with fail
  refine (al_to _ L4 ⟨#[66, 89, 72, 79, 85, 82]⟩ [66, 89, 72, 79, 85, 82] s8 x.hr (w.heap.size + 1) _ (hp.out.stays B.out) R.out C.out.1 (by omega) (hl.out.h8.below B.out) hX.out.hr.1 (Lib.hid rfl) (by decide) (Lib.hid hX.out.hr.2)).mono ?_
  rintro e v5 ⟨u5_, rfl, r5, st5⟩
  rw [E5.out] at r5
  have R := r5
  have C' := Lib.hid (wps_lo C.out (st5 (w.heap.size + 1) _ (Nat.le_refl _) C.out.1 (Below.refl _ _)) (Nat.lt_succ_self _))
  have B := Lib.hid (st5 w.heap.size w (by omega) B.out.size B.out)
  clear l8 C st5 r5
  have C := C'
  clear C'
  have l7 := (C.out.2 7 _ rfl).1
  go_wp2_with fail
  refine (al_to _ L5 ⟨#[66, 89, 77, 73, 78, 85, 84, 69]⟩ [66, 89, 77, 73, 78, 85, 84, 69] s7 x.mi (w.heap.size + 1) _ (hp.out.stays B.out) R.out C.out.1 (by omega) (hl.out.h7.below B.out) hX.out.mi.1 (Lib.hid rfl) (by decide) (Lib.hid hX.out.mi.2)).mono ?_
  rintro e v6 ⟨u6_, rfl, r6, st6⟩
  rw [E6.out] at r6
  have R := r6
  have C' := Lib.hid (wps_lo C.out (st6 (w.heap.size + 1) _ (Nat.le_refl _) C.out.1 (Below.refl _ _)) (Nat.lt_succ_self _))
  have B := Lib.hid (st6 w.heap.size w (by omega) B.out.size B.out)
  clear l7 C st6 r6
  have C := C'
  clear C'
  have l6 := (C.out.2 6 _ rfl).1
  go_wp2_with fail
  refine (al_to _ L6 ⟨#[66, 89, 83, 69, 67, 79, 78, 68]⟩ [66, 89, 83, 69, 67, 79, 78, 68] s6 x.sc (w.heap.size + 1) _ (hp.out.stays B.out) R.out C.out.1 (by omega) (hl.out.h6.below B.out) hX.out.sc.1 (Lib.hid rfl) (by decide) (Lib.hid hX.out.sc.2)).mono ?_
  rintro e v7 ⟨u7_, rfl, r7, st7⟩
  rw [E7.out] at r7
  have R := r7
  have C' := Lib.hid (wps_lo C.out (st7 (w.heap.size + 1) _ (Nat.le_refl _) C.out.1 (Below.refl _ _)) (Nat.lt_succ_self _))
  have B := Lib.hid (st7 w.heap.size w (by omega) B.out.size B.out)
  clear l6 C st7 r7
  have C := C'
  clear C'
  go_upto_region 22 with fail
  go_cut [5] (fun v wz => Hid (RowT (w.heap.size + 1) wz v L8) ∧ Hid (Cs w.heap.size wz [.int .i64 x.fq, .int .i64 x.iv, .int .i64 x.ct, .bool x.un, .int .i64 x.ua, .bool x.ut, s6, s7, s8, s9, s10, s11, s12, s13, s14, .int .i64 x.wk]) ∧ Hid (Below w.heap.size w wz))
  case first =>
    have l14 := (C.out.2 14 _ rfl).1
    go_wp2_with fail
    refine (al_to _ L7 ⟨#[66, 89, 83, 69, 84, 80, 79, 83]⟩ [66, 89, 83, 69, 84, 80, 79, 83] s14 x.sp (w.heap.size + 1) _ (hp.out.stays B.out) R.out C.out.1 (by omega) (hl.out.h14.below B.out) hX.out.sp.1 (Lib.hid rfl) (by decide) (Lib.hid hX.out.sp.2)).mono ?_
    rintro e v8 ⟨u8_, rfl, r8, st8⟩
    rw [E8.out] at r8
    have R := r8
    have C' := Lib.hid (wps_lo C.out (st8 (w.heap.size + 1) _ (Nat.le_refl _) C.out.1 (Below.refl _ _)) (Nat.lt_succ_self _))
    have B := Lib.hid (st8 w.heap.size w (by omega) B.out.size B.out)
    clear l14 C st8 r8
    have C := C'
    clear C'
    go_wp2
    go_meet
    exact ⟨R, C, B⟩
  case rest =>
  obtain ⟨w3, rfl⟩ : ∃ x : World, x = wc := ⟨_, rfl⟩
  obtain ⟨R9, C9, B9⟩ := hcut
  clear R C B
  have R := R9
  have C := C9
  have B := B9
  rename_i hK
  exact hK _ _ (txD x _ L8 J s6 s7 s8 s9 s10 s11 s12 s13 s14 w _ hX.out.wk hD C R B (by omega) (by omega) HJ hJl _ _ _ _ _ _ _ _ _ _ _ _ _ _ _ _ _ _ _ _ _ _ _ _ _ _ _ _ _ _ _ _ _ _ _ _ _ _ _ _ _ _ _ _ _ _ _ _ _ _ _ _ _ _ _ _ _ _ _ _ _ _ _ _ _ _ _ _ _ _ _ _ _ _ _ _ _ _ _ _ _ _ _ _ _ _ _ _ _ _ _ _ _ _ _ _ _ _ _ _ _ _ _ _)
end Rct
end Go.Proofs.YtbeefhmnoihmcaaGreatDoor
