/-
  recur.Text. (Written by gen/gen_rctc.py.)
-/
import Derived.Test.YtbeefhmnoihmcaaGreatDoorRctD
namespace Go.Proofs.YtbeefhmnoihmcaaGreatDoor
open Go.RowKit
namespace Rct
open Cel
open Rcp
open Ap (Grew)
open Rcv (CV IntV DayV LisV)
open Rck (Small ckE ckB)
open Civ (Ahead)
def unX (Ls : List (List UInt8)) (x : CV) : List (List UInt8) := if x.un = true then Ls ++ [[85, 78, 84, 73, 76, 61] ++ Val.tmS x.ua x.ut] else Ls
def cnX (Ls : List (List UInt8)) (x : CV) : List (List UInt8) := if 0 < x.ct then Ls ++ [[67, 79, 85, 78, 84, 61] ++ Sol.textL x.ct 0] else Ls
def inX (Ls : List (List UInt8)) (x : CV) : List (List UInt8) := if 1 < x.iv then Ls ++ [[73, 78, 84, 69, 82, 86, 65, 76, 61] ++ Sol.textL x.iv 0] else Ls
def txG (Ls : List (List UInt8)) (x : CV) : List UInt8 × Int := if x.un = true ∧ Val.tmE x.ua ≠ 0 then ([], 21) else (Lib.join (txW (txL (unX Ls x) x) x) [59], 0)
theorem tl_len {n d : Int} (h : n ≤ 9223372036854775807) : (Sol.textL n d).length ≤ 40 := by
  rw [Sol.textL]
  split
  · simp
  · have a := Sol.decDigits_len (k := 19) (u := n.toNat) (by omega)
    rw [Sol.padL, List.length_append, List.length_replicate]
    split <;> omega
theorem tm_len {t : Int} (u : Bool) : (Val.tmS t u).length ≤ 300 := by
  rw [Val.tmS]
  split
  · rename_i h
    rw [Val.tmE] at h
    split at h
    · rename_i h2
      have q := Val.dd_in h2.1
      have m := Int.emod_nonneg t (show (86400 : Int) ≠ 0 by decide)
      have m2 := Int.emod_lt_of_pos t (show (0 : Int) < 86400 by decide)
      have a1 := tl_len (n := Civ.dY (t / 86400)) (d := 4) (by omega)
      have a2 := tl_len (n := Civ.dM (t / 86400)) (d := 2) (by omega)
      have a3 := tl_len (n := Civ.dD (t / 86400)) (d := 2) (by omega)
      have a4 := tl_len (n := t % 86400 / 3600) (d := 2) (by omega)
      have a5 := tl_len (n := t % 86400 / 60 % 60) (d := 2) (by omega)
      have a6 := tl_len (n := t % 86400 % 60) (d := 2) (by omega)
      have b : ((if u = true then [90] else []) : List UInt8).length ≤ 1 := by split <;> simp
      rw [Val.tmL, Val.tmT]
      rw [List.length_append, List.length_append, List.length_append, List.length_append, List.length_append, List.length_append, List.length_append]
      have b2 : ([84] : List UInt8).length = 1 := rfl
      omega
    · cases h
  · simp
noncomputable def codeU : Code := (Tryz.f8.body.bind (fromT 9)).getD .skip
set_option maxHeartbeats 6400000 in
set_option maxRecDepth 100000 in
theorem txU (x : CV) (lv : Value) (Ls : List (List UInt8)) (T : List UInt8) (c : Int) (s6 s7 s8 s9 s10 s11 s12 s13 s14 : Value) (w w1 : World) (_hb : x.iv ≤ 1000 ∧ x.ct ≤ 100000) (hX : Hid (WrX x)) (hp : Hid (Pow w)) (hD : Hid (DayT w)) (hA : Hid (Ahead w)) (hu : Hid (-1000000000000 ≤ x.ua ∧ x.ua ≤ 1000000000000)) (hl : Hid (LisV w x s6 s7 s8 s9 s10 s11 s12 s13 s14)) (C : Hid (Cs w.heap.size w1 [.int .i64 x.fq, .int .i64 x.iv, .int .i64 x.ct, .bool x.un, .int .i64 x.ua, .bool x.ut, s6, s7, s8, s9, s10, s11, s12, s13, s14, .int .i64 x.wk])) (R : Hid (RowT (w.heap.size + 1) w1 lv Ls)) (B : Hid (Below w.heap.size w w1)) (hn : Ls.length ≤ 48) (h0 : 0 < Ls.length) (hJ : Hid (txG Ls x = (T, c))) (hJl : T.length ≤ 10000000)
    (x0 x2 x3 x4 x6 x7 x8 x9 x10 x11 x12 x13 x14 x15 x16 x17 x18 x19 x20 x21 x22 x23 x24 x25 x26 x27 x28 x29 x30 x31 x32 x33 x34 x35 x36 x37 x38 x39 x40 x41 x42 x43 x44 x45 x46 x47 x48 x49 x50 x51 x52 x53 x54 x55 x56 x57 x58 x59 x60 x61 x62 x63 x64 x65 x66 x67 x68 x69 x70 x71 x72 x73 x74 x75 x76 x77 x78 x79 x80 x81 x82 x83 x84 x85 x86 x87 x88 x89 x90 x91 x92 x93 x94 x95 x96 x97 x98 x99 x100 x101 x102 x103 x104 x105 : Value) : Code.wp Tryz.prog codeU (bodyPost Tryz.prog Tryz.f8 (fun e w' => e = .returned (.tuple #[.string ⟨T.toArray⟩, .int .i64 c]) ∧ Below w.heap.size w w')) ⟨List.toArray (x0 :: .pointer (some ⟨w.heap.size, 0, none⟩) :: x2 :: x3 :: x4 :: lv :: x6 :: x7 :: x8 :: x9 :: x10 :: x11 :: x12 :: x13 :: x14 :: x15 :: x16 :: x17 :: x18 :: x19 :: x20 :: x21 :: x22 :: x23 :: x24 :: x25 :: x26 :: x27 :: x28 :: x29 :: x30 :: x31 :: x32 :: x33 :: x34 :: x35 :: x36 :: x37 :: x38 :: x39 :: x40 :: x41 :: x42 :: x43 :: x44 :: x45 :: x46 :: x47 :: x48 :: x49 :: x50 :: x51 :: x52 :: x53 :: x54 :: x55 :: x56 :: x57 :: x58 :: x59 :: x60 :: x61 :: x62 :: x63 :: x64 :: x65 :: x66 :: x67 :: x68 :: x69 :: x70 :: x71 :: x72 :: x73 :: x74 :: x75 :: x76 :: x77 :: x78 :: x79 :: x80 :: x81 :: x82 :: x83 :: x84 :: x85 :: x86 :: x87 :: x88 :: x89 :: x90 :: x91 :: x92 :: x93 :: x94 :: x95 :: x96 :: x97 :: x98 :: x99 :: x100 :: x101 :: x102 :: x103 :: x104 :: x105 :: []), []⟩ w1 := by
  conv => arg 2; whnf
  have l3 := (C.out.2 3 _ rfl).1
  have l4 := (C.out.2 4 _ rfl).1
  have l5 := (C.out.2 5 _ rfl).1
  obtain ⟨L1, hL1⟩ : ∃ q, unX Ls x = q := ⟨_, rfl⟩
  have H1 := Lib.hid hL1
  have hL1n : 0 < L1.length ∧ L1.length ≤ Ls.length + 1 := by rw [← hL1, unX]; split <;> simp <;> omega
  obtain ⟨E, hE⟩ : ∃ E, Val.tmE x.ua = E := ⟨_, rfl⟩
  obtain ⟨V, hV⟩ : ∃ V, Val.tmS x.ua x.ut = V := ⟨_, rfl⟩
  have vl : V.length ≤ 300 := by rw [← hV]; exact tm_len _
  have HT := Lib.hid (And.intro hV hE)
  have HJ : Hid ((if x.un = true ∧ E ≠ 0 then (([] : List UInt8), (21 : Int)) else (Lib.join (txW (txL L1 x) x) [59], 0)) = (T, c)) := Lib.hid (by have q := hJ.out; rw [txG, hL1, hE] at q; exact q)
  clear hL1 hJ hE hV
  go_upto_if 41 with fail
  go_cut [5] (fun v wz => Hid (¬ (x.un = true ∧ E ≠ 0)) ∧ Hid (RowT (w.heap.size + 1) wz v L1) ∧ Hid (Cs w.heap.size wz [.int .i64 x.fq, .int .i64 x.iv, .int .i64 x.ct, .bool x.un, .int .i64 x.ua, .bool x.ut, s6, s7, s8, s9, s10, s11, s12, s13, s14, .int .i64 x.wk]) ∧ Hid (Below w.heap.size w wz))
  case first =>
    cases z : x.un with
    | false =>
      have HE : Hid (L1 = Ls) := Lib.hid (by rw [← H1.out, unX, if_neg (by rw [z]; decide)])
      rw [z] at l3
      go_wp2
      go_meet
      exact ⟨Lib.hid (fun q => absurd q.1 (by rw [z]; decide)), by rw [HE.out]; exact R, C, B⟩
    | true =>
      have HE : Hid (L1 = Ls ++ [[85, 78, 84, 73, 76, 61] ++ V]) := Lib.hid (by rw [← H1.out, unX, if_pos z, HT.out.1])
      have HY : Hid (⟨#[85, 78, 84, 73, 76, 61]⟩ ++ ⟨V.toArray⟩ = (⟨([85, 78, 84, 73, 76, 61] ++ V).toArray⟩ : ByteArray)) := Lib.hid (ByteArray.ext (Array.toList_inj.1 (by simp)))
      have q2 : ¬ 9223372036854775807 < 6 + V.length := by omega
      have hn8 : Ls.length ≤ 100000000 := by omega
      rw [z] at l3
      go_wp2_with fail
      refine (Val.time_to x.ua x.ut V E _ (hA.out.stays B.out) (hp.out.stays B.out) (by have := hu.out; omega) (by have := hu.out; omega) HT).mono ?_
      rintro e w2 ⟨rfl, k2⟩
      have R2 := Lib.hid (R.out.below k2)
      have B2 := Lib.hid (bstep B.out k2)
      have C2 := Lib.hid (C.out.below k2)
      have hB2 : w.heap.size + 1 ≤ w2.heap.size := C2.out.1
      clear k2
      by_cases y : E = 0
      · have e0 : (E != 0) = false := by rw [y]; rfl
        go_wp2_with (at_builtin; refine appT rfl _ _ rfl (w.heap.size + 1) lv Ls rfl R2.out ([85, 78, 84, 73, 76, 61] ++ V) _ HY.out rfl hn8 hB2 ?_)
        intro w5 gg gcap r5 g5
        have R5 : Hid (RowT (w.heap.size + 1) w5 _ L1) := Lib.hid (by rw [HE.out]; exact r5)
        have B5 := Lib.hid (g5.below w.heap.size w (by omega) B2.out B2.out.size)
        have C5 := Lib.hid (cs_grew C2.out g5 (own_ne R2.out (Nat.lt_succ_self _)))
        clear r5 g5
        go_wp2
        go_meet
        exact ⟨Lib.hid (fun q => q.2 y), R5, C5, B5⟩
      · have e0 : (E != 0) = true := by rw [bne, beq_eq_false_iff_ne.2 y]; rfl
        have q := HJ.out
        rw [if_pos ⟨z, y⟩] at q
        obtain ⟨rfl, rfl⟩ := Prod.mk.inj q
        clear q HJ
        go_wp2
        go_ret2
        exact ⟨rfl, B2.out⟩
  case rest =>
  obtain ⟨w3, rfl⟩ : ∃ x : World, x = wc := ⟨_, rfl⟩
  obtain ⟨HN, R9, C9, B9⟩ := hcut
  have q := HJ.out
  rw [if_neg HN.out] at q
  obtain ⟨hq, rfl⟩ := Prod.mk.inj q
  rename_i hK
  exact hK _ _ (txC x _ L1 T s6 s7 s8 s9 s10 s11 s12 s13 s14 w _ hX hp hD hl C9 R9 B9 (by omega) (by omega) (Lib.hid hq) hJl _ _ _ _ _ _ _ _ _ _ _ _ _ _ _ _ _ _ _ _ _ _ _ _ _ _ _ _ _ _ _ _ _ _ _ _ _ _ _ _ _ _ _ _ _ _ _ _ _ _ _ _ _ _ _ _ _ _ _ _ _ _ _ _ _ _ _ _ _ _ _ _ _ _ _ _ _ _ _ _ _ _ _ _ _ _ _ _ _ _ _ _ _ _ _ _ _ _ _ _ _ _ _ _)
noncomputable def codeN : Code := (Tryz.f8.body.bind (fromT 7)).getD .skip
set_option maxHeartbeats 6400000 in
set_option maxRecDepth 100000 in
theorem txN (x : CV) (lv : Value) (Ls : List (List UInt8)) (T : List UInt8) (c : Int) (s6 s7 s8 s9 s10 s11 s12 s13 s14 : Value) (w w1 : World) (hb : x.iv ≤ 1000 ∧ x.ct ≤ 100000) (hX : Hid (WrX x)) (hp : Hid (Pow w)) (hD : Hid (DayT w)) (hA : Hid (Ahead w)) (hu : Hid (-1000000000000 ≤ x.ua ∧ x.ua ≤ 1000000000000)) (hl : Hid (LisV w x s6 s7 s8 s9 s10 s11 s12 s13 s14)) (C : Hid (Cs w.heap.size w1 [.int .i64 x.fq, .int .i64 x.iv, .int .i64 x.ct, .bool x.un, .int .i64 x.ua, .bool x.ut, s6, s7, s8, s9, s10, s11, s12, s13, s14, .int .i64 x.wk])) (R : Hid (RowT (w.heap.size + 1) w1 lv Ls)) (B : Hid (Below w.heap.size w w1)) (hn : Ls.length ≤ 47) (h0 : 0 < Ls.length) (hJ : Hid (txG (cnX Ls x) x = (T, c))) (hJl : T.length ≤ 10000000)
    (x0 x2 x3 x4 x6 x7 x8 x9 x10 x11 x12 x13 x14 x15 x16 x17 x18 x19 x20 x21 x22 x23 x24 x25 x26 x27 x28 x29 x30 x31 x32 x33 x34 x35 x36 x37 x38 x39 x40 x41 x42 x43 x44 x45 x46 x47 x48 x49 x50 x51 x52 x53 x54 x55 x56 x57 x58 x59 x60 x61 x62 x63 x64 x65 x66 x67 x68 x69 x70 x71 x72 x73 x74 x75 x76 x77 x78 x79 x80 x81 x82 x83 x84 x85 x86 x87 x88 x89 x90 x91 x92 x93 x94 x95 x96 x97 x98 x99 x100 x101 x102 x103 x104 x105 : Value) : Code.wp Tryz.prog codeN (bodyPost Tryz.prog Tryz.f8 (fun e w' => e = .returned (.tuple #[.string ⟨T.toArray⟩, .int .i64 c]) ∧ Below w.heap.size w w')) ⟨List.toArray (x0 :: .pointer (some ⟨w.heap.size, 0, none⟩) :: x2 :: x3 :: x4 :: lv :: x6 :: x7 :: x8 :: x9 :: x10 :: x11 :: x12 :: x13 :: x14 :: x15 :: x16 :: x17 :: x18 :: x19 :: x20 :: x21 :: x22 :: x23 :: x24 :: x25 :: x26 :: x27 :: x28 :: x29 :: x30 :: x31 :: x32 :: x33 :: x34 :: x35 :: x36 :: x37 :: x38 :: x39 :: x40 :: x41 :: x42 :: x43 :: x44 :: x45 :: x46 :: x47 :: x48 :: x49 :: x50 :: x51 :: x52 :: x53 :: x54 :: x55 :: x56 :: x57 :: x58 :: x59 :: x60 :: x61 :: x62 :: x63 :: x64 :: x65 :: x66 :: x67 :: x68 :: x69 :: x70 :: x71 :: x72 :: x73 :: x74 :: x75 :: x76 :: x77 :: x78 :: x79 :: x80 :: x81 :: x82 :: x83 :: x84 :: x85 :: x86 :: x87 :: x88 :: x89 :: x90 :: x91 :: x92 :: x93 :: x94 :: x95 :: x96 :: x97 :: x98 :: x99 :: x100 :: x101 :: x102 :: x103 :: x104 :: x105 :: []), []⟩ w1 := by
  conv => arg 2; whnf
  have l2 := (C.out.2 2 _ rfl).1
  obtain ⟨L1, hL1⟩ : ∃ q, cnX Ls x = q := ⟨_, rfl⟩
  have H1 := Lib.hid hL1
  have hL1n : 0 < L1.length ∧ L1.length ≤ Ls.length + 1 := by rw [← hL1, cnX]; split <;> simp <;> omega
  have HJ : Hid (txG L1 x = (T, c)) := Lib.hid (by have q := hJ.out; rw [hL1] at q; exact q)
  clear hL1 hJ
  go_upto_if 32 with fail
  go_cut [5] (fun v wz => Hid (RowT (w.heap.size + 1) wz v L1) ∧ Hid (Cs w.heap.size wz [.int .i64 x.fq, .int .i64 x.iv, .int .i64 x.ct, .bool x.un, .int .i64 x.ua, .bool x.ut, s6, s7, s8, s9, s10, s11, s12, s13, s14, .int .i64 x.wk]) ∧ Hid (Below w.heap.size w wz))
  case first =>
    by_cases z : 0 < x.ct
    · obtain ⟨V, hV⟩ : ∃ V, Sol.textL x.ct 0 = V := ⟨_, rfl⟩
      have vl : V.length ≤ 40 := by rw [← hV]; exact tl_len (by omega)
      have HE : Hid (L1 = Ls ++ [[67, 79, 85, 78, 84, 61] ++ V]) := Lib.hid (by rw [← H1.out, cnX, if_pos z, hV])
      have HV := Lib.hid hV
      have HY : Hid (⟨#[67, 79, 85, 78, 84, 61]⟩ ++ ⟨V.toArray⟩ = (⟨([67, 79, 85, 78, 84, 61] ++ V).toArray⟩ : ByteArray)) := Lib.hid (ByteArray.ext (Array.toList_inj.1 (by simp)))
      have q2 : ¬ 9223372036854775807 < 6 + V.length := by omega
      have hn8 : Ls.length ≤ 100000000 := by omega
      clear hV
      go_wp2_with fail
      refine (Val.text_to x.ct 0 V _ (by omega) (by omega) (by decide) (by decide) (hp.out.stays B.out) HV).mono ?_
      rintro e w2 ⟨rfl, k2⟩
      have R2 := Lib.hid (R.out.below k2)
      have B2 := Lib.hid (bstep B.out k2)
      have C2 := Lib.hid (C.out.below k2)
      have hB2 : w.heap.size + 1 ≤ w2.heap.size := C2.out.1
      clear k2
      go_wp2_with (at_builtin; refine appT rfl _ _ rfl (w.heap.size + 1) lv Ls rfl R2.out ([67, 79, 85, 78, 84, 61] ++ V) _ HY.out rfl hn8 hB2 ?_)
      intro w5 gg gcap r5 g5
      have R5 : Hid (RowT (w.heap.size + 1) w5 _ L1) := Lib.hid (by rw [HE.out]; exact r5)
      have B5 := Lib.hid (g5.below w.heap.size w (by omega) B2.out B2.out.size)
      have C5 := Lib.hid (cs_grew C2.out g5 (own_ne R2.out (Nat.lt_succ_self _)))
      clear r5 g5
      go_wp2
      go_meet
      exact ⟨R5, C5, B5⟩
    · have HE : Hid (L1 = Ls) := Lib.hid (by rw [← H1.out, cnX, if_neg z])
      go_wp2
      go_meet
      exact ⟨by rw [HE.out]; exact R, C, B⟩
  case rest =>
  obtain ⟨w3, rfl⟩ : ∃ x : World, x = wc := ⟨_, rfl⟩
  obtain ⟨R9, C9, B9⟩ := hcut
  rename_i hK
  exact hK _ _ (txU x _ L1 T c s6 s7 s8 s9 s10 s11 s12 s13 s14 w _ hb hX hp hD hA hu hl C9 R9 B9 (by omega) (by omega) HJ hJl _ _ _ _ _ _ _ _ _ _ _ _ _ _ _ _ _ _ _ _ _ _ _ _ _ _ _ _ _ _ _ _ _ _ _ _ _ _ _ _ _ _ _ _ _ _ _ _ _ _ _ _ _ _ _ _ _ _ _ _ _ _ _ _ _ _ _ _ _ _ _ _ _ _ _ _ _ _ _ _ _ _ _ _ _ _ _ _ _ _ _ _ _ _ _ _ _ _ _ _ _ _ _ _)
noncomputable def codeI : Code := (Tryz.f8.body.bind (fromT 5)).getD .skip
set_option maxHeartbeats 6400000 in
set_option maxRecDepth 100000 in
theorem txI (x : CV) (lv : Value) (Ls : List (List UInt8)) (T : List UInt8) (c : Int) (s6 s7 s8 s9 s10 s11 s12 s13 s14 : Value) (w w1 : World) (hb : x.iv ≤ 1000 ∧ x.ct ≤ 100000) (hX : Hid (WrX x)) (hp : Hid (Pow w)) (hD : Hid (DayT w)) (hA : Hid (Ahead w)) (hu : Hid (-1000000000000 ≤ x.ua ∧ x.ua ≤ 1000000000000)) (hl : Hid (LisV w x s6 s7 s8 s9 s10 s11 s12 s13 s14)) (C : Hid (Cs w.heap.size w1 [.int .i64 x.fq, .int .i64 x.iv, .int .i64 x.ct, .bool x.un, .int .i64 x.ua, .bool x.ut, s6, s7, s8, s9, s10, s11, s12, s13, s14, .int .i64 x.wk])) (R : Hid (RowT (w.heap.size + 1) w1 lv Ls)) (B : Hid (Below w.heap.size w w1)) (hn : Ls.length ≤ 46) (h0 : 0 < Ls.length) (hJ : Hid (txG (cnX (inX Ls x) x) x = (T, c))) (hJl : T.length ≤ 10000000)
    (x0 x2 x3 x4 x6 x7 x8 x9 x10 x11 x12 x13 x14 x15 x16 x17 x18 x19 x20 x21 x22 x23 x24 x25 x26 x27 x28 x29 x30 x31 x32 x33 x34 x35 x36 x37 x38 x39 x40 x41 x42 x43 x44 x45 x46 x47 x48 x49 x50 x51 x52 x53 x54 x55 x56 x57 x58 x59 x60 x61 x62 x63 x64 x65 x66 x67 x68 x69 x70 x71 x72 x73 x74 x75 x76 x77 x78 x79 x80 x81 x82 x83 x84 x85 x86 x87 x88 x89 x90 x91 x92 x93 x94 x95 x96 x97 x98 x99 x100 x101 x102 x103 x104 x105 : Value) : Code.wp Tryz.prog codeI (bodyPost Tryz.prog Tryz.f8 (fun e w' => e = .returned (.tuple #[.string ⟨T.toArray⟩, .int .i64 c]) ∧ Below w.heap.size w w')) ⟨List.toArray (x0 :: .pointer (some ⟨w.heap.size, 0, none⟩) :: x2 :: x3 :: x4 :: lv :: x6 :: x7 :: x8 :: x9 :: x10 :: x11 :: x12 :: x13 :: x14 :: x15 :: x16 :: x17 :: x18 :: x19 :: x20 :: x21 :: x22 :: x23 :: x24 :: x25 :: x26 :: x27 :: x28 :: x29 :: x30 :: x31 :: x32 :: x33 :: x34 :: x35 :: x36 :: x37 :: x38 :: x39 :: x40 :: x41 :: x42 :: x43 :: x44 :: x45 :: x46 :: x47 :: x48 :: x49 :: x50 :: x51 :: x52 :: x53 :: x54 :: x55 :: x56 :: x57 :: x58 :: x59 :: x60 :: x61 :: x62 :: x63 :: x64 :: x65 :: x66 :: x67 :: x68 :: x69 :: x70 :: x71 :: x72 :: x73 :: x74 :: x75 :: x76 :: x77 :: x78 :: x79 :: x80 :: x81 :: x82 :: x83 :: x84 :: x85 :: x86 :: x87 :: x88 :: x89 :: x90 :: x91 :: x92 :: x93 :: x94 :: x95 :: x96 :: x97 :: x98 :: x99 :: x100 :: x101 :: x102 :: x103 :: x104 :: x105 :: []), []⟩ w1 := by
  conv => arg 2; whnf
  have l1 := (C.out.2 1 _ rfl).1
  obtain ⟨L1, hL1⟩ : ∃ q, inX Ls x = q := ⟨_, rfl⟩
  have H1 := Lib.hid hL1
  have hL1n : 0 < L1.length ∧ L1.length ≤ Ls.length + 1 := by rw [← hL1, inX]; split <;> simp <;> omega
  have HJ : Hid (txG (cnX L1 x) x = (T, c)) := Lib.hid (by have q := hJ.out; rw [hL1] at q; exact q)
  clear hL1 hJ
  go_upto_if 22 with fail
  go_cut [5] (fun v wz => Hid (RowT (w.heap.size + 1) wz v L1) ∧ Hid (Cs w.heap.size wz [.int .i64 x.fq, .int .i64 x.iv, .int .i64 x.ct, .bool x.un, .int .i64 x.ua, .bool x.ut, s6, s7, s8, s9, s10, s11, s12, s13, s14, .int .i64 x.wk]) ∧ Hid (Below w.heap.size w wz))
  case first =>
    by_cases z : 1 < x.iv
    · obtain ⟨V, hV⟩ : ∃ V, Sol.textL x.iv 0 = V := ⟨_, rfl⟩
      have vl : V.length ≤ 40 := by rw [← hV]; exact tl_len (by omega)
      have HE : Hid (L1 = Ls ++ [[73, 78, 84, 69, 82, 86, 65, 76, 61] ++ V]) := Lib.hid (by rw [← H1.out, inX, if_pos z, hV])
      have HV := Lib.hid hV
      have HY : Hid (⟨#[73, 78, 84, 69, 82, 86, 65, 76, 61]⟩ ++ ⟨V.toArray⟩ = (⟨([73, 78, 84, 69, 82, 86, 65, 76, 61] ++ V).toArray⟩ : ByteArray)) := Lib.hid (ByteArray.ext (Array.toList_inj.1 (by simp)))
      have q2 : ¬ 9223372036854775807 < 9 + V.length := by omega
      have hn8 : Ls.length ≤ 100000000 := by omega
      clear hV
      go_wp2_with fail
      refine (Val.text_to x.iv 0 V _ (by omega) (by omega) (by decide) (by decide) (hp.out.stays B.out) HV).mono ?_
      rintro e w2 ⟨rfl, k2⟩
      have R2 := Lib.hid (R.out.below k2)
      have B2 := Lib.hid (bstep B.out k2)
      have C2 := Lib.hid (C.out.below k2)
      have hB2 : w.heap.size + 1 ≤ w2.heap.size := C2.out.1
      clear k2
      go_wp2_with (at_builtin; refine appT rfl _ _ rfl (w.heap.size + 1) lv Ls rfl R2.out ([73, 78, 84, 69, 82, 86, 65, 76, 61] ++ V) _ HY.out rfl hn8 hB2 ?_)
      intro w5 gg gcap r5 g5
      have R5 : Hid (RowT (w.heap.size + 1) w5 _ L1) := Lib.hid (by rw [HE.out]; exact r5)
      have B5 := Lib.hid (g5.below w.heap.size w (by omega) B2.out B2.out.size)
      have C5 := Lib.hid (cs_grew C2.out g5 (own_ne R2.out (Nat.lt_succ_self _)))
      clear r5 g5
      go_wp2
      go_meet
      exact ⟨R5, C5, B5⟩
    · have HE : Hid (L1 = Ls) := Lib.hid (by rw [← H1.out, inX, if_neg z])
      go_wp2
      go_meet
      exact ⟨by rw [HE.out]; exact R, C, B⟩
  case rest =>
  obtain ⟨w3, rfl⟩ : ∃ x : World, x = wc := ⟨_, rfl⟩
  obtain ⟨R9, C9, B9⟩ := hcut
  rename_i hK
  exact hK _ _ (txN x _ L1 T c s6 s7 s8 s9 s10 s11 s12 s13 s14 w _ hb hX hp hD hA hu hl C9 R9 B9 (by omega) (by omega) HJ hJl _ _ _ _ _ _ _ _ _ _ _ _ _ _ _ _ _ _ _ _ _ _ _ _ _ _ _ _ _ _ _ _ _ _ _ _ _ _ _ _ _ _ _ _ _ _ _ _ _ _ _ _ _ _ _ _ _ _ _ _ _ _ _ _ _ _ _ _ _ _ _ _ _ _ _ _ _ _ _ _ _ _ _ _ _ _ _ _ _ _ _ _ _ _ _ _ _ _ _ _ _ _ _ _)
end Rct
end Go.Proofs.YtbeefhmnoihmcaaGreatDoor
