/-
  recur.Text. (Written by gen/gen_rctc.py.)
-/
import Derived.Test.YtbeefhmnoihmcaaGreatDoorRctB
import Derived.Test.YtbeefhmnoihmcaaGreatDoorVal4
namespace Go.Proofs.YtbeefhmnoihmcaaGreatDoor
open Go.RowKit
namespace Rct
open Cel
open Rcp
open Ap (Grew)
open Rcv (CV IntV DayV LisV)
open Rck (Small ckE ckB)
open Civ (Ahead)
/-- A rule's parts: the head, the lists, the week's first day. -/
def txH (x : CV) : List (List UInt8) := [[70, 82, 69, 81, 61] ++ freqL.getD (x.fq - 1).toNat []] ++ (if 1 < x.iv then [[73, 78, 84, 69, 82, 86, 65, 76, 61] ++ Sol.textL x.iv 0] else []) ++ (if 0 < x.ct then [[67, 79, 85, 78, 84, 61] ++ Sol.textL x.ct 0] else []) ++ (if x.un = true then [[85, 78, 84, 73, 76, 61] ++ Val.tmS x.ua x.ut] else [])
def txL (Ls : List (List UInt8)) (x : CV) : List (List UInt8) := alX (alX (alX (alX (adX (alX (alX (alX (alX (Ls) [66, 89, 77, 79, 78, 84, 72] x.mo) [66, 89, 87, 69, 69, 75, 78, 79] x.wn) [66, 89, 89, 69, 65, 82, 68, 65, 89] x.yd) [66, 89, 77, 79, 78, 84, 72, 68, 65, 89] x.md) x.dy) [66, 89, 72, 79, 85, 82] x.hr) [66, 89, 77, 73, 78, 85, 84, 69] x.mi) [66, 89, 83, 69, 67, 79, 78, 68] x.sc) [66, 89, 83, 69, 84, 80, 79, 83] x.sp
def txW (Ls : List (List UInt8)) (x : CV) : List (List UInt8) := if x.wk ≠ 1 then Ls ++ [[87, 75, 83, 84, 61] ++ dayL.getD x.wk.toNat []] else Ls
/-- A rule's text. -/
def txP (x : CV) : List UInt8 × Int := if ckE x ≠ 0 then ([], ckE x) else if x.un = true ∧ Val.tmE x.ua ≠ 0 then ([], 21) else (Lib.join (txW (txL (txH x) x) x) [59], 0)
theorem wps_lo {g B : Nat} {w w' : World} {vs : List Value} (h : Cs g w vs) (hb : Below B w w') (hg : g < B) : Cs g w' vs :=
  ⟨Nat.lt_of_lt_of_le h.1 hb.size, fun i v hi => ⟨(hb.cell (p := ⟨g, i, none⟩) hg).trans (h.2 i v hi).1, (hb.frozen (p := ⟨g, i, none⟩) hg).trans (h.2 i v hi).2⟩⟩
def startsT (n : Nat) : Code → Bool
  | .region k _ _ => k == n
  | .seq a _ => startsT n a
  | .scope a => startsT n a
  | .block _ a => startsT n a
  | _ => false
def fromT (n : Nat) : Code → Option Code
  | .seq a b => if startsT n a = true then some (.seq a b) else fromT n b
  | c => if startsT n c = true then some c else none
theorem jt_to (v : Value) (Ls : List (List UInt8)) (J : List UInt8) (B : Nat) (w : World) (hr : RowT B w v Ls) (h0 : 0 < Ls.length) (hn : Ls.length ≤ 100000) (hJ : Hid (Lib.join Ls [59] = J)) (hJl : J.length ≤ 10000000) :
    Calls Tryz.prog 21 #[v, .string ⟨#[59]⟩] w fun e w' => e = .returned (.string ⟨J.toArray⟩) ∧ Below w.heap.size w w' := by
  obtain ⟨g, c, rfl, hB, hl, hc⟩ := hr.form h0
  have e : (Ls.map (fun t => (⟨t.toArray⟩ : ByteArray))).map (·.data.toList) = Ls := by rw [List.map_map]; exact List.map_id Ls
  have hc2 := Ap.own_cap hr
  have h := Tryz.strings_Join g 0 c (Ls.map (fun t => (⟨t.toArray⟩ : ByteArray))) ⟨#[59]⟩ w (fun j y hj => by
    rw [Nat.zero_add]
    rw [List.getElem?_map] at hj
    obtain ⟨t, ht, rfl⟩ := Option.map_eq_some_iff.1 hj
    have hlt : j < Ls.length := (List.getElem?_eq_some_iff.1 ht).1
    have q := hc j hlt
    rw [List.getElem?_eq_getElem hlt] at ht
    rw [← Option.some.inj ht]
    exact q) hl (by simp; omega) (by simp; exact hc2.2.1) (by rw [e]; show (Lib.join Ls [59]).length ≤ _; rw [hJ.out]; omega)
  rw [List.length_map, e] at h
  exact h.mono fun _ _ ⟨h1, h2⟩ => ⟨by rw [h1]; show Ending.returned (.string ⟨(Lib.join Ls [59]).toArray⟩) = _; rw [hJ.out], h2⟩
noncomputable def codeW : Code := (Tryz.f8.body.bind (fromT 23)).getD .skip
set_option maxHeartbeats 6400000 in
set_option maxRecDepth 100000 in
theorem txD (x : CV) (lv : Value) (Ls : List (List UInt8)) (J : List UInt8) (s6 s7 s8 s9 s10 s11 s12 s13 s14 : Value) (w w1 : World) (hw : 0 ≤ x.wk ∧ x.wk ≤ 6) (hD : Hid (DayT w)) (C : Hid (Cs w.heap.size w1 [.int .i64 x.fq, .int .i64 x.iv, .int .i64 x.ct, .bool x.un, .int .i64 x.ua, .bool x.ut, s6, s7, s8, s9, s10, s11, s12, s13, s14, .int .i64 x.wk])) (R : Hid (RowT (w.heap.size + 1) w1 lv Ls)) (B : Hid (Below w.heap.size w w1)) (hn : Ls.length ≤ 90) (h0 : 0 < Ls.length) (hJ : Hid (Lib.join (txW Ls x) [59] = J)) (hJl : J.length ≤ 10000000)
    (x0 x2 x3 x4 x6 x7 x8 x9 x10 x11 x12 x13 x14 x15 x16 x17 x18 x19 x20 x21 x22 x23 x24 x25 x26 x27 x28 x29 x30 x31 x32 x33 x34 x35 x36 x37 x38 x39 x40 x41 x42 x43 x44 x45 x46 x47 x48 x49 x50 x51 x52 x53 x54 x55 x56 x57 x58 x59 x60 x61 x62 x63 x64 x65 x66 x67 x68 x69 x70 x71 x72 x73 x74 x75 x76 x77 x78 x79 x80 x81 x82 x83 x84 x85 x86 x87 x88 x89 x90 x91 x92 x93 x94 x95 x96 x97 x98 x99 x100 x101 x102 x103 x104 x105 : Value) : Code.wp Tryz.prog codeW (bodyPost Tryz.prog Tryz.f8 (fun e w' => e = .returned (.tuple #[.string ⟨J.toArray⟩, .int .i64 0]) ∧ Below w.heap.size w w')) ⟨List.toArray (x0 :: .pointer (some ⟨w.heap.size, 0, none⟩) :: x2 :: x3 :: x4 :: lv :: x6 :: x7 :: x8 :: x9 :: x10 :: x11 :: x12 :: x13 :: x14 :: x15 :: x16 :: x17 :: x18 :: x19 :: x20 :: x21 :: x22 :: x23 :: x24 :: x25 :: x26 :: x27 :: x28 :: x29 :: x30 :: x31 :: x32 :: x33 :: x34 :: x35 :: x36 :: x37 :: x38 :: x39 :: x40 :: x41 :: x42 :: x43 :: x44 :: x45 :: x46 :: x47 :: x48 :: x49 :: x50 :: x51 :: x52 :: x53 :: x54 :: x55 :: x56 :: x57 :: x58 :: x59 :: x60 :: x61 :: x62 :: x63 :: x64 :: x65 :: x66 :: x67 :: x68 :: x69 :: x70 :: x71 :: x72 :: x73 :: x74 :: x75 :: x76 :: x77 :: x78 :: x79 :: x80 :: x81 :: x82 :: x83 :: x84 :: x85 :: x86 :: x87 :: x88 :: x89 :: x90 :: x91 :: x92 :: x93 :: x94 :: x95 :: x96 :: x97 :: x98 :: x99 :: x100 :: x101 :: x102 :: x103 :: x104 :: x105 :: []), []⟩ w1 := by
  conv => arg 2; whnf
  have l15 := (C.out.2 15 _ rfl).1
  have hB1 : w.heap.size + 1 ≤ w1.heap.size := C.out.1
  by_cases z : x.wk = 1
  · have e0 : (x.wk != 1) = false := by rw [z]; rfl
    have HJ : Hid (Lib.join Ls [59] = J) := Lib.hid (by have q := hJ.out; rw [txW, if_neg (fun k => k z)] at q; exact q)
    clear hJ z
    go_wp2_with fail
    refine (jt_to lv Ls J _ _ R.out h0 (by omega) HJ hJl).mono ?_
    rintro e w2 ⟨rfl, k2⟩
    go_wp2
    go_ret2
    exact ⟨rfl, bstep B.out k2⟩
  · have e0 : (x.wk != 1) = true := by rw [bne, beq_eq_false_iff_ne.2 z]; rfl
    obtain ⟨a, ha⟩ : ∃ a : Nat, x.wk = (a : Int) := ⟨x.wk.toNat, by omega⟩
    have ha7 : a < 7 := by omega
    have ai : (a : Int) < 7 := by omega
    obtain ⟨Dw, hDw⟩ : ∃ D, dayL.getD a [] = D := ⟨_, rfl⟩
    have dwl : Dw.length ≤ 2 := by rw [← hDw]; exact day_bd a
    have HJ : Hid (Lib.join (Ls ++ [[87, 75, 83, 84, 61] ++ Dw]) [59] = J) := Lib.hid (by have q := hJ.out; rw [txW, if_pos z, ha] at q; rw [← hDw]; exact q)
    have dc : w1.cell? ⟨1, a, Option.none⟩ = some (.string ⟨Dw.toArray⟩) := by rw [← hDw]; exact day_cell (StrT.below hD.out B.out) a ha7
    have HY : Hid (⟨#[87, 75, 83, 84, 61]⟩ ++ ⟨Dw.toArray⟩ = (⟨([87, 75, 83, 84, 61] ++ Dw).toArray⟩ : ByteArray)) := Lib.hid (ByteArray.ext (Array.toList_inj.1 (by simp)))
    have q2 : ¬ 9223372036854775807 < 5 + Dw.length := by omega
    have hn8 : Ls.length ≤ 100000000 := by omega
    rw [ha] at l15 e0
    clear hDw hJ z
    go_wp2_with (at_builtin; refine appT rfl _ _ rfl (w.heap.size + 1) lv Ls rfl R.out ([87, 75, 83, 84, 61] ++ Dw) _ HY.out rfl hn8 hB1 ?_)
    intro w5 gg gcap r5 g5
    have R5 := Lib.hid r5
    have B5 := Lib.hid (g5.below w.heap.size w (by omega) B.out B.out.size)
    clear r5 g5 dc
    go_wp2_with fail
    refine (jt_to _ (Ls ++ [[87, 75, 83, 84, 61] ++ Dw]) J _ _ (by have q := R5.out; exact q) (by simp) (by simp; omega) HJ hJl).mono ?_
    rintro e w2 ⟨rfl, k2⟩
    go_wp2
    go_ret2
    exact ⟨rfl, bstep B5.out k2⟩
end Rct
end Go.Proofs.YtbeefhmnoihmcaaGreatDoor
