/-
  recur.Text. (Written by gen/gen_rctc.py.)
-/
import Derived.Test.YtbeefhmnoihmcaaGreatDoorRctE
import Derived.Laws.OwnMore
namespace Go.Proofs.YtbeefhmnoihmcaaGreatDoor
open Go.RowKit
namespace Rct
open Cel
open Rcp
open Ap (Grew)
open Rcv (CV IntV DayV LisV)
open Rck (Small ckE ckB)
open Civ (Ahead)
open Rck (frB eiB dyB lsB endB gtB frB_iff dyB_iff)
theorem fr_bd {a b : Int} {L : List Int} (h : frB a b L = true) (ha : -1000 ≤ a) (hb : b ≤ 1000) : ∀ n ∈ L, -9223372036854775808 ≤ n ∧ n ≤ 9223372036854775807 := fun n hn => by
  have := (frB_iff.1 h).1 n hn
  omega
theorem ei_fr {m : Int} {L : List Int} (h : eiB m L = true) : frB (-m) m L = true := by
  rw [eiB, Bool.and_eq_true] at h
  exact h.2
/-- Each list of at most a thousand. -/
structure Len3 (x : CV) : Prop where
  sc : x.sc.length ≤ 1000
  mi : x.mi.length ≤ 1000
  hr : x.hr.length ≤ 1000
  dy : x.dy.length ≤ 1000
  md : x.md.length ≤ 1000
  yd : x.yd.length ≤ 1000
  wn : x.wn.length ≤ 1000
  mo : x.mo.length ≤ 1000
  sp : x.sp.length ≤ 1000
theorem wr_of {x : CV} (h : ckE x = 0) (hl : Len3 x) : WrX x ∧ (1 ≤ x.fq ∧ x.fq ≤ 7 ∧ x.iv ≤ 1000 ∧ x.ct ≤ 100000) := by
  have hb : ckB x = true := by
    cases hc : ckB x with
    | true => rfl
    | false => rw [ckE, hc] at h; exact absurd h (by decide)
  unfold ckB at hb
  simp only [Bool.and_eq_true, decide_eq_true_eq] at hb
  obtain ⟨f1, f2, i1, i2, c1, c2, k1, k2, _, hls, hdy, _⟩ := hb
  unfold lsB at hls
  simp only [Bool.and_eq_true] at hls
  obtain ⟨⟨⟨⟨⟨⟨⟨hsc, hmi⟩, hhr⟩, hmo⟩, hmd⟩, hyd⟩, hwn⟩, hsp⟩ := hls
  refine ⟨⟨⟨k1, k2⟩, ⟨hl.dy, fun d hd => by have := (dyB_iff.1 hdy).1 d hd; omega⟩, ⟨hl.sc, fr_bd hsc (by decide) (by decide)⟩, ⟨hl.mi, fr_bd hmi (by decide) (by decide)⟩, ⟨hl.hr, fr_bd hhr (by decide) (by decide)⟩, ⟨hl.md, fr_bd (ei_fr hmd) (by decide) (by decide)⟩, ⟨hl.yd, fr_bd (ei_fr hyd) (by decide) (by decide)⟩, ⟨hl.wn, fr_bd (ei_fr hwn) (by decide) (by decide)⟩, ⟨hl.mo, fr_bd hmo (by decide) (by decide)⟩, ⟨hl.sp, fr_bd (ei_fr hsp) (by decide) (by decide)⟩⟩, f1, f2, i2, c2⟩
/-- Texts of a size, and how many. -/
def Sz (Ls : List (List UInt8)) (n : Nat) : Prop := Ls.length ≤ n ∧ ∀ t ∈ Ls, t.length ≤ 30000
theorem Sz.app {Ls : List (List UInt8)} {n : Nat} {t : List UInt8} (h : Sz Ls n) (ht : t.length ≤ 30000) : Sz (Ls ++ [t]) (n + 1) :=
  ⟨by rw [List.length_append]; have := h.1; simp; omega, fun u hu => by
    rcases List.mem_append.1 hu with q | q
    · exact h.2 u q
    · rw [List.mem_singleton.1 q]; exact ht⟩
theorem Sz.up {Ls : List (List UInt8)} {n : Nat} (h : Sz Ls n) : Sz Ls (n + 1) := ⟨by have := h.1; omega, h.2⟩
theorem Sz.al {Ls : List (List UInt8)} {n : Nat} {N : List UInt8} {L : List Int} (h : Sz Ls n) (hN : N.length ≤ 100) (hL : L.length ≤ 1000 ∧ ∀ n ∈ L, -9223372036854775808 ≤ n ∧ n ≤ 9223372036854775807) : Sz (alX Ls N L) (n + 1) := by
  rw [alX]
  split
  · exact h.up
  · refine h.app ?_
    have q := join_le 44 21 (L.map Lib.itoa) (fun x hx => by
      obtain ⟨z, hz, rfl⟩ := List.mem_map.1 hx
      exact Lib.itoa_length_le z (hL.2 z hz).1 (hL.2 z hz).2)
    rw [List.length_map] at q
    have := hL.1
    rw [List.length_append, List.length_append]
    have e : ([61] : List UInt8).length = 1 := rfl
    omega
theorem Sz.ad {Ls : List (List UInt8)} {n : Nat} {L : List (Int × Int)} (h : Sz Ls n) (hL : L.length ≤ 1000 ∧ ∀ d ∈ L, -1000000 ≤ d.1 ∧ d.1 ≤ 1000000 ∧ 0 ≤ d.2 ∧ d.2 ≤ 6) : Sz (adX Ls L) (n + 1) := by
  rw [adX]
  split
  · exact h.up
  · refine h.app ?_
    have q := join_le 44 23 (L.map dyT) (fun x hx => by
      obtain ⟨z, hz, rfl⟩ := List.mem_map.1 hx
      have a := day_bd z.2.toNat
      have b := Lib.itoa_length_le z.1 (by have := hL.2 z hz; omega) (by have := hL.2 z hz; omega)
      rw [dyT, List.length_append]
      split
      · rw [List.length_nil]; omega
      · omega)
    rw [List.length_map] at q
    have := hL.1
    rw [List.length_append]
    have e : ([66, 89, 68, 65, 89, 61] : List UInt8).length = 6 := rfl
    omega
theorem freq_bd (k : Nat) : (freqL.getD k []).length ≤ 8 := by
  by_cases h : k < 7
  · have : k = 0 ∨ k = 1 ∨ k = 2 ∨ k = 3 ∨ k = 4 ∨ k = 5 ∨ k = 6 := by omega
    rcases this with rfl | rfl | rfl | rfl | rfl | rfl | rfl <;> decide
  · rw [List.getD_eq_getElem?_getD, List.getElem?_eq_none (by simp [freqL]; omega)]; simp
theorem tx_len {x : CV} (hX : WrX x) (hb : x.iv ≤ 1000 ∧ x.ct ≤ 100000) : (txG (cnX (inX [[70, 82, 69, 81, 61] ++ freqL.getD (x.fq - 1).toNat []] x) x) x).1.length ≤ 10000000 := by
  have s0 : Sz [[70, 82, 69, 81, 61] ++ freqL.getD (x.fq - 1).toNat []] 1 := ⟨by simp, fun t ht => by
    rw [List.mem_singleton.1 ht, List.length_append]
    have := freq_bd (x.fq - 1).toNat
    have e : ([70, 82, 69, 81, 61] : List UInt8).length = 5 := rfl
    omega⟩
  obtain ⟨L0, e0⟩ : ∃ q, [[70, 82, 69, 81, 61] ++ freqL.getD (x.fq - 1).toNat []] = q := ⟨_, rfl⟩
  rw [e0] at s0 ⊢
  have s1 : Sz (inX L0 x) 2 := by
    unfold inX
    split
    · exact s0.app (by rw [List.length_append]; have := tl_len (n := x.iv) (d := 0) (by omega); have e : ([73, 78, 84, 69, 82, 86, 65, 76, 61] : List UInt8).length = 9 := rfl; omega)
    · exact s0.up
  have s2 : Sz (cnX (inX L0 x) x) 3 := by
    unfold cnX
    split
    · exact s1.app (by rw [List.length_append]; have := tl_len (n := x.ct) (d := 0) (by omega); have e : ([67, 79, 85, 78, 84, 61] : List UInt8).length = 6 := rfl; omega)
    · exact s1.up
  rw [txG]
  split
  · simp
  · have s3 : Sz (unX (cnX (inX L0 x) x) x) 4 := by
      unfold unX
      split
      · exact s2.app (by rw [List.length_append]; have := tm_len (t := x.ua) x.ut; have e : ([85, 78, 84, 73, 76, 61] : List UInt8).length = 6 := rfl; omega)
      · exact s2.up
    have s4 : Sz (txL (unX (cnX (inX L0 x) x) x) x) 13 := (((((((((s3.al (by decide) hX.mo).al (by decide) hX.wn).al (by decide) hX.yd).al (by decide) hX.md).ad hX.dy).al (by decide) hX.hr).al (by decide) hX.mi).al (by decide) hX.sc).al (by decide) hX.sp)
    have s5 : Sz (txW (txL (unX (cnX (inX L0 x) x) x) x) x) 14 := by
      unfold txW
      split
      · exact s4.app (by rw [List.length_append]; have := day_bd x.wk.toNat; have e : ([87, 75, 83, 84, 61] : List UInt8).length = 5 := rfl; omega)
      · exact s4.up
    have q := join_le 59 30000 _ s5.2
    have q2 := s5.1
    refine Nat.le_trans q (Nat.le_trans (Nat.mul_le_mul q2 (Nat.le_refl _)) (by decide))
theorem txP_eq {x : CV} (h : ckE x = 0) : txP x = txG (cnX (inX [[70, 82, 69, 81, 61] ++ freqL.getD (x.fq - 1).toNat []] x) x) x := by
  have e : unX (cnX (inX [[70, 82, 69, 81, 61] ++ freqL.getD (x.fq - 1).toNat []] x) x) x = txH x := by
    rw [txH]
    unfold unX cnX inX
    by_cases a : 1 < x.iv <;> by_cases b : 0 < x.ct <;> cases c : x.un <;> simp [a, b]
  rw [txP, if_neg (fun k => k h), txG, e]
theorem freq_cell {w : World} (h : FreqT w) (a : Nat) (ha : a < 7) : w.cell? ⟨0, a, none⟩ = some (.string ⟨(freqL.getD a []).toArray⟩) := by
  have q := h.2 a (.string ⟨(freqL.getD a []).toArray⟩) (by
    rw [List.getElem?_map, List.getElem?_eq_getElem (show a < freqL.length from ha), List.getD_eq_getElem?_getD, List.getElem?_eq_getElem (show a < freqL.length from ha)]
    rfl)
  rwa [Nat.zero_add] at q
theorem ua_bd {x : CV} (h : ckE x = 0) : -1000000000000 ≤ x.ua ∧ x.ua ≤ 1000000000000 := by
  have hb : ckB x = true := by
    cases hc : ckB x with
    | true => rfl
    | false => rw [ckE, hc] at h; exact absurd h (by decide)
  unfold ckB at hb
  simp only [Bool.and_eq_true, decide_eq_true_eq] at hb
  obtain ⟨_, _, _, _, _, _, _, _, e, _⟩ := hb
  rw [Rck.endB] at e
  split at e
  · simp only [Bool.and_eq_true, decide_eq_true_eq] at e
    have hz := e.1.1.1
    have hr : -719528 ≤ x.ua / 86400 ∧ x.ua / 86400 ≤ 2933262 := by
      by_cases q : -719528 ≤ x.ua / 86400 ∧ x.ua / 86400 ≤ 2933262
      · exact q
      · rw [Civ.dnE, if_neg q] at hz; exact absurd hz (by decide)
    omega
  · simp only [Bool.and_eq_true, decide_eq_true_eq] at e
    omega
set_option maxHeartbeats 6400000 in
set_option maxRecDepth 100000 in
theorem tx_to (s6 s7 s8 s9 s10 s11 s12 s13 s14 : Value) (x : CV) (T : List UInt8) (c : Int) (w : World) (hp : Pow w) (hF : FreqT w) (hD : DayT w) (hA : Ahead w) (hu1 : -9223372036854775808 ≤ x.ua) (hu2 : x.ua ≤ 9223372036854775807) (hl : Hid (LisV w x s6 s7 s8 s9 s10 s11 s12 s13 s14)) (h3 : Hid (Len3 x)) (h : Hid (txP x = (T, c))) :
    Calls Tryz.prog 8 #[.agg #[.int .i64 x.fq, .int .i64 x.iv, .int .i64 x.ct, .bool x.un, .int .i64 x.ua, .bool x.ut, s6, s7, s8, s9, s10, s11, s12, s13, s14, .int .i64 x.wk]] w fun e w' => e = .returned (.tuple #[.string ⟨T.toArray⟩, .int .i64 c]) ∧ Below w.heap.size w w' := by
  have hp := Lib.hid hp
  have hF := Lib.hid hF
  have hD := Lib.hid hD
  have hA := Lib.hid hA
  obtain ⟨cc, hcc⟩ : ∃ cc, ckE x = cc := ⟨_, rfl⟩
  have HK := Lib.hid hcc
  have HS : Hid (Small x) := Lib.hid (by obtain ⟨a1, a2, a3, a4, a5, a6, a7, a8, a9⟩ := h3.out; exact ⟨by omega, by omega, by omega, by omega, by omega, by omega, by omega, by omega, by omega⟩)
  clear hcc
  go_enter Tryz.func8, Tryz.ntmps8
  go_upto_region 0 with fail
  go_cut [1] (fun p w0 => p = .pointer (some ⟨w.heap.size, 0, none⟩) ∧ Hid (Cs w.heap.size w0 [.int .i64 x.fq, .int .i64 x.iv, .int .i64 x.ct, .bool x.un, .int .i64 x.ua, .bool x.ut, s6, s7, s8, s9, s10, s11, s12, s13, s14, .int .i64 x.wk]) ∧ Hid (Below w.heap.size w w0))
  case first =>
    go_wp2
    go_meet
    exact ⟨rfl, Lib.hid (Cs.new w _ _), Lib.hid ((Below.refl _ _).alloc (Nat.le_refl _) _)⟩
  case rest =>
  obtain ⟨w0, rfl⟩ : ∃ x : World, x = wc := ⟨_, rfl⟩
  obtain ⟨rfl, C, B⟩ := hcut
  go_upto_region 1 with fail
  refine wp_region_lit ?_
  refine wpList_load_mid rfl 25 (.tmp 1) rfl w.heap.size 0 rfl [.int .i64 x.fq, .int .i64 x.iv, .int .i64 x.ct, .bool x.un, .int .i64 x.ua, .bool x.ut, s6, s7, s8, s9, s10, s11, s12, s13, s14, .int .i64 x.wk] _ C.out.range Tryz.underlying25 rfl (by kernel_rfl) ?_
  go_wp2_with fail
  refine (Rck.ck_to _ _ _ _ _ _ _ _ _ x cc _ (hA.out.stays B.out) (by omega) (by omega) (Lib.hid (hl.out.below B.out)) HS HK).mono ?_
  rintro e w1 ⟨rfl, k1⟩
  have C1 := Lib.hid (C.out.below k1)
  have B1 := Lib.hid (bstep B.out k1)
  clear k1 C B
  by_cases z : cc = 0
  case neg =>
    have q := h.out
    rw [txP, if_pos (by rw [HK.out]; exact z), HK.out] at q
    obtain ⟨rfl, rfl⟩ := Prod.mk.inj q
    have p : (cc == 0) = false := beq_eq_false_iff_ne.2 z
    have p2 : (cc != 0) = true := by rw [bne, p]; rfl
    clear h q HK
    go_wp2
    go_ret2
    exact ⟨rfl, B1.out⟩
  subst z
  have HUB := Lib.hid (ua_bd HK.out)
  obtain ⟨hX0, f1, f2, i2, c2⟩ := wr_of HK.out h3.out
  have hX := Lib.hid hX0
  have q := h.out
  rw [txP_eq HK.out] at q
  have HJ := Lib.hid q
  have hJl := tx_len hX0 ⟨i2, c2⟩
  rw [q] at hJl
  clear hX0 q h HK
  obtain ⟨a, ha⟩ : ∃ a : Nat, x.fq - 1 = (a : Int) := ⟨(x.fq - 1).toNat, by omega⟩
  have ha7 : a < 7 := by omega
  have ai : (a : Int) < 7 := by omega
  have s1 : IntKind.i64.wrap (x.fq - 1) = (a : Int) := by rw [ha]; exact IntWalk.i64_in _ (by omega)
  obtain ⟨Fw, hFw⟩ : ∃ F, freqL.getD a [] = F := ⟨_, rfl⟩
  have fwl : Fw.length ≤ 8 := by rw [← hFw]; exact freq_bd a
  have HJ2 : Hid (txG (cnX (inX [[70, 82, 69, 81, 61] ++ Fw] x) x) x = (T, c)) := Lib.hid (by have q := HJ.out; rw [ha, Int.toNat_natCast, hFw] at q; exact q)
  have fc : w1.cell? ⟨0, a, Option.none⟩ = some (.string ⟨Fw.toArray⟩) := by rw [← hFw]; exact freq_cell (StrT.below hF.out B1.out) a ha7
  have HY : Hid (⟨#[70, 82, 69, 81, 61]⟩ ++ ⟨Fw.toArray⟩ = (⟨([70, 82, 69, 81, 61] ++ Fw).toArray⟩ : ByteArray)) := Lib.hid (ByteArray.ext (Array.toList_inj.1 (by simp)))
  have q2 : ¬ 9223372036854775807 < 5 + Fw.length := by omega
  have l0 := (C1.out.2 0 _ rfl).1
  have hB1 : w.heap.size + 1 ≤ w1.heap.size := C1.out.1
  clear HJ hFw ha
  go_upto_region 4 with fail
  go_cut [5] (fun v wz => Hid (RowT (w.heap.size + 1) wz v [[70, 82, 69, 81, 61] ++ Fw]) ∧ Hid (Cs w.heap.size wz [.int .i64 x.fq, .int .i64 x.iv, .int .i64 x.ct, .bool x.un, .int .i64 x.ua, .bool x.ut, s6, s7, s8, s9, s10, s11, s12, s13, s14, .int .i64 x.wk]) ∧ Hid (Below w.heap.size w wz))
  case first =>
    go_wp2
    go_meet
    refine ⟨Lib.hid ?_, Lib.hid (C1.out.alloc _), Lib.hid (B1.out.alloc B1.out.size _)⟩
    rw [HY.out]
    exact World.ownsRow_lit (size := 1) (e := 9) w1 #[.string ⟨([70, 82, 69, 81, 61] ++ Fw).toArray⟩] 1 hB1 (by decide) rfl
  case rest =>
  obtain ⟨w3, rfl⟩ : ∃ x : World, x = wc := ⟨_, rfl⟩
  obtain ⟨R9, C9, B9⟩ := hcut
  rename_i hK
  exact hK _ _ (txI x _ _ T c s6 s7 s8 s9 s10 s11 s12 s13 s14 w _ ⟨i2, c2⟩ hX hp hD hA HUB hl C9 R9 B9 (by simp) (by simp) HJ2 hJl _ _ _ _ _ _ _ _ _ _ _ _ _ _ _ _ _ _ _ _ _ _ _ _ _ _ _ _ _ _ _ _ _ _ _ _ _ _ _ _ _ _ _ _ _ _ _ _ _ _ _ _ _ _ _ _ _ _ _ _ _ _ _ _ _ _ _ _ _ _ _ _ _ _ _ _ _ _ _ _ _ _ _ _ _ _ _ _ _ _ _ _ _ _ _ _ _ _ _ _ _ _ _ _)
end Rct
end Go.Proofs.YtbeefhmnoihmcaaGreatDoor
