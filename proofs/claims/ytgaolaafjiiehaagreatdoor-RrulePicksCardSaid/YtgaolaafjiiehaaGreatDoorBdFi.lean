/-
  Several texts in one (RrlA, RrlB, RrlG).
-/
import Derived.Test.YtgaolaafjiiehaaGreatDoorBdCl
import Derived.Deep.DeepCutAuto
import Derived.Lib.QuietBelow
import Derived.Test.YtgaolaafjiiehaaGreatDoorBdK1
import Derived.Test.YtgaolaafjiiehaaGreatDoorBdRg
import Derived.Test.YtgaolaafjiiehaaGreatDoorBdFh
/-
  The reference's in and list (layer 21): numbers of a span, none twice.
-/
namespace Go.Proofs.YtgaolaafjiiehaaGreatDoor
open Go.RowKit
namespace Rrl
open Cel
open Rcv (CV IntV DayV LisV)
theorem rin_to (n lo hi : Int) (b : Bool) (w : World) (h : decide (lo ≤ n ∧ n ≤ hi) = b) :
    Calls Tryz.prog 12 #[.int .i64 n, .int .i64 lo, .int .i64 hi] w fun e w' => e = .returned (.bool b) ∧ w = w' := by
  go_enter Tryz.func12, Tryz.ntmps12
  by_cases h1 : lo ≤ n
  · by_cases h2 : n ≤ hi
    · obtain rfl : b = true := by rw [← h]; exact decide_eq_true ⟨h1, h2⟩
      go_wp2
      go_ret
      exact ⟨rfl, rfl⟩
    · obtain rfl : b = false := by rw [← h]; exact decide_eq_false (fun q => h2 q.2)
      go_wp2
      go_ret
      exact ⟨rfl, rfl⟩
  · obtain rfl : b = false := by rw [← h]; exact decide_eq_false (fun q => h1 q.1)
    go_wp2
    go_ret
    exact ⟨rfl, rfl⟩
theorem bdrn {n : Nat} {w w' : World} (h : Below n w w') (m : Nat) : Below n w (w'.drewN m) := ⟨h.os, h.tape, h.output, h.size, h.block⟩
def inR (lo hi : Int) (both : Bool) (n : Int) : Bool := decide (lo ≤ n ∧ n ≤ hi) || (both && decide (-hi ≤ n ∧ n ≤ -lo))
def lsR (lo hi : Int) (both : Bool) (L : List Int) : Bool := decide ((∀ n ∈ L, inR lo hi both n = true) ∧ L.Nodup)
theorem ls_nil (lo hi : Int) (both : Bool) : lsR lo hi both [] = true := by simp [lsR]
theorem ls_out {lo hi : Int} {both : Bool} {L : List Int} {k : Nat} (hk : k < L.length) (h : inR lo hi both L[k] = false) : lsR lo hi both L = false := by
  refine decide_eq_false (fun q => ?_)
  have := q.1 _ (List.getElem_mem hk)
  rw [h] at this; cases this
theorem ls_dup {lo hi : Int} {both : Bool} {L : List Int} {j k : Nat} (hk : k < L.length) (hj : j < k) (h : L[j] = L[k]) : lsR lo hi both L = false := by
  refine decide_eq_false (fun q => ?_)
  have := (List.pairwise_iff_getElem.1 q.2) j k (by omega) hk hj
  exact this h
theorem ls_next {lo hi : Int} {both : Bool} {L : List Int} {k : Nat} (hk : k < L.length) (h : lsR lo hi both (L.take k) = true) (h1 : inR lo hi both L[k] = true) (h2 : ∀ (j : Nat) (hj : j < k), L[j] ≠ L[k]) : lsR lo hi both (L.take (k + 1)) = true := by
  have h := of_decide_eq_true h
  rw [List.take_succ_eq_append_getElem hk]
  refine decide_eq_true ⟨fun n hn => ?_, ?_⟩
  · rcases List.mem_append.1 hn with q | q
    · exact h.1 n q
    · rw [List.mem_singleton.1 q]; exact h1
  · rw [List.nodup_append]
    refine ⟨h.2, by simp, fun a ha b hb => ?_⟩
    rw [List.mem_singleton.1 hb]
    obtain ⟨j, hj, rfl⟩ := List.mem_iff_getElem.1 ha
    rw [List.length_take] at hj
    rw [List.getElem_take]
    exact h2 j (by omega)
set_option maxHeartbeats 6400000 in
set_option maxRecDepth 100000 in
theorem rlst_nil (q : Option Addr) (c : Nat) (lo hi : Int) (both : Bool) (w : World) :
    Calls Tryz.prog 14 #[.slice q 0 c, .int .i64 lo, .int .i64 hi, .bool both] w fun e w' => e = .returned (.bool true) ∧ Below w.heap.size w w' := by
  go_enter Tryz.func14, Tryz.ntmps14
  go_wp2_with fail
  go_loopw [9] (fun iv wr => iv = .int .i64 0 ∧ w = wr) (fun _ _ => 0)
  case atStart => exact ⟨rfl, rfl⟩
  case round =>
    obtain ⟨rfl, rfl⟩ := hrel
    go_wp2
    go_ret
    exact ⟨rfl, Below.refl _ _⟩
set_option maxHeartbeats 12800000 in
set_option maxRecDepth 100000 in
theorem rlst_some (b1 o1 n c : Nat) (L : List Int) (lo hi : Int) (both r : Bool) (w : World) (hn : L.length = n) (hb1 : b1 < w.heap.size) (k1 : ∀ (j : Nat) (hj : j < L.length), w.cell? ⟨b1, o1 + j, none⟩ = some (.int .i64 L[j])) (hL : n ≤ 1000000) (h1 : -1000 ≤ lo) (h2 : lo ≤ 1000) (h3 : -1000 ≤ hi) (h4 : hi ≤ 1000) (hr : Hid (lsR lo hi both L = r)) :
    Calls Tryz.prog 14 #[.slice (some ⟨b1, o1, none⟩) n c, .int .i64 lo, .int .i64 hi, .bool both] w fun e w' => e = .returned (.bool r) ∧ Below w.heap.size w w' := by
  have K1 := Lib.hid k1
  have HN := Lib.hid hn
  have HB1 := Lib.hid hb1
  have n1 : IntKind.i64.wrap (-hi) = -hi := IntWalk.i64_in _ (by omega)
  have n2 : IntKind.i64.wrap (-lo) = -lo := IntWalk.i64_in _ (by omega)
  clear k1 hn hb1
  go_enter Tryz.func14, Tryz.ntmps14
  go_wp2_with fail
  go_loopw [9] (fun iv wr => ∃ k : Nat, k ≤ n ∧ iv = .int .i64 k ∧ Hid (lsR lo hi both (L.take k) = true) ∧ Hid (Below w.heap.size w wr)) (fun iv _ => n - (intOf iv).toNat)
  case atStart => exact ⟨0, Nat.zero_le _, rfl, Lib.hid (by rw [List.take_zero]; exact ls_nil _ _ _), Lib.hid (Below.refl _ _)⟩
  case round =>
    obtain ⟨k, hk, rfl, HT, B⟩ := hrel
    obtain ⟨wo, rfl⟩ : ∃ wo : World, wo = wr := ⟨_, rfl⟩
    by_cases hlt : k < n
    case neg =>
      obtain rfl : k = n := by omega
      have hf : lsR lo hi both L = true := by
        have q := HT.out
        rw [← HN.out, List.take_length] at q
        exact q
      have hr' := hr.out
      rw [hf] at hr'
      subst hr'
      go_wp2
      go_ret
      exact ⟨rfl, B.out⟩
    have hkL : k < L.length := by rw [HN.out]; exact hlt
    obtain ⟨X, hX⟩ : ∃ X : Int, L[k] = X := ⟨_, rfl⟩
    have HX := Lib.hid hX
    have g1 : wo.cell? ⟨b1, o1 + k, Option.none⟩ = some (.int .i64 X) := by rw [← hX]; exact (B.out.cell (p := ⟨b1, o1 + k, Option.none⟩) HB1.out).trans (K1.out k hkL)
    clear hX
    obtain ⟨b0, hb0⟩ : ∃ b0, decide (lo ≤ X ∧ X ≤ hi) = b0 := ⟨_, rfl⟩
    obtain ⟨b2, hb2⟩ : ∃ b2, decide (-hi ≤ X ∧ X ≤ -lo) = b2 := ⟨_, rfl⟩
    have HI : Hid (inR lo hi both X = (b0 || (both && b2))) := Lib.hid (by rw [inR, hb0, hb2])
    have HB0 := Lib.hid hb0
    have HB2 := Lib.hid hb2
    clear hb0 hb2
    go_upto_region 4 with fail
    go_cut [39] (fun v wz => v = .bool (!(b0 || (both && b2))) ∧ Hid (Below w.heap.size w wz))
    case first =>
      go_wp2_with fail
      refine (rin_to X lo hi b0 _ HB0.out).mono ?_
      rintro e w2 ⟨rfl, rfl⟩
      cases b0 with
      | true =>
        go_wp2
        go_meet
        exact ⟨by simp, B⟩
      | false =>
        cases both with
        | false =>
          go_wp2
          go_meet
          exact ⟨by simp, B⟩
        | true =>
          go_wp2_with fail
          refine (rin_to X (-hi) (-lo) b2 _ HB2.out).mono ?_
          rintro e w2 ⟨rfl, rfl⟩
          go_wp2
          go_meet
          exact ⟨by simp, B⟩
    case rest =>
    obtain ⟨w2, rfl⟩ : ∃ x : World, x = wc := ⟨_, rfl⟩
    obtain ⟨rfl, B2⟩ := hcut
    clear B g1 HB0 HB2
    obtain ⟨ok, hok⟩ : ∃ ok, (b0 || (both && b2)) = ok := ⟨_, rfl⟩
    rw [hok] at HI ⊢
    clear hok
    cases ok with
    | false =>
      have hf : lsR lo hi both L = false := ls_out hkL (by rw [HX.out]; exact HI.out)
      have hr' := hr.out
      rw [hf] at hr'
      subst hr'
      go_wp2
      go_ret
      exact ⟨rfl, B2.out⟩
    | true =>
    go_wp2_with fail
    go_loopw [10] (fun jv wr => ∃ j : Nat, j ≤ k ∧ jv = .int .i64 j ∧ Hid (∀ (i : Nat) (hi : i < j) (hk : k < L.length) (hj : j ≤ k), L[i] ≠ L[k]) ∧ Hid (Below w.heap.size w wr)) (fun jv _ => k - (intOf jv).toNat)
    case atStart => exact ⟨0, Nat.zero_le _, rfl, Lib.hid (fun i hi => by omega), B2⟩
    case round =>
      obtain ⟨j, hj, rfl, HJ, B3⟩ := hrel
      obtain ⟨w3, rfl⟩ : ∃ wo : World, wo = wr := ⟨_, rfl⟩
      clear B2
      by_cases hjk : j < k
      case neg =>
        obtain rfl : j = k := by omega
        have HN2 : Hid (lsR lo hi both (L.take (j + 1)) = true) := Lib.hid (ls_next hkL HT.out (by rw [HX.out]; exact HI.out) (fun i hi => HJ.out i hi hkL (Nat.le_refl _)))
        go_wp2
        go_roundw
        case rel => exact ⟨j + 1, by omega, by go_num, HN2, B3⟩
        case measure => simp [intOf]; omega
      have hjL : j < L.length := by omega
      obtain ⟨Y, hY⟩ : ∃ Y : Int, L[j] = Y := ⟨_, rfl⟩
      have HY := Lib.hid hY
      have g2 : w3.cell? ⟨b1, o1 + k, Option.none⟩ = some (.int .i64 X) := by have := (B3.out.cell (p := ⟨b1, o1 + k, Option.none⟩) HB1.out).trans (K1.out k hkL); rw [HX.out] at this; exact this
      have g3 : w3.cell? ⟨b1, o1 + j, Option.none⟩ = some (.int .i64 Y) := by have := (B3.out.cell (p := ⟨b1, o1 + j, Option.none⟩) HB1.out).trans (K1.out j hjL); rw [HY.out] at this; exact this
      have jn : j < n := by omega
      clear hY
      go_upto_region 9 with fail
      go_cut [53] (fun v wz => v = .bool (Y == X) ∧ Hid (Below w.heap.size w wz))
      case first =>
        go_quiet (fail)
        go_wp2
        go_meet
        exact ⟨rfl, Lib.hid (bdrn B3.out _)⟩
      case rest =>
      obtain ⟨w4, rfl⟩ : ∃ x : World, x = wc := ⟨_, rfl⟩
      obtain ⟨rfl, B4⟩ := hcut
      clear g2 g3 B3
      by_cases hxy : Y = X
      · have e : (Y == X) = true := beq_iff_eq.2 hxy
        have hf : lsR lo hi both L = false := ls_dup hkL hjk (by rw [HX.out, HY.out]; exact hxy)
        have hr' := hr.out
        rw [hf] at hr'
        subst hr'
        go_wp2
        go_ret
        exact ⟨rfl, B4.out⟩
      · have e : (Y == X) = false := beq_eq_false_iff_ne.2 hxy
        have HJ2 : Hid (∀ (i : Nat) (hi : i < j + 1) (hk : k < L.length) (hj : j + 1 ≤ k), L[i] ≠ L[k]) := Lib.hid (fun i hi hk hj2 => by
          rcases Nat.lt_or_ge i j with q | q
          · exact HJ.out i q hk (by omega)
          · obtain rfl : i = j := by omega
            rw [HX.out, HY.out]; exact hxy)
        clear HJ
        go_wp2
        go_roundw
        case rel => exact ⟨j + 1, by omega, by go_num, HJ2, B4⟩
        case measure => simp [intOf]; omega
theorem rlst_to (v : Value) (L : List Int) (lo hi : Int) (both r : Bool) (w : World) (hv : IntV w v L) (hL : L.length ≤ 1000000) (h1 : -1000 ≤ lo) (h2 : lo ≤ 1000) (h3 : -1000 ≤ hi) (h4 : hi ≤ 1000) (hr : Hid (lsR lo hi both L = r)) :
    Calls Tryz.prog 14 #[v, .int .i64 lo, .int .i64 hi, .bool both] w fun e w' => e = .returned (.bool r) ∧ Below w.heap.size w w' := by
  by_cases h0 : L.length = 0
  · have e1 : L = [] := List.length_eq_zero_iff.1 h0
    subst e1
    obtain ⟨q, c, rfl⟩ := hv.nil
    have hr' := hr.out
    rw [ls_nil] at hr'
    subst hr'
    exact rlst_nil q c lo hi both w
  · obtain ⟨b1, o1, c1, rfl, hb1, k1⟩ := hv.form (by omega)
    exact rlst_some b1 o1 L.length c1 L lo hi both r w rfl hb1 k1 hL h1 h2 h3 h4 hr
end Rrl
end Go.Proofs.YtgaolaafjiiehaaGreatDoor
/-
  The reference's Recur (layer 21): its answer is what the program says. (Written by gen/gen_rrl.py.)
-/
namespace Go.Proofs.YtgaolaafjiiehaaGreatDoor
open Go.RowKit
namespace Rrl
open Cel
open Rcv (CV IntV DayV LisV)
open Rck (ckB ckE frB eiB dyB lsB gtB nmB endB frB_iff dyB_iff Small)
/-- Of a list without doubles within another one there are no more. -/
theorem pig {α : Type} [BEq α] [LawfulBEq α] : ∀ (U L : List α), L.Nodup → (∀ x ∈ L, x ∈ U) → L.length ≤ U.length
  | [], L, _, h => by
    cases L with
    | nil => exact Nat.le_refl _
    | cons a r => exact absurd (h a List.mem_cons_self) (by simp)
  | u :: U, L, hd, h => by
    have h1 := pig U (L.erase u) (hd.erase u) (fun x hx => by
      have q := hd.mem_erase_iff.1 hx
      rcases List.mem_cons.1 (h x q.2) with e | e
      · exact absurd e q.1
      · exact e)
    by_cases hu : u ∈ L
    · rw [List.length_erase_of_mem hu] at h1
      rw [List.length_cons]; omega
    · rw [List.erase_of_not_mem hu] at h1
      rw [List.length_cons]; omega
theorem pig_ints {L : List Int} {a : Int} {k : Nat} (hd : L.Nodup) (h : ∀ n ∈ L, a ≤ n ∧ n < a + k) : L.length ≤ k := by
  have q := pig ((List.range k).map fun (i : Nat) => a + (i : Int)) L hd (fun n hn => by
    rw [List.mem_map]
    exact ⟨(n - a).toNat, by rw [List.mem_range]; have := h n hn; omega, by have := h n hn; omega⟩)
  simpa using q
theorem pig_days {L : List (Int × Int)} (hd : L.Nodup) (h : ∀ d ∈ L, 0 ≤ d.2 ∧ d.2 ≤ 6 ∧ -53 ≤ d.1 ∧ d.1 ≤ 53) : L.length ≤ 749 := by
  have q := pig ((List.range 749).map fun (i : Nat) => (((i % 107 : Nat) : Int) - 53, ((i / 107 : Nat) : Int))) L hd (fun d hd => by
    rw [List.mem_map]
    have b := h d hd
    refine ⟨(d.2 * 107 + (53 + d.1)).toNat, by rw [List.mem_range]; omega, ?_⟩
    obtain ⟨u, v⟩ := d
    simp only at b ⊢
    refine Prod.ext ?_ ?_ <;> simp only <;> omega)
  simpa using q
def l1B (x : CV) : Bool := decide (60 < x.sc.length ∨ 60 < x.mi.length ∨ 24 < x.hr.length ∨ 12 < x.mo.length ∨ 62 < x.md.length ∨ 732 < x.yd.length ∨ 106 < x.wn.length ∨ 732 < x.sp.length ∨ 749 < x.dy.length)
def hdB (x : CV) : Bool := decide (1 ≤ x.fq ∧ x.fq ≤ 7) && (decide (1 ≤ x.iv ∧ x.iv ≤ 1000) && (decide (0 ≤ x.ct ∧ x.ct ≤ 100000) && (!(decide (0 < x.ct) && x.un) && (!(x.ut && !x.un) && (!(!x.un && decide (x.ua ≠ 0)) && decide (0 ≤ x.wk ∧ x.wk ≤ 6))))))
def enB (x : CV) : Bool := !(x.un && !decide (Val.tmE x.ua = 0))
def laB (x : CV) : Bool := lsR 0 59 false x.sc && (lsR 0 59 false x.mi && (lsR 0 23 false x.hr && (lsR 1 12 false x.mo && (lsR 1 31 true x.md && (lsR 1 366 true x.yd && (lsR 1 53 true x.wn && lsR 1 366 true x.sp))))))
def okD (f : Int) (m : Nat) (d : Int × Int) : Bool := decide (0 ≤ d.2 ∧ d.2 ≤ 6) && (decide (-53 ≤ d.1 ∧ d.1 ≤ 53) && !(decide (d.1 ≠ 0) && (decide (f < 6) || decide (0 < m))))
def dsB (f : Int) (m : Nat) (L : List (Int × Int)) : Bool := decide ((∀ d ∈ L, okD f m d = true) ∧ L.Nodup)
def g1B (x : CV) : Bool := !(decide (0 < x.md.length) && decide (x.fq = 5)) && (!(decide (0 < x.yd.length) && decide (4 ≤ x.fq ∧ x.fq ≤ 6)) && !(decide (0 < x.wn.length) && decide (x.fq ≠ 7)))
def g2B (x : CV) : Bool := decide (x.sp.length = 0) || decide (0 < x.sc.length + x.mi.length + x.hr.length + x.dy.length + x.md.length + x.yd.length + x.wn.length + x.mo.length)
theorem ls_fr {a b : Int} (L : List Int) : lsR a b false L = frB a b L := by
  rw [lsR, frB]
  congr 1
  simp [inR]
theorem ls_ei {b : Int} (L : List Int) : lsR 1 b true L = eiB b L := by
  have e : (∀ n ∈ L, inR 1 b true n = true) ↔ (∀ n ∈ L, n ≠ 0) ∧ ∀ n ∈ L, -b ≤ n ∧ n ≤ b := by
    refine ⟨fun h => ⟨fun n hn => ?_, fun n hn => ?_⟩, fun h n hn => ?_⟩
    · have q := h n hn
      simp [inR] at q; omega
    · have q := h n hn
      simp [inR] at q; omega
    · have q1 := h.1 n hn
      have q2 := h.2 n hn
      simp [inR]; omega
  rw [lsR, eiB, frB, ← Bool.decide_and]
  exact decide_eq_decide.2 ⟨fun h => ⟨(e.1 h.1).1, (e.1 h.1).2, h.2⟩, fun h => ⟨e.2 ⟨h.1, h.2.1⟩, h.2.2⟩⟩
theorem la_ls (x : CV) : laB x = lsB x := by
  rw [laB, lsB, ls_fr, ls_fr, ls_fr, ls_fr, ls_ei, ls_ei, ls_ei, ls_ei]
  simp only [Bool.and_assoc]
theorem long_no {x : CV} (h : ckB x = true) : l1B x = false := by
  have hr := Rcb.Rgt.of (by rw [ckE, if_pos h])
  have hb := h
  unfold ckB at hb
  simp only [Bool.and_eq_true, decide_eq_true_eq] at hb
  obtain ⟨_, _, _, _, _, _, _, _, _, hls, hdy, _⟩ := hb
  unfold lsB at hls
  simp only [Bool.and_eq_true] at hls
  obtain ⟨⟨⟨⟨⟨⟨⟨hsc, hmi⟩, hhr⟩, hmo⟩, hmd⟩, hyd⟩, hwn⟩, hsp⟩ := hls
  have two : ∀ {m : Nat} {L : List Int}, eiB m L = true → L.length ≤ 2 * m := fun {m L} he => by
    have e1 := he
    rw [← ls_ei] at e1
    have e2 := of_decide_eq_true e1
    have q := pig ((List.range m).map (fun (i : Nat) => (i : Int) + 1) ++ (List.range m).map (fun (i : Nat) => -((i : Int) + 1))) L e2.2 (fun n hn => by
      have t := e2.1 n hn
      simp [inR] at t
      rw [List.mem_append, List.mem_map, List.mem_map]
      rcases t with t | t
      · exact Or.inl ⟨(n - 1).toNat, by rw [List.mem_range]; omega, by omega⟩
      · exact Or.inr ⟨(-n - 1).toNat, by rw [List.mem_range]; omega, by omega⟩)
    simp at q
    omega
  have p1 := pig_ints (a := 0) (k := 60) (frB_iff.1 hsc).2 (fun n hn => by have := (frB_iff.1 hsc).1 n hn; omega)
  have p2 := pig_ints (a := 0) (k := 60) (frB_iff.1 hmi).2 (fun n hn => by have := (frB_iff.1 hmi).1 n hn; omega)
  have p3 := pig_ints (a := 0) (k := 24) (frB_iff.1 hhr).2 (fun n hn => by have := (frB_iff.1 hhr).1 n hn; omega)
  have p4 := pig_ints (a := 1) (k := 12) (frB_iff.1 hmo).2 (fun n hn => by have := (frB_iff.1 hmo).1 n hn; omega)
  have p5 := two (m := 31) hmd
  have p6 := two (m := 366) hyd
  have p7 := two (m := 53) hwn
  have p8 := two (m := 366) hsp
  have p9 := pig_days (dyB_iff.1 hdy).2 (dyB_iff.1 hdy).1
  exact decide_eq_false (by omega)
theorem en_iff {x : CV} : endB x.un x.ua x.ut x.ct = true ∧ 0 ≤ x.ct ↔ (decide (0 < x.ct) && x.un) = false ∧ (x.ut && !x.un) = false ∧ (!x.un && decide (x.ua ≠ 0)) = false ∧ enB x = true ∧ 0 ≤ x.ct := by
  obtain ⟨fq, iv, ct, un, ua, ut, sc, mi, hr, dy, md, yd, wn, mo, sp, wk⟩ := x
  simp only [enB, endB]
  cases un with
  | false => cases ut <;> simp
  | true =>
    have e : Val.tmE ua = 0 ↔ Civ.dnE (ua / 86400) = 0 ∧ 1 ≤ Civ.dY (ua / 86400) ∧ Civ.dY (ua / 86400) ≤ 9999 := by
      rw [Val.tmE]
      by_cases t : Civ.dnE (ua / 86400) = 0 ∧ 1 ≤ Civ.dY (ua / 86400) ∧ Civ.dY (ua / 86400) ≤ 9999
      · rw [if_pos t]; exact ⟨fun _ => t, fun _ => rfl⟩
      · rw [if_neg t]; exact ⟨fun q => absurd q (by decide), fun q => absurd q t⟩
    simp only [if_true, Bool.and_eq_true, decide_eq_true_eq, Bool.and_true, decide_eq_false_iff_not, Bool.not_true, Bool.and_false, Bool.false_and, true_and, Bool.true_and, Bool.not_not, e]
    refine ⟨fun h => ⟨by omega, ⟨h.1.1.1.1, h.1.1.1.2, h.1.1.2⟩, h.2⟩, fun h => ⟨⟨⟨⟨h.2.1.1, h.2.1.2.1⟩, h.2.1.2.2⟩, by omega⟩, h.2.2⟩⟩
theorem g_iff (x : CV) : gtB x = true ↔ x.dy.all (nmB x) = true ∧ g1B x = true ∧ g2B x = true := by
  rw [Rck.gtB_eq, Bool.and_eq_true, ← Bool.and_eq_true (g1B x)]
  refine and_congr_right fun _ => ?_
  rw [g1B, g2B]
  simp only [Bool.and_eq_true, Bool.or_eq_true, decide_eq_true_eq, Bool.not_eq_true', Bool.and_eq_false_iff, decide_eq_false_iff_not]
  omega
theorem nil_len {α : Type} (L : List α) : L = [] ↔ L.length = 0 := List.length_eq_zero_iff.symm
theorem ds_iff {x : CV} (hf : 1 ≤ x.fq ∧ x.fq ≤ 7) : dsB x.fq x.wn.length x.dy = true ↔ dyB x.dy = true ∧ x.dy.all (nmB x) = true := by
  rw [dyB_iff, dsB, decide_eq_true_eq, List.all_eq_true]
  have e : ∀ d : Int × Int, okD x.fq x.wn.length d = true ↔ (0 ≤ d.2 ∧ d.2 ≤ 6 ∧ -53 ≤ d.1 ∧ d.1 ≤ 53) ∧ nmB x d = true := fun d => by
    rw [okD, nmB]
    simp only [Bool.and_eq_true, Bool.or_eq_true, decide_eq_true_eq, Bool.not_eq_true', Bool.and_eq_false_iff, Bool.or_eq_false_iff, decide_eq_false_iff_not, nil_len]
    omega
  exact ⟨fun h => ⟨⟨fun d hd => ((e d).1 (h.1 d hd)).1, h.2⟩, fun d hd => ((e d).1 (h.1 d hd)).2⟩, fun h => ⟨fun d hd => (e d).2 ⟨h.1.1 d hd, h.2 d hd⟩, h.1.2⟩⟩
/-- What the reference asks is what the program asks. -/
theorem ck_ref (x : CV) : ckB x = (!l1B x && (hdB x && (enB x && (laB x && (dsB x.fq x.wn.length x.dy && (g1B x && g2B x)))))) := by
  rw [Bool.eq_iff_iff]
  simp only [Bool.and_eq_true, Bool.not_eq_true']
  constructor
  · intro h
    have hl := long_no h
    unfold ckB at h
    simp only [Bool.and_eq_true, decide_eq_true_eq] at h
    obtain ⟨f1, f2, i1, i2, c1, c2, k1, k2, en, hls, hdy, hg⟩ := h
    obtain ⟨e1, e2, e3, e4, _⟩ := en_iff.1 ⟨en, c1⟩
    obtain ⟨hn, h1, h2⟩ := (g_iff x).1 hg
    refine ⟨hl, ?_, e4, by rw [la_ls]; exact hls, (ds_iff ⟨f1, f2⟩).2 ⟨hdy, hn⟩, h1, h2⟩
    rw [hdB, e1, e2, e3, decide_eq_true ⟨f1, f2⟩, decide_eq_true ⟨i1, i2⟩, decide_eq_true ⟨c1, c2⟩, decide_eq_true ⟨k1, k2⟩]
    rfl
  · rintro ⟨_, hh, he, ha, hd, h1, h2⟩
    unfold hdB at hh
    simp only [Bool.and_eq_true, decide_eq_true_eq, Bool.not_eq_true'] at hh
    obtain ⟨⟨f1, f2⟩, ⟨i1, i2⟩, ⟨c1, c2⟩, e1, e2, e3, k1, k2⟩ := hh
    obtain ⟨hdy, hn⟩ := (ds_iff ⟨f1, f2⟩).1 hd
    unfold ckB
    simp only [Bool.and_eq_true, decide_eq_true_eq]
    exact ⟨f1, f2, i1, i2, c1, c2, k1, k2, (en_iff.2 ⟨e1, e2, e3, he, c1⟩).1, by rw [← la_ls]; exact ha, hdy, (g_iff x).2 ⟨hn, h1, h2⟩⟩
end Rrl
end Go.Proofs.YtgaolaafjiiehaaGreatDoor
/-
  The reference's Recur (layer 21): from its days on. (Written by gen/gen_rrl.py.)
-/
namespace Go.Proofs.YtgaolaafjiiehaaGreatDoor
open Go.RowKit
namespace Rrl
open Cel
open Rcv (CV IntV DayV LisV)
open Rck (ckB ckE frB eiB dyB lsB gtB nmB endB frB_iff dyB_iff Small)

def startsR (n : Nat) : Code → Bool
  | .region k _ _ => k == n
  | .seq a _ => startsR n a
  | .scope a => startsR n a
  | .block _ a => startsR n a
  | _ => false
def fromR (n : Nat) : Code → Option Code
  | .seq a b => if startsR n a = true then some (.seq a b) else fromR n b
  | c => if startsR n c = true then some c else none
theorem ds_out {f : Int} {m : Nat} {L : List (Int × Int)} {k : Nat} (hk : k < L.length) (h : okD f m L[k] = false) : dsB f m L = false := by
  refine decide_eq_false (fun q => ?_)
  have := q.1 _ (List.getElem_mem hk)
  rw [h] at this; cases this
theorem ds_dup {f : Int} {m : Nat} {L : List (Int × Int)} {j k : Nat} (hk : k < L.length) (hj : j < k) (h : L[j] = L[k]) : dsB f m L = false := by
  refine decide_eq_false (fun q => ?_)
  have := (List.pairwise_iff_getElem.1 q.2) j k (by omega) hk hj
  exact this h
theorem ds_next {f : Int} {m : Nat} {L : List (Int × Int)} {k : Nat} (hk : k < L.length) (h : dsB f m (L.take k) = true) (h1 : okD f m L[k] = true) (h2 : ∀ (j : Nat) (hj : j < k), L[j] ≠ L[k]) : dsB f m (L.take (k + 1)) = true := by
  have h := of_decide_eq_true h
  rw [List.take_succ_eq_append_getElem hk]
  refine decide_eq_true ⟨fun n hn => ?_, ?_⟩
  · rcases List.mem_append.1 hn with q | q
    · exact h.1 n q
    · rw [List.mem_singleton.1 q]; exact h1
  · rw [List.nodup_append]
    refine ⟨h.2, by simp, fun a ha b hb => ?_⟩
    rw [List.mem_singleton.1 hb]
    obtain ⟨j, hj, rfl⟩ := List.mem_iff_getElem.1 ha
    rw [List.length_take] at hj
    rw [List.getElem_take]
    exact h2 j (by omega)
theorem day_at {w : World} {a9 : Option Addr} {c : Nat} {L : List (Int × Int)} (h : DayV w (.slice a9 L.length c) L) : ∃ bx ox, 0 < L.length → a9 = some ⟨bx, ox, none⟩ ∧ bx < w.heap.size ∧ ∀ (j : Nat) (hj : j < L.length), w.cell? ⟨bx, ox + j * 2, none⟩ = some (.int .i64 (L[j]).1) ∧ w.cell? ⟨bx, ox + j * 2 + 1, none⟩ = some (.int .i64 (L[j]).2) := by
  by_cases h0 : 0 < L.length
  · obtain ⟨b, off, c', e, h1, h2⟩ := h.form h0
    injection e with e1 e2 e3
    exact ⟨b, off, fun _ => ⟨e1, h1, h2⟩⟩
  · exact ⟨0, 0, fun q => absurd q h0⟩
noncomputable def code23 : Code := (Tryz.f5.body.bind (fromR 23)).getD .skip
set_option maxHeartbeats 25600000 in
set_option maxRecDepth 100000 in
theorem rr23 (x : CV) (a6 a7 a8 a9 a10 a11 a12 a13 a14 : Option Addr) (c6 c7 c8 c9 c10 c11 c12 c13 c14 : Nat) (r : Bool) (w w1 : World) (C : Hid (Cs w.heap.size w1 [.int .i64 x.fq, .int .i64 x.iv, .int .i64 x.ct, .bool x.un, .int .i64 x.ua, .bool x.ut, .slice a6 x.sc.length c6, .slice a7 x.mi.length c7, .slice a8 x.hr.length c8, .slice a9 x.dy.length c9, .slice a10 x.md.length c10, .slice a11 x.yd.length c11, .slice a12 x.wn.length c12, .slice a13 x.mo.length c13, .slice a14 x.sp.length c14, .int .i64 x.wk])) (B : Hid (Below w.heap.size w w1)) (HL : Hid (l1B x = false)) (HR2 : Hid (g2B x = r))
    (z0 z2 z3 z4 z5 z6 z7 z8 z9 z10 z11 z12 z13 z14 z15 z16 z17 z18 z19 z20 z21 z22 z23 z24 z25 z26 z27 z28 z29 z30 z31 z32 z33 z34 z35 z36 z37 z38 z39 z40 z41 z42 z43 z44 z45 z46 z47 z48 z49 z50 z51 z52 z53 z54 z55 z56 z57 z58 z59 z60 z61 z62 z63 z64 z65 z66 z67 z68 z69 z70 z71 z72 z73 z74 z75 z76 z77 z78 z79 z80 z81 z82 z83 z84 z85 z86 z87 z88 z89 z90 z91 z92 z93 z94 z95 z96 z97 z98 z99 z100 z101 z102 z103 z104 z105 z106 z107 z108 z109 z110 z111 z112 z113 z114 z115 z116 z117 z118 z119 z120 z121 z122 z123 z124 z125 z126 z127 z128 z129 z130 z131 z132 z133 z134 z135 z136 z137 z138 z139 z140 z141 z142 z143 z144 z145 z146 z147 z148 z149 z150 z151 z152 z153 z154 z155 z156 z157 z158 z159 z160 z161 z162 z163 z164 z165 z166 z167 z168 z169 z170 z171 z172 z173 z174 z175 z176 z177 z178 z179 z180 z181 z182 z183 z184 z185 z186 z187 z188 z189 z190 z191 z192 z193 z194 z195 z196 z197 z198 z199 z200 z201 z202 z203 z204 z205 z206 z207 z208 z209 z210 z211 z212 z213 z214 z215 z216 z217 z218 z219 z220 z221 z222 z223 z224 z225 z226 z227 z228 z229 z230 z231 z232 z233 z234 z235 z236 z237 z238 z239 z240 z241 z242 z243 z244 z245 z246 z247 z248 z249 z250 z251 z252 z253 z254 z255 z256 z257 z258 z259 z260 z261 z262 z263 z264 z265 z266 z267 z268 z269 z270 z271 z272 z273 z274 z275 z276 z277 z278 z279 z280 z281 z282 z283 z284 z285 z286 : Value) : Code.wp Tryz.prog code23 (bodyPost Tryz.prog Tryz.f5 (fun e w' => e = .returned (.bool r) ∧ Below w.heap.size w w')) ⟨List.toArray (z0 :: .pointer (some ⟨w.heap.size, 0, none⟩) :: z2 :: z3 :: z4 :: z5 :: z6 :: z7 :: z8 :: z9 :: z10 :: z11 :: z12 :: z13 :: z14 :: z15 :: z16 :: z17 :: z18 :: z19 :: z20 :: z21 :: z22 :: z23 :: z24 :: z25 :: z26 :: z27 :: z28 :: z29 :: z30 :: z31 :: z32 :: z33 :: z34 :: z35 :: z36 :: z37 :: z38 :: z39 :: z40 :: z41 :: z42 :: z43 :: z44 :: z45 :: z46 :: z47 :: z48 :: z49 :: z50 :: z51 :: z52 :: z53 :: z54 :: z55 :: z56 :: z57 :: z58 :: z59 :: z60 :: z61 :: z62 :: z63 :: z64 :: z65 :: z66 :: z67 :: z68 :: z69 :: z70 :: z71 :: z72 :: z73 :: z74 :: z75 :: z76 :: z77 :: z78 :: z79 :: z80 :: z81 :: z82 :: z83 :: z84 :: z85 :: z86 :: z87 :: z88 :: z89 :: z90 :: z91 :: z92 :: z93 :: z94 :: z95 :: z96 :: z97 :: z98 :: z99 :: z100 :: z101 :: z102 :: z103 :: z104 :: z105 :: z106 :: z107 :: z108 :: z109 :: z110 :: z111 :: z112 :: z113 :: z114 :: z115 :: z116 :: z117 :: z118 :: z119 :: z120 :: z121 :: z122 :: z123 :: z124 :: z125 :: z126 :: z127 :: z128 :: z129 :: z130 :: z131 :: z132 :: z133 :: z134 :: z135 :: z136 :: z137 :: z138 :: z139 :: z140 :: z141 :: z142 :: z143 :: z144 :: z145 :: z146 :: z147 :: z148 :: z149 :: z150 :: z151 :: z152 :: z153 :: z154 :: z155 :: z156 :: z157 :: z158 :: z159 :: z160 :: z161 :: z162 :: z163 :: z164 :: z165 :: z166 :: z167 :: z168 :: z169 :: z170 :: z171 :: z172 :: z173 :: z174 :: z175 :: z176 :: z177 :: z178 :: z179 :: z180 :: z181 :: z182 :: z183 :: z184 :: z185 :: z186 :: z187 :: z188 :: z189 :: z190 :: z191 :: z192 :: z193 :: z194 :: z195 :: z196 :: z197 :: z198 :: z199 :: z200 :: z201 :: z202 :: z203 :: z204 :: z205 :: z206 :: z207 :: z208 :: z209 :: z210 :: z211 :: z212 :: z213 :: z214 :: z215 :: z216 :: z217 :: z218 :: z219 :: z220 :: z221 :: z222 :: z223 :: z224 :: z225 :: z226 :: z227 :: z228 :: z229 :: z230 :: z231 :: z232 :: z233 :: z234 :: z235 :: z236 :: z237 :: z238 :: z239 :: z240 :: z241 :: z242 :: z243 :: z244 :: z245 :: z246 :: z247 :: z248 :: z249 :: z250 :: z251 :: z252 :: z253 :: z254 :: z255 :: z256 :: z257 :: z258 :: z259 :: z260 :: z261 :: z262 :: z263 :: z264 :: z265 :: z266 :: z267 :: z268 :: z269 :: z270 :: z271 :: z272 :: z273 :: z274 :: z275 :: z276 :: z277 :: z278 :: z279 :: z280 :: z281 :: z282 :: z283 :: z284 :: z285 :: z286 :: []), []⟩ w1 := by
  conv => arg 2; whnf
  have hl := of_decide_eq_false HL.out
  have b6 : x.sc.length ≤ 60 := by omega
  have b7 : x.mi.length ≤ 60 := by omega
  have b8 : x.hr.length ≤ 24 := by omega
  have b13 : x.mo.length ≤ 12 := by omega
  have b10 : x.md.length ≤ 62 := by omega
  have b11 : x.yd.length ≤ 732 := by omega
  have b12 : x.wn.length ≤ 106 := by omega
  have b14 : x.sp.length ≤ 732 := by omega
  have b9 : x.dy.length ≤ 749 := by omega
  clear hl
  go_upto_region 23 with fail
  have m6 := (C.out.2 6 _ rfl).1
  have m7 := (C.out.2 7 _ rfl).1
  have m8 := (C.out.2 8 _ rfl).1
  have m9 := (C.out.2 9 _ rfl).1
  have m10 := (C.out.2 10 _ rfl).1
  have m11 := (C.out.2 11 _ rfl).1
  have m12 := (C.out.2 12 _ rfl).1
  have m13 := (C.out.2 13 _ rfl).1
  have m14 := (C.out.2 14 _ rfl).1
  have wr1 : IntKind.i64.wrap ((x.sc.length : Int) + (x.mi.length : Int)) = (x.sc.length : Int) + (x.mi.length : Int) := IntWalk.i64_in _ (by omega)
  have wr2 : IntKind.i64.wrap (((x.sc.length : Int) + (x.mi.length : Int)) + (x.hr.length : Int)) = ((x.sc.length : Int) + (x.mi.length : Int)) + (x.hr.length : Int) := IntWalk.i64_in _ (by omega)
  have wr3 : IntKind.i64.wrap ((((x.sc.length : Int) + (x.mi.length : Int)) + (x.hr.length : Int)) + (x.dy.length : Int)) = (((x.sc.length : Int) + (x.mi.length : Int)) + (x.hr.length : Int)) + (x.dy.length : Int) := IntWalk.i64_in _ (by omega)
  have wr4 : IntKind.i64.wrap (((((x.sc.length : Int) + (x.mi.length : Int)) + (x.hr.length : Int)) + (x.dy.length : Int)) + (x.md.length : Int)) = ((((x.sc.length : Int) + (x.mi.length : Int)) + (x.hr.length : Int)) + (x.dy.length : Int)) + (x.md.length : Int) := IntWalk.i64_in _ (by omega)
  have wr5 : IntKind.i64.wrap ((((((x.sc.length : Int) + (x.mi.length : Int)) + (x.hr.length : Int)) + (x.dy.length : Int)) + (x.md.length : Int)) + (x.yd.length : Int)) = (((((x.sc.length : Int) + (x.mi.length : Int)) + (x.hr.length : Int)) + (x.dy.length : Int)) + (x.md.length : Int)) + (x.yd.length : Int) := IntWalk.i64_in _ (by omega)
  have wr6 : IntKind.i64.wrap (((((((x.sc.length : Int) + (x.mi.length : Int)) + (x.hr.length : Int)) + (x.dy.length : Int)) + (x.md.length : Int)) + (x.yd.length : Int)) + (x.wn.length : Int)) = ((((((x.sc.length : Int) + (x.mi.length : Int)) + (x.hr.length : Int)) + (x.dy.length : Int)) + (x.md.length : Int)) + (x.yd.length : Int)) + (x.wn.length : Int) := IntWalk.i64_in _ (by omega)
  have wr7 : IntKind.i64.wrap ((((((((x.sc.length : Int) + (x.mi.length : Int)) + (x.hr.length : Int)) + (x.dy.length : Int)) + (x.md.length : Int)) + (x.yd.length : Int)) + (x.wn.length : Int)) + (x.mo.length : Int)) = (((((((x.sc.length : Int) + (x.mi.length : Int)) + (x.hr.length : Int)) + (x.dy.length : Int)) + (x.md.length : Int)) + (x.yd.length : Int)) + (x.wn.length : Int)) + (x.mo.length : Int) := IntWalk.i64_in _ (by omega)
  by_cases s0 : x.sp.length = 0
  · have y0 : (x.sp.length : Int) = 0 := by omega
    have y1 : ((x.sp.length : Int) == 0) = true := beq_iff_eq.2 y0
    obtain rfl : r = true := by rw [← HR2.out, g2B, decide_eq_true s0]; rfl
    clear HR2
    go_wp2
    go_ret
    exact ⟨rfl, B.out⟩
  · have y0 : ¬ (x.sp.length : Int) = 0 := by omega
    have y1 : ((x.sp.length : Int) == 0) = false := beq_eq_false_iff_ne.2 y0
    by_cases s1 : 0 < x.sc.length + x.mi.length + x.hr.length + x.dy.length + x.md.length + x.yd.length + x.wn.length + x.mo.length
    · have y2 : 0 < (((((((x.sc.length : Int) + (x.mi.length : Int)) + (x.hr.length : Int)) + (x.dy.length : Int)) + (x.md.length : Int)) + (x.yd.length : Int)) + (x.wn.length : Int)) + (x.mo.length : Int) := by omega
      obtain rfl : r = true := by rw [← HR2.out, g2B, decide_eq_true s1, Bool.or_true]
      clear HR2
      go_wp2
      go_ret
      exact ⟨rfl, B.out⟩
    · have y2 : ¬ 0 < (((((((x.sc.length : Int) + (x.mi.length : Int)) + (x.hr.length : Int)) + (x.dy.length : Int)) + (x.md.length : Int)) + (x.yd.length : Int)) + (x.wn.length : Int)) + (x.mo.length : Int) := by omega
      obtain rfl : r = false := by rw [← HR2.out, g2B, decide_eq_false s1, decide_eq_false s0]; rfl
      clear HR2
      go_wp2
      go_ret
      exact ⟨rfl, B.out⟩
noncomputable def code21 : Code := (Tryz.f5.body.bind (fromR 21)).getD .skip
set_option maxHeartbeats 25600000 in
set_option maxRecDepth 100000 in
theorem rr21_1 (x : CV) (a6 a7 a8 a9 a10 a11 a12 a13 a14 : Option Addr) (c6 c7 c8 c9 c10 c11 c12 c13 c14 : Nat) (r : Bool) (w w1 : World) (C : Hid (Cs w.heap.size w1 [.int .i64 x.fq, .int .i64 x.iv, .int .i64 x.ct, .bool x.un, .int .i64 x.ua, .bool x.ut, .slice a6 x.sc.length c6, .slice a7 x.mi.length c7, .slice a8 x.hr.length c8, .slice a9 x.dy.length c9, .slice a10 x.md.length c10, .slice a11 x.yd.length c11, .slice a12 x.wn.length c12, .slice a13 x.mo.length c13, .slice a14 x.sp.length c14, .int .i64 x.wk])) (B : Hid (Below w.heap.size w w1)) (HL : Hid (l1B x = false)) (e0 : 0 < x.md.length) (q5 : (x.fq = 5)) (HQ : Hid (ckB x = (g1B x && g2B x))) (HR : Hid (ckB x = r))
    (z0 z2 z3 z4 z5 z6 z7 z8 z9 z10 z11 z12 z13 z14 z15 z16 z17 z18 z19 z20 z21 z22 z23 z24 z25 z26 z27 z28 z29 z30 z31 z32 z33 z34 z35 z36 z37 z38 z39 z40 z41 z42 z43 z44 z45 z46 z47 z48 z49 z50 z51 z52 z53 z54 z55 z56 z57 z58 z59 z60 z61 z62 z63 z64 z65 z66 z67 z68 z69 z70 z71 z72 z73 z74 z75 z76 z77 z78 z79 z80 z81 z82 z83 z84 z85 z86 z87 z88 z89 z90 z91 z92 z93 z94 z95 z96 z97 z98 z99 z100 z101 z102 z103 z104 z105 z106 z107 z108 z109 z110 z111 z112 z113 z114 z115 z116 z117 z118 z119 z120 z121 z122 z123 z124 z125 z126 z127 z128 z129 z130 z131 z132 z133 z134 z135 z136 z137 z138 z139 z140 z141 z142 z143 z144 z145 z146 z147 z148 z149 z150 z151 z152 z153 z154 z155 z156 z157 z158 z159 z160 z161 z162 z163 z164 z165 z166 z167 z168 z169 z170 z171 z172 z173 z174 z175 z176 z177 z178 z179 z180 z181 z182 z183 z184 z185 z186 z187 z188 z189 z190 z191 z192 z193 z194 z195 z196 z197 z198 z199 z200 z201 z202 z203 z204 z205 z206 z207 z208 z209 z210 z211 z212 z213 z214 z215 z216 z217 z218 z219 z220 z221 z222 z223 z224 z225 z226 z227 z228 z229 z230 z231 z232 z233 z234 z235 z236 z237 z238 z239 z240 z241 z242 z243 z244 z245 z246 z247 z248 z249 z250 z251 z252 z253 z254 z255 z256 z257 z258 z259 z260 z261 z262 z263 z264 z265 z266 z267 z268 z269 z270 z271 z272 z273 z274 z275 z276 z277 z278 z279 z280 z281 z282 z283 z284 z285 z286 : Value) : Code.wp Tryz.prog code21 (bodyPost Tryz.prog Tryz.f5 (fun e w' => e = .returned (.bool r) ∧ Below w.heap.size w w')) ⟨List.toArray (z0 :: .pointer (some ⟨w.heap.size, 0, none⟩) :: z2 :: z3 :: z4 :: z5 :: z6 :: z7 :: z8 :: z9 :: z10 :: z11 :: z12 :: z13 :: z14 :: z15 :: z16 :: z17 :: z18 :: z19 :: z20 :: z21 :: z22 :: z23 :: z24 :: z25 :: z26 :: z27 :: z28 :: z29 :: z30 :: z31 :: z32 :: z33 :: z34 :: z35 :: z36 :: z37 :: z38 :: z39 :: z40 :: z41 :: z42 :: z43 :: z44 :: z45 :: z46 :: z47 :: z48 :: z49 :: z50 :: z51 :: z52 :: z53 :: z54 :: z55 :: z56 :: z57 :: z58 :: z59 :: z60 :: z61 :: z62 :: z63 :: z64 :: z65 :: z66 :: z67 :: z68 :: z69 :: z70 :: z71 :: z72 :: z73 :: z74 :: z75 :: z76 :: z77 :: z78 :: z79 :: z80 :: z81 :: z82 :: z83 :: z84 :: z85 :: z86 :: z87 :: z88 :: z89 :: z90 :: z91 :: z92 :: z93 :: z94 :: z95 :: z96 :: z97 :: z98 :: z99 :: z100 :: z101 :: z102 :: z103 :: z104 :: z105 :: z106 :: z107 :: z108 :: z109 :: z110 :: z111 :: z112 :: z113 :: z114 :: z115 :: z116 :: z117 :: z118 :: z119 :: z120 :: z121 :: z122 :: z123 :: z124 :: z125 :: z126 :: z127 :: z128 :: z129 :: z130 :: z131 :: z132 :: z133 :: z134 :: z135 :: z136 :: z137 :: z138 :: z139 :: z140 :: z141 :: z142 :: z143 :: z144 :: z145 :: z146 :: z147 :: z148 :: z149 :: z150 :: z151 :: z152 :: z153 :: z154 :: z155 :: z156 :: z157 :: z158 :: z159 :: z160 :: z161 :: z162 :: z163 :: z164 :: z165 :: z166 :: z167 :: z168 :: z169 :: z170 :: z171 :: z172 :: z173 :: z174 :: z175 :: z176 :: z177 :: z178 :: z179 :: z180 :: z181 :: z182 :: z183 :: z184 :: z185 :: z186 :: z187 :: z188 :: z189 :: z190 :: z191 :: z192 :: z193 :: z194 :: z195 :: z196 :: z197 :: z198 :: z199 :: z200 :: z201 :: z202 :: z203 :: z204 :: z205 :: z206 :: z207 :: z208 :: z209 :: z210 :: z211 :: z212 :: z213 :: z214 :: z215 :: z216 :: z217 :: z218 :: z219 :: z220 :: z221 :: z222 :: z223 :: z224 :: z225 :: z226 :: z227 :: z228 :: z229 :: z230 :: z231 :: z232 :: z233 :: z234 :: z235 :: z236 :: z237 :: z238 :: z239 :: z240 :: z241 :: z242 :: z243 :: z244 :: z245 :: z246 :: z247 :: z248 :: z249 :: z250 :: z251 :: z252 :: z253 :: z254 :: z255 :: z256 :: z257 :: z258 :: z259 :: z260 :: z261 :: z262 :: z263 :: z264 :: z265 :: z266 :: z267 :: z268 :: z269 :: z270 :: z271 :: z272 :: z273 :: z274 :: z275 :: z276 :: z277 :: z278 :: z279 :: z280 :: z281 :: z282 :: z283 :: z284 :: z285 :: z286 :: []), []⟩ w1 := by
  conv => arg 2; whnf
  obtain ⟨g1, hg1⟩ : ∃ g, g1B x = g := ⟨_, rfl⟩
  have HG1 := Lib.hid hg1
  clear hg1
  go_upto_region 21 with fail
  rename_i K23 hK23 Kc hKc
  go_cut [248] (fun v wz => v = .bool (!g1) ∧ w1 = wz)
  case first =>
    have m0 := (C.out.2 0 _ rfl).1
    have m10 := (C.out.2 10 _ rfl).1
    have m11 := (C.out.2 11 _ rfl).1
    have m12 := (C.out.2 12 _ rfl).1
    have f0 : (0 : Int) < (x.md.length : Int) := by omega
    have z0 : (x.fq == 5) = true := beq_iff_eq.2 q5
    obtain rfl : g1 = false := by rw [← HG1.out, g1B, decide_eq_true e0, decide_eq_true q5]; rfl
    go_wp2_with (go_at_call 12; first | (with_reducible refine (rin_to x.fq 4 6 _ _ HI.out).mono ?_; rintro e wq ⟨rfl, rfl⟩))
    go_meet
    exact ⟨rfl, rfl⟩
  case rest =>
  obtain ⟨rfl, hw⟩ := hcut
  subst hw
  cases g1 with
  | false =>
    have hr : ckB x = false := by rw [HQ.out, HG1.out]; rfl
    rw [HR.out] at hr
    subst hr
    go_wp2
    go_ret
    exact ⟨rfl, B.out⟩
  | true =>
  have HR2 : Hid (g2B x = r) := Lib.hid (by rw [← HR.out, HQ.out, HG1.out]; rfl)
  go_step
  go_step
  go_step
  go_step
  exact hK23 _ _ (rr23 x a6 a7 a8 a9 a10 a11 a12 a13 a14 c6 c7 c8 c9 c10 c11 c12 c13 c14 r w _ C B HL HR2 _ _ _ _ _ _ _ _ _ _ _ _ _ _ _ _ _ _ _ _ _ _ _ _ _ _ _ _ _ _ _ _ _ _ _ _ _ _ _ _ _ _ _ _ _ _ _ _ _ _ _ _ _ _ _ _ _ _ _ _ _ _ _ _ _ _ _ _ _ _ _ _ _ _ _ _ _ _ _ _ _ _ _ _ _ _ _ _ _ _ _ _ _ _ _ _ _ _ _ _ _ _ _ _ _ _ _ _ _ _ _ _ _ _ _ _ _ _ _ _ _ _ _ _ _ _ _ _ _ _ _ _ _ _ _ _ _ _ _ _ _ _ _ _ _ _ _ _ _ _ _ _ _ _ _ _ _ _ _ _ _ _ _ _ _ _ _ _ _ _ _ _ _ _ _ _ _ _ _ _ _ _ _ _ _ _ _ _ _ _ _ _ _ _ _ _ _ _ _ _ _ _ _ _ _ _ _ _ _ _ _ _ _ _ _ _ _ _ _ _ _ _ _ _ _ _ _ _ _ _ _ _ _ _ _ _ _ _ _ _ _ _ _ _ _ _ _ _ _ _ _ _ _ _ _ _ _ _ _ _ _ _ _ _ _ _ _ _ _ _ _ _ _ _ _ _ _ _ _ _ _ _ _ _ _ _)
set_option maxHeartbeats 25600000 in
set_option maxRecDepth 100000 in
theorem rr21_01 (x : CV) (a6 a7 a8 a9 a10 a11 a12 a13 a14 : Option Addr) (c6 c7 c8 c9 c10 c11 c12 c13 c14 : Nat) (r : Bool) (w w1 : World) (C : Hid (Cs w.heap.size w1 [.int .i64 x.fq, .int .i64 x.iv, .int .i64 x.ct, .bool x.un, .int .i64 x.ua, .bool x.ut, .slice a6 x.sc.length c6, .slice a7 x.mi.length c7, .slice a8 x.hr.length c8, .slice a9 x.dy.length c9, .slice a10 x.md.length c10, .slice a11 x.yd.length c11, .slice a12 x.wn.length c12, .slice a13 x.mo.length c13, .slice a14 x.sp.length c14, .int .i64 x.wk])) (B : Hid (Below w.heap.size w w1)) (HL : Hid (l1B x = false)) (e0 : ¬ 0 < x.md.length) (e1 : 0 < x.yd.length) (q46 : (4 ≤ x.fq ∧ x.fq ≤ 6)) (HQ : Hid (ckB x = (g1B x && g2B x))) (HR : Hid (ckB x = r))
    (z0 z2 z3 z4 z5 z6 z7 z8 z9 z10 z11 z12 z13 z14 z15 z16 z17 z18 z19 z20 z21 z22 z23 z24 z25 z26 z27 z28 z29 z30 z31 z32 z33 z34 z35 z36 z37 z38 z39 z40 z41 z42 z43 z44 z45 z46 z47 z48 z49 z50 z51 z52 z53 z54 z55 z56 z57 z58 z59 z60 z61 z62 z63 z64 z65 z66 z67 z68 z69 z70 z71 z72 z73 z74 z75 z76 z77 z78 z79 z80 z81 z82 z83 z84 z85 z86 z87 z88 z89 z90 z91 z92 z93 z94 z95 z96 z97 z98 z99 z100 z101 z102 z103 z104 z105 z106 z107 z108 z109 z110 z111 z112 z113 z114 z115 z116 z117 z118 z119 z120 z121 z122 z123 z124 z125 z126 z127 z128 z129 z130 z131 z132 z133 z134 z135 z136 z137 z138 z139 z140 z141 z142 z143 z144 z145 z146 z147 z148 z149 z150 z151 z152 z153 z154 z155 z156 z157 z158 z159 z160 z161 z162 z163 z164 z165 z166 z167 z168 z169 z170 z171 z172 z173 z174 z175 z176 z177 z178 z179 z180 z181 z182 z183 z184 z185 z186 z187 z188 z189 z190 z191 z192 z193 z194 z195 z196 z197 z198 z199 z200 z201 z202 z203 z204 z205 z206 z207 z208 z209 z210 z211 z212 z213 z214 z215 z216 z217 z218 z219 z220 z221 z222 z223 z224 z225 z226 z227 z228 z229 z230 z231 z232 z233 z234 z235 z236 z237 z238 z239 z240 z241 z242 z243 z244 z245 z246 z247 z248 z249 z250 z251 z252 z253 z254 z255 z256 z257 z258 z259 z260 z261 z262 z263 z264 z265 z266 z267 z268 z269 z270 z271 z272 z273 z274 z275 z276 z277 z278 z279 z280 z281 z282 z283 z284 z285 z286 : Value) : Code.wp Tryz.prog code21 (bodyPost Tryz.prog Tryz.f5 (fun e w' => e = .returned (.bool r) ∧ Below w.heap.size w w')) ⟨List.toArray (z0 :: .pointer (some ⟨w.heap.size, 0, none⟩) :: z2 :: z3 :: z4 :: z5 :: z6 :: z7 :: z8 :: z9 :: z10 :: z11 :: z12 :: z13 :: z14 :: z15 :: z16 :: z17 :: z18 :: z19 :: z20 :: z21 :: z22 :: z23 :: z24 :: z25 :: z26 :: z27 :: z28 :: z29 :: z30 :: z31 :: z32 :: z33 :: z34 :: z35 :: z36 :: z37 :: z38 :: z39 :: z40 :: z41 :: z42 :: z43 :: z44 :: z45 :: z46 :: z47 :: z48 :: z49 :: z50 :: z51 :: z52 :: z53 :: z54 :: z55 :: z56 :: z57 :: z58 :: z59 :: z60 :: z61 :: z62 :: z63 :: z64 :: z65 :: z66 :: z67 :: z68 :: z69 :: z70 :: z71 :: z72 :: z73 :: z74 :: z75 :: z76 :: z77 :: z78 :: z79 :: z80 :: z81 :: z82 :: z83 :: z84 :: z85 :: z86 :: z87 :: z88 :: z89 :: z90 :: z91 :: z92 :: z93 :: z94 :: z95 :: z96 :: z97 :: z98 :: z99 :: z100 :: z101 :: z102 :: z103 :: z104 :: z105 :: z106 :: z107 :: z108 :: z109 :: z110 :: z111 :: z112 :: z113 :: z114 :: z115 :: z116 :: z117 :: z118 :: z119 :: z120 :: z121 :: z122 :: z123 :: z124 :: z125 :: z126 :: z127 :: z128 :: z129 :: z130 :: z131 :: z132 :: z133 :: z134 :: z135 :: z136 :: z137 :: z138 :: z139 :: z140 :: z141 :: z142 :: z143 :: z144 :: z145 :: z146 :: z147 :: z148 :: z149 :: z150 :: z151 :: z152 :: z153 :: z154 :: z155 :: z156 :: z157 :: z158 :: z159 :: z160 :: z161 :: z162 :: z163 :: z164 :: z165 :: z166 :: z167 :: z168 :: z169 :: z170 :: z171 :: z172 :: z173 :: z174 :: z175 :: z176 :: z177 :: z178 :: z179 :: z180 :: z181 :: z182 :: z183 :: z184 :: z185 :: z186 :: z187 :: z188 :: z189 :: z190 :: z191 :: z192 :: z193 :: z194 :: z195 :: z196 :: z197 :: z198 :: z199 :: z200 :: z201 :: z202 :: z203 :: z204 :: z205 :: z206 :: z207 :: z208 :: z209 :: z210 :: z211 :: z212 :: z213 :: z214 :: z215 :: z216 :: z217 :: z218 :: z219 :: z220 :: z221 :: z222 :: z223 :: z224 :: z225 :: z226 :: z227 :: z228 :: z229 :: z230 :: z231 :: z232 :: z233 :: z234 :: z235 :: z236 :: z237 :: z238 :: z239 :: z240 :: z241 :: z242 :: z243 :: z244 :: z245 :: z246 :: z247 :: z248 :: z249 :: z250 :: z251 :: z252 :: z253 :: z254 :: z255 :: z256 :: z257 :: z258 :: z259 :: z260 :: z261 :: z262 :: z263 :: z264 :: z265 :: z266 :: z267 :: z268 :: z269 :: z270 :: z271 :: z272 :: z273 :: z274 :: z275 :: z276 :: z277 :: z278 :: z279 :: z280 :: z281 :: z282 :: z283 :: z284 :: z285 :: z286 :: []), []⟩ w1 := by
  conv => arg 2; whnf
  obtain ⟨g1, hg1⟩ : ∃ g, g1B x = g := ⟨_, rfl⟩
  have HG1 := Lib.hid hg1
  clear hg1
  go_upto_region 21 with fail
  rename_i K23 hK23 Kc hKc
  go_cut [248] (fun v wz => v = .bool (!g1) ∧ w1 = wz)
  case first =>
    have m0 := (C.out.2 0 _ rfl).1
    have m10 := (C.out.2 10 _ rfl).1
    have m11 := (C.out.2 11 _ rfl).1
    have m12 := (C.out.2 12 _ rfl).1
    have f0 : ¬ (0 : Int) < (x.md.length : Int) := by omega
    have f1 : (0 : Int) < (x.yd.length : Int) := by omega
    have HI : Hid (decide (4 ≤ x.fq ∧ x.fq ≤ 6) = true) := Lib.hid (decide_eq_true q46)
    obtain rfl : g1 = false := by rw [← HG1.out, g1B, decide_eq_false e0, decide_eq_true e1, decide_eq_true q46]; rfl
    go_wp2_with (go_at_call 12; first | (with_reducible refine (rin_to x.fq 4 6 _ _ HI.out).mono ?_; rintro e wq ⟨rfl, rfl⟩))
    go_meet
    exact ⟨rfl, rfl⟩
  case rest =>
  obtain ⟨rfl, hw⟩ := hcut
  subst hw
  cases g1 with
  | false =>
    have hr : ckB x = false := by rw [HQ.out, HG1.out]; rfl
    rw [HR.out] at hr
    subst hr
    go_wp2
    go_ret
    exact ⟨rfl, B.out⟩
  | true =>
  have HR2 : Hid (g2B x = r) := Lib.hid (by rw [← HR.out, HQ.out, HG1.out]; rfl)
  go_step
  go_step
  go_step
  go_step
  exact hK23 _ _ (rr23 x a6 a7 a8 a9 a10 a11 a12 a13 a14 c6 c7 c8 c9 c10 c11 c12 c13 c14 r w _ C B HL HR2 _ _ _ _ _ _ _ _ _ _ _ _ _ _ _ _ _ _ _ _ _ _ _ _ _ _ _ _ _ _ _ _ _ _ _ _ _ _ _ _ _ _ _ _ _ _ _ _ _ _ _ _ _ _ _ _ _ _ _ _ _ _ _ _ _ _ _ _ _ _ _ _ _ _ _ _ _ _ _ _ _ _ _ _ _ _ _ _ _ _ _ _ _ _ _ _ _ _ _ _ _ _ _ _ _ _ _ _ _ _ _ _ _ _ _ _ _ _ _ _ _ _ _ _ _ _ _ _ _ _ _ _ _ _ _ _ _ _ _ _ _ _ _ _ _ _ _ _ _ _ _ _ _ _ _ _ _ _ _ _ _ _ _ _ _ _ _ _ _ _ _ _ _ _ _ _ _ _ _ _ _ _ _ _ _ _ _ _ _ _ _ _ _ _ _ _ _ _ _ _ _ _ _ _ _ _ _ _ _ _ _ _ _ _ _ _ _ _ _ _ _ _ _ _ _ _ _ _ _ _ _ _ _ _ _ _ _ _ _ _ _ _ _ _ _ _ _ _ _ _ _ _ _ _ _ _ _ _ _ _ _ _ _ _ _ _ _ _ _ _ _ _ _ _ _ _ _ _ _ _ _ _ _ _ _ _)
set_option maxHeartbeats 25600000 in
set_option maxRecDepth 100000 in
theorem rr21_21 (x : CV) (a6 a7 a8 a9 a10 a11 a12 a13 a14 : Option Addr) (c6 c7 c8 c9 c10 c11 c12 c13 c14 : Nat) (r : Bool) (w w1 : World) (C : Hid (Cs w.heap.size w1 [.int .i64 x.fq, .int .i64 x.iv, .int .i64 x.ct, .bool x.un, .int .i64 x.ua, .bool x.ut, .slice a6 x.sc.length c6, .slice a7 x.mi.length c7, .slice a8 x.hr.length c8, .slice a9 x.dy.length c9, .slice a10 x.md.length c10, .slice a11 x.yd.length c11, .slice a12 x.wn.length c12, .slice a13 x.mo.length c13, .slice a14 x.sp.length c14, .int .i64 x.wk])) (B : Hid (Below w.heap.size w w1)) (HL : Hid (l1B x = false)) (e0 : 0 < x.md.length) (q5 : ¬ (x.fq = 5)) (e1 : 0 < x.yd.length) (q46 : (4 ≤ x.fq ∧ x.fq ≤ 6)) (HQ : Hid (ckB x = (g1B x && g2B x))) (HR : Hid (ckB x = r))
    (z0 z2 z3 z4 z5 z6 z7 z8 z9 z10 z11 z12 z13 z14 z15 z16 z17 z18 z19 z20 z21 z22 z23 z24 z25 z26 z27 z28 z29 z30 z31 z32 z33 z34 z35 z36 z37 z38 z39 z40 z41 z42 z43 z44 z45 z46 z47 z48 z49 z50 z51 z52 z53 z54 z55 z56 z57 z58 z59 z60 z61 z62 z63 z64 z65 z66 z67 z68 z69 z70 z71 z72 z73 z74 z75 z76 z77 z78 z79 z80 z81 z82 z83 z84 z85 z86 z87 z88 z89 z90 z91 z92 z93 z94 z95 z96 z97 z98 z99 z100 z101 z102 z103 z104 z105 z106 z107 z108 z109 z110 z111 z112 z113 z114 z115 z116 z117 z118 z119 z120 z121 z122 z123 z124 z125 z126 z127 z128 z129 z130 z131 z132 z133 z134 z135 z136 z137 z138 z139 z140 z141 z142 z143 z144 z145 z146 z147 z148 z149 z150 z151 z152 z153 z154 z155 z156 z157 z158 z159 z160 z161 z162 z163 z164 z165 z166 z167 z168 z169 z170 z171 z172 z173 z174 z175 z176 z177 z178 z179 z180 z181 z182 z183 z184 z185 z186 z187 z188 z189 z190 z191 z192 z193 z194 z195 z196 z197 z198 z199 z200 z201 z202 z203 z204 z205 z206 z207 z208 z209 z210 z211 z212 z213 z214 z215 z216 z217 z218 z219 z220 z221 z222 z223 z224 z225 z226 z227 z228 z229 z230 z231 z232 z233 z234 z235 z236 z237 z238 z239 z240 z241 z242 z243 z244 z245 z246 z247 z248 z249 z250 z251 z252 z253 z254 z255 z256 z257 z258 z259 z260 z261 z262 z263 z264 z265 z266 z267 z268 z269 z270 z271 z272 z273 z274 z275 z276 z277 z278 z279 z280 z281 z282 z283 z284 z285 z286 : Value) : Code.wp Tryz.prog code21 (bodyPost Tryz.prog Tryz.f5 (fun e w' => e = .returned (.bool r) ∧ Below w.heap.size w w')) ⟨List.toArray (z0 :: .pointer (some ⟨w.heap.size, 0, none⟩) :: z2 :: z3 :: z4 :: z5 :: z6 :: z7 :: z8 :: z9 :: z10 :: z11 :: z12 :: z13 :: z14 :: z15 :: z16 :: z17 :: z18 :: z19 :: z20 :: z21 :: z22 :: z23 :: z24 :: z25 :: z26 :: z27 :: z28 :: z29 :: z30 :: z31 :: z32 :: z33 :: z34 :: z35 :: z36 :: z37 :: z38 :: z39 :: z40 :: z41 :: z42 :: z43 :: z44 :: z45 :: z46 :: z47 :: z48 :: z49 :: z50 :: z51 :: z52 :: z53 :: z54 :: z55 :: z56 :: z57 :: z58 :: z59 :: z60 :: z61 :: z62 :: z63 :: z64 :: z65 :: z66 :: z67 :: z68 :: z69 :: z70 :: z71 :: z72 :: z73 :: z74 :: z75 :: z76 :: z77 :: z78 :: z79 :: z80 :: z81 :: z82 :: z83 :: z84 :: z85 :: z86 :: z87 :: z88 :: z89 :: z90 :: z91 :: z92 :: z93 :: z94 :: z95 :: z96 :: z97 :: z98 :: z99 :: z100 :: z101 :: z102 :: z103 :: z104 :: z105 :: z106 :: z107 :: z108 :: z109 :: z110 :: z111 :: z112 :: z113 :: z114 :: z115 :: z116 :: z117 :: z118 :: z119 :: z120 :: z121 :: z122 :: z123 :: z124 :: z125 :: z126 :: z127 :: z128 :: z129 :: z130 :: z131 :: z132 :: z133 :: z134 :: z135 :: z136 :: z137 :: z138 :: z139 :: z140 :: z141 :: z142 :: z143 :: z144 :: z145 :: z146 :: z147 :: z148 :: z149 :: z150 :: z151 :: z152 :: z153 :: z154 :: z155 :: z156 :: z157 :: z158 :: z159 :: z160 :: z161 :: z162 :: z163 :: z164 :: z165 :: z166 :: z167 :: z168 :: z169 :: z170 :: z171 :: z172 :: z173 :: z174 :: z175 :: z176 :: z177 :: z178 :: z179 :: z180 :: z181 :: z182 :: z183 :: z184 :: z185 :: z186 :: z187 :: z188 :: z189 :: z190 :: z191 :: z192 :: z193 :: z194 :: z195 :: z196 :: z197 :: z198 :: z199 :: z200 :: z201 :: z202 :: z203 :: z204 :: z205 :: z206 :: z207 :: z208 :: z209 :: z210 :: z211 :: z212 :: z213 :: z214 :: z215 :: z216 :: z217 :: z218 :: z219 :: z220 :: z221 :: z222 :: z223 :: z224 :: z225 :: z226 :: z227 :: z228 :: z229 :: z230 :: z231 :: z232 :: z233 :: z234 :: z235 :: z236 :: z237 :: z238 :: z239 :: z240 :: z241 :: z242 :: z243 :: z244 :: z245 :: z246 :: z247 :: z248 :: z249 :: z250 :: z251 :: z252 :: z253 :: z254 :: z255 :: z256 :: z257 :: z258 :: z259 :: z260 :: z261 :: z262 :: z263 :: z264 :: z265 :: z266 :: z267 :: z268 :: z269 :: z270 :: z271 :: z272 :: z273 :: z274 :: z275 :: z276 :: z277 :: z278 :: z279 :: z280 :: z281 :: z282 :: z283 :: z284 :: z285 :: z286 :: []), []⟩ w1 := by
  conv => arg 2; whnf
  obtain ⟨g1, hg1⟩ : ∃ g, g1B x = g := ⟨_, rfl⟩
  have HG1 := Lib.hid hg1
  clear hg1
  go_upto_region 21 with fail
  rename_i K23 hK23 Kc hKc
  go_cut [248] (fun v wz => v = .bool (!g1) ∧ w1 = wz)
  case first =>
    have m0 := (C.out.2 0 _ rfl).1
    have m10 := (C.out.2 10 _ rfl).1
    have m11 := (C.out.2 11 _ rfl).1
    have m12 := (C.out.2 12 _ rfl).1
    have f0 : (0 : Int) < (x.md.length : Int) := by omega
    have z0 : (x.fq == 5) = false := beq_eq_false_iff_ne.2 q5
    have f1 : (0 : Int) < (x.yd.length : Int) := by omega
    have HI : Hid (decide (4 ≤ x.fq ∧ x.fq ≤ 6) = true) := Lib.hid (decide_eq_true q46)
    obtain rfl : g1 = false := by rw [← HG1.out, g1B, decide_eq_true e0, decide_eq_false q5, decide_eq_true e1, decide_eq_true q46]; rfl
    go_wp2_with (go_at_call 12; first | (with_reducible refine (rin_to x.fq 4 6 _ _ HI.out).mono ?_; rintro e wq ⟨rfl, rfl⟩))
    go_meet
    exact ⟨rfl, rfl⟩
  case rest =>
  obtain ⟨rfl, hw⟩ := hcut
  subst hw
  cases g1 with
  | false =>
    have hr : ckB x = false := by rw [HQ.out, HG1.out]; rfl
    rw [HR.out] at hr
    subst hr
    go_wp2
    go_ret
    exact ⟨rfl, B.out⟩
  | true =>
  have HR2 : Hid (g2B x = r) := Lib.hid (by rw [← HR.out, HQ.out, HG1.out]; rfl)
  go_step
  go_step
  go_step
  go_step
  exact hK23 _ _ (rr23 x a6 a7 a8 a9 a10 a11 a12 a13 a14 c6 c7 c8 c9 c10 c11 c12 c13 c14 r w _ C B HL HR2 _ _ _ _ _ _ _ _ _ _ _ _ _ _ _ _ _ _ _ _ _ _ _ _ _ _ _ _ _ _ _ _ _ _ _ _ _ _ _ _ _ _ _ _ _ _ _ _ _ _ _ _ _ _ _ _ _ _ _ _ _ _ _ _ _ _ _ _ _ _ _ _ _ _ _ _ _ _ _ _ _ _ _ _ _ _ _ _ _ _ _ _ _ _ _ _ _ _ _ _ _ _ _ _ _ _ _ _ _ _ _ _ _ _ _ _ _ _ _ _ _ _ _ _ _ _ _ _ _ _ _ _ _ _ _ _ _ _ _ _ _ _ _ _ _ _ _ _ _ _ _ _ _ _ _ _ _ _ _ _ _ _ _ _ _ _ _ _ _ _ _ _ _ _ _ _ _ _ _ _ _ _ _ _ _ _ _ _ _ _ _ _ _ _ _ _ _ _ _ _ _ _ _ _ _ _ _ _ _ _ _ _ _ _ _ _ _ _ _ _ _ _ _ _ _ _ _ _ _ _ _ _ _ _ _ _ _ _ _ _ _ _ _ _ _ _ _ _ _ _ _ _ _ _ _ _ _ _ _ _ _ _ _ _ _ _ _ _ _ _ _ _ _ _ _ _ _ _ _ _ _ _ _ _ _ _)
set_option maxHeartbeats 25600000 in
set_option maxRecDepth 100000 in
theorem rr21_00 (x : CV) (a6 a7 a8 a9 a10 a11 a12 a13 a14 : Option Addr) (c6 c7 c8 c9 c10 c11 c12 c13 c14 : Nat) (r : Bool) (w w1 : World) (C : Hid (Cs w.heap.size w1 [.int .i64 x.fq, .int .i64 x.iv, .int .i64 x.ct, .bool x.un, .int .i64 x.ua, .bool x.ut, .slice a6 x.sc.length c6, .slice a7 x.mi.length c7, .slice a8 x.hr.length c8, .slice a9 x.dy.length c9, .slice a10 x.md.length c10, .slice a11 x.yd.length c11, .slice a12 x.wn.length c12, .slice a13 x.mo.length c13, .slice a14 x.sp.length c14, .int .i64 x.wk])) (B : Hid (Below w.heap.size w w1)) (HL : Hid (l1B x = false)) (e0 : ¬ 0 < x.md.length) (e1 : ¬ 0 < x.yd.length) (HQ : Hid (ckB x = (g1B x && g2B x))) (HR : Hid (ckB x = r))
    (z0 z2 z3 z4 z5 z6 z7 z8 z9 z10 z11 z12 z13 z14 z15 z16 z17 z18 z19 z20 z21 z22 z23 z24 z25 z26 z27 z28 z29 z30 z31 z32 z33 z34 z35 z36 z37 z38 z39 z40 z41 z42 z43 z44 z45 z46 z47 z48 z49 z50 z51 z52 z53 z54 z55 z56 z57 z58 z59 z60 z61 z62 z63 z64 z65 z66 z67 z68 z69 z70 z71 z72 z73 z74 z75 z76 z77 z78 z79 z80 z81 z82 z83 z84 z85 z86 z87 z88 z89 z90 z91 z92 z93 z94 z95 z96 z97 z98 z99 z100 z101 z102 z103 z104 z105 z106 z107 z108 z109 z110 z111 z112 z113 z114 z115 z116 z117 z118 z119 z120 z121 z122 z123 z124 z125 z126 z127 z128 z129 z130 z131 z132 z133 z134 z135 z136 z137 z138 z139 z140 z141 z142 z143 z144 z145 z146 z147 z148 z149 z150 z151 z152 z153 z154 z155 z156 z157 z158 z159 z160 z161 z162 z163 z164 z165 z166 z167 z168 z169 z170 z171 z172 z173 z174 z175 z176 z177 z178 z179 z180 z181 z182 z183 z184 z185 z186 z187 z188 z189 z190 z191 z192 z193 z194 z195 z196 z197 z198 z199 z200 z201 z202 z203 z204 z205 z206 z207 z208 z209 z210 z211 z212 z213 z214 z215 z216 z217 z218 z219 z220 z221 z222 z223 z224 z225 z226 z227 z228 z229 z230 z231 z232 z233 z234 z235 z236 z237 z238 z239 z240 z241 z242 z243 z244 z245 z246 z247 z248 z249 z250 z251 z252 z253 z254 z255 z256 z257 z258 z259 z260 z261 z262 z263 z264 z265 z266 z267 z268 z269 z270 z271 z272 z273 z274 z275 z276 z277 z278 z279 z280 z281 z282 z283 z284 z285 z286 : Value) : Code.wp Tryz.prog code21 (bodyPost Tryz.prog Tryz.f5 (fun e w' => e = .returned (.bool r) ∧ Below w.heap.size w w')) ⟨List.toArray (z0 :: .pointer (some ⟨w.heap.size, 0, none⟩) :: z2 :: z3 :: z4 :: z5 :: z6 :: z7 :: z8 :: z9 :: z10 :: z11 :: z12 :: z13 :: z14 :: z15 :: z16 :: z17 :: z18 :: z19 :: z20 :: z21 :: z22 :: z23 :: z24 :: z25 :: z26 :: z27 :: z28 :: z29 :: z30 :: z31 :: z32 :: z33 :: z34 :: z35 :: z36 :: z37 :: z38 :: z39 :: z40 :: z41 :: z42 :: z43 :: z44 :: z45 :: z46 :: z47 :: z48 :: z49 :: z50 :: z51 :: z52 :: z53 :: z54 :: z55 :: z56 :: z57 :: z58 :: z59 :: z60 :: z61 :: z62 :: z63 :: z64 :: z65 :: z66 :: z67 :: z68 :: z69 :: z70 :: z71 :: z72 :: z73 :: z74 :: z75 :: z76 :: z77 :: z78 :: z79 :: z80 :: z81 :: z82 :: z83 :: z84 :: z85 :: z86 :: z87 :: z88 :: z89 :: z90 :: z91 :: z92 :: z93 :: z94 :: z95 :: z96 :: z97 :: z98 :: z99 :: z100 :: z101 :: z102 :: z103 :: z104 :: z105 :: z106 :: z107 :: z108 :: z109 :: z110 :: z111 :: z112 :: z113 :: z114 :: z115 :: z116 :: z117 :: z118 :: z119 :: z120 :: z121 :: z122 :: z123 :: z124 :: z125 :: z126 :: z127 :: z128 :: z129 :: z130 :: z131 :: z132 :: z133 :: z134 :: z135 :: z136 :: z137 :: z138 :: z139 :: z140 :: z141 :: z142 :: z143 :: z144 :: z145 :: z146 :: z147 :: z148 :: z149 :: z150 :: z151 :: z152 :: z153 :: z154 :: z155 :: z156 :: z157 :: z158 :: z159 :: z160 :: z161 :: z162 :: z163 :: z164 :: z165 :: z166 :: z167 :: z168 :: z169 :: z170 :: z171 :: z172 :: z173 :: z174 :: z175 :: z176 :: z177 :: z178 :: z179 :: z180 :: z181 :: z182 :: z183 :: z184 :: z185 :: z186 :: z187 :: z188 :: z189 :: z190 :: z191 :: z192 :: z193 :: z194 :: z195 :: z196 :: z197 :: z198 :: z199 :: z200 :: z201 :: z202 :: z203 :: z204 :: z205 :: z206 :: z207 :: z208 :: z209 :: z210 :: z211 :: z212 :: z213 :: z214 :: z215 :: z216 :: z217 :: z218 :: z219 :: z220 :: z221 :: z222 :: z223 :: z224 :: z225 :: z226 :: z227 :: z228 :: z229 :: z230 :: z231 :: z232 :: z233 :: z234 :: z235 :: z236 :: z237 :: z238 :: z239 :: z240 :: z241 :: z242 :: z243 :: z244 :: z245 :: z246 :: z247 :: z248 :: z249 :: z250 :: z251 :: z252 :: z253 :: z254 :: z255 :: z256 :: z257 :: z258 :: z259 :: z260 :: z261 :: z262 :: z263 :: z264 :: z265 :: z266 :: z267 :: z268 :: z269 :: z270 :: z271 :: z272 :: z273 :: z274 :: z275 :: z276 :: z277 :: z278 :: z279 :: z280 :: z281 :: z282 :: z283 :: z284 :: z285 :: z286 :: []), []⟩ w1 := by
  conv => arg 2; whnf
  obtain ⟨g1, hg1⟩ : ∃ g, g1B x = g := ⟨_, rfl⟩
  have HG1 := Lib.hid hg1
  clear hg1
  go_upto_region 21 with fail
  rename_i K23 hK23 Kc hKc
  go_cut [248] (fun v wz => v = .bool (!g1) ∧ w1 = wz)
  case first =>
    have m0 := (C.out.2 0 _ rfl).1
    have m10 := (C.out.2 10 _ rfl).1
    have m11 := (C.out.2 11 _ rfl).1
    have m12 := (C.out.2 12 _ rfl).1
    have f0 : ¬ (0 : Int) < (x.md.length : Int) := by omega
    have f1 : ¬ (0 : Int) < (x.yd.length : Int) := by omega
    have HI : Hid (decide (4 ≤ x.fq ∧ x.fq ≤ 6) = decide (4 ≤ x.fq ∧ x.fq ≤ 6)) := Lib.hid rfl
    by_cases e2 : 0 < x.wn.length
    · by_cases q7 : x.fq ≠ 7
      · have f2 : (0 : Int) < (x.wn.length : Int) := by omega
        have z2 : (x.fq == 7) = false := beq_eq_false_iff_ne.2 q7
        have z3 : (x.fq != 7) = true := by rw [bne, z2]; rfl
        obtain rfl : g1 = false := by rw [← HG1.out, g1B, decide_eq_false e0, decide_eq_false e1, decide_eq_true e2, decide_eq_true q7]; rfl
        go_wp2_with (go_at_call 12; first | (with_reducible refine (rin_to x.fq 4 6 _ _ HI.out).mono ?_; rintro e wq ⟨rfl, rfl⟩))
        go_meet
        exact ⟨rfl, rfl⟩
      · have f2 : (0 : Int) < (x.wn.length : Int) := by omega
        have z2 : (x.fq == 7) = true := beq_iff_eq.2 (Classical.byContradiction q7)
        have z3 : (x.fq != 7) = false := by rw [bne, z2]; rfl
        obtain rfl : g1 = true := by rw [← HG1.out, g1B, decide_eq_false e0, decide_eq_false e1, decide_eq_true e2, decide_eq_false q7]; rfl
        go_wp2_with (go_at_call 12; first | (with_reducible refine (rin_to x.fq 4 6 _ _ HI.out).mono ?_; rintro e wq ⟨rfl, rfl⟩))
        go_meet
        exact ⟨rfl, rfl⟩
    · have f2 : ¬ (0 : Int) < (x.wn.length : Int) := by omega
      obtain rfl : g1 = true := by rw [← HG1.out, g1B, decide_eq_false e0, decide_eq_false e1, decide_eq_false e2]; rfl
      go_wp2_with (go_at_call 12; first | (with_reducible refine (rin_to x.fq 4 6 _ _ HI.out).mono ?_; rintro e wq ⟨rfl, rfl⟩))
      go_meet
      exact ⟨rfl, rfl⟩
  case rest =>
  obtain ⟨rfl, hw⟩ := hcut
  subst hw
  cases g1 with
  | false =>
    have hr : ckB x = false := by rw [HQ.out, HG1.out]; rfl
    rw [HR.out] at hr
    subst hr
    go_wp2
    go_ret
    exact ⟨rfl, B.out⟩
  | true =>
  have HR2 : Hid (g2B x = r) := Lib.hid (by rw [← HR.out, HQ.out, HG1.out]; rfl)
  go_step
  go_step
  go_step
  go_step
  exact hK23 _ _ (rr23 x a6 a7 a8 a9 a10 a11 a12 a13 a14 c6 c7 c8 c9 c10 c11 c12 c13 c14 r w _ C B HL HR2 _ _ _ _ _ _ _ _ _ _ _ _ _ _ _ _ _ _ _ _ _ _ _ _ _ _ _ _ _ _ _ _ _ _ _ _ _ _ _ _ _ _ _ _ _ _ _ _ _ _ _ _ _ _ _ _ _ _ _ _ _ _ _ _ _ _ _ _ _ _ _ _ _ _ _ _ _ _ _ _ _ _ _ _ _ _ _ _ _ _ _ _ _ _ _ _ _ _ _ _ _ _ _ _ _ _ _ _ _ _ _ _ _ _ _ _ _ _ _ _ _ _ _ _ _ _ _ _ _ _ _ _ _ _ _ _ _ _ _ _ _ _ _ _ _ _ _ _ _ _ _ _ _ _ _ _ _ _ _ _ _ _ _ _ _ _ _ _ _ _ _ _ _ _ _ _ _ _ _ _ _ _ _ _ _ _ _ _ _ _ _ _ _ _ _ _ _ _ _ _ _ _ _ _ _ _ _ _ _ _ _ _ _ _ _ _ _ _ _ _ _ _ _ _ _ _ _ _ _ _ _ _ _ _ _ _ _ _ _ _ _ _ _ _ _ _ _ _ _ _ _ _ _ _ _ _ _ _ _ _ _ _ _ _ _ _ _ _ _ _ _ _ _ _ _ _ _ _ _ _ _ _ _ _ _ _)
set_option maxHeartbeats 25600000 in
set_option maxRecDepth 100000 in
theorem rr21_02 (x : CV) (a6 a7 a8 a9 a10 a11 a12 a13 a14 : Option Addr) (c6 c7 c8 c9 c10 c11 c12 c13 c14 : Nat) (r : Bool) (w w1 : World) (C : Hid (Cs w.heap.size w1 [.int .i64 x.fq, .int .i64 x.iv, .int .i64 x.ct, .bool x.un, .int .i64 x.ua, .bool x.ut, .slice a6 x.sc.length c6, .slice a7 x.mi.length c7, .slice a8 x.hr.length c8, .slice a9 x.dy.length c9, .slice a10 x.md.length c10, .slice a11 x.yd.length c11, .slice a12 x.wn.length c12, .slice a13 x.mo.length c13, .slice a14 x.sp.length c14, .int .i64 x.wk])) (B : Hid (Below w.heap.size w w1)) (HL : Hid (l1B x = false)) (e0 : ¬ 0 < x.md.length) (e1 : 0 < x.yd.length) (q46 : ¬ (4 ≤ x.fq ∧ x.fq ≤ 6)) (HQ : Hid (ckB x = (g1B x && g2B x))) (HR : Hid (ckB x = r))
    (z0 z2 z3 z4 z5 z6 z7 z8 z9 z10 z11 z12 z13 z14 z15 z16 z17 z18 z19 z20 z21 z22 z23 z24 z25 z26 z27 z28 z29 z30 z31 z32 z33 z34 z35 z36 z37 z38 z39 z40 z41 z42 z43 z44 z45 z46 z47 z48 z49 z50 z51 z52 z53 z54 z55 z56 z57 z58 z59 z60 z61 z62 z63 z64 z65 z66 z67 z68 z69 z70 z71 z72 z73 z74 z75 z76 z77 z78 z79 z80 z81 z82 z83 z84 z85 z86 z87 z88 z89 z90 z91 z92 z93 z94 z95 z96 z97 z98 z99 z100 z101 z102 z103 z104 z105 z106 z107 z108 z109 z110 z111 z112 z113 z114 z115 z116 z117 z118 z119 z120 z121 z122 z123 z124 z125 z126 z127 z128 z129 z130 z131 z132 z133 z134 z135 z136 z137 z138 z139 z140 z141 z142 z143 z144 z145 z146 z147 z148 z149 z150 z151 z152 z153 z154 z155 z156 z157 z158 z159 z160 z161 z162 z163 z164 z165 z166 z167 z168 z169 z170 z171 z172 z173 z174 z175 z176 z177 z178 z179 z180 z181 z182 z183 z184 z185 z186 z187 z188 z189 z190 z191 z192 z193 z194 z195 z196 z197 z198 z199 z200 z201 z202 z203 z204 z205 z206 z207 z208 z209 z210 z211 z212 z213 z214 z215 z216 z217 z218 z219 z220 z221 z222 z223 z224 z225 z226 z227 z228 z229 z230 z231 z232 z233 z234 z235 z236 z237 z238 z239 z240 z241 z242 z243 z244 z245 z246 z247 z248 z249 z250 z251 z252 z253 z254 z255 z256 z257 z258 z259 z260 z261 z262 z263 z264 z265 z266 z267 z268 z269 z270 z271 z272 z273 z274 z275 z276 z277 z278 z279 z280 z281 z282 z283 z284 z285 z286 : Value) : Code.wp Tryz.prog code21 (bodyPost Tryz.prog Tryz.f5 (fun e w' => e = .returned (.bool r) ∧ Below w.heap.size w w')) ⟨List.toArray (z0 :: .pointer (some ⟨w.heap.size, 0, none⟩) :: z2 :: z3 :: z4 :: z5 :: z6 :: z7 :: z8 :: z9 :: z10 :: z11 :: z12 :: z13 :: z14 :: z15 :: z16 :: z17 :: z18 :: z19 :: z20 :: z21 :: z22 :: z23 :: z24 :: z25 :: z26 :: z27 :: z28 :: z29 :: z30 :: z31 :: z32 :: z33 :: z34 :: z35 :: z36 :: z37 :: z38 :: z39 :: z40 :: z41 :: z42 :: z43 :: z44 :: z45 :: z46 :: z47 :: z48 :: z49 :: z50 :: z51 :: z52 :: z53 :: z54 :: z55 :: z56 :: z57 :: z58 :: z59 :: z60 :: z61 :: z62 :: z63 :: z64 :: z65 :: z66 :: z67 :: z68 :: z69 :: z70 :: z71 :: z72 :: z73 :: z74 :: z75 :: z76 :: z77 :: z78 :: z79 :: z80 :: z81 :: z82 :: z83 :: z84 :: z85 :: z86 :: z87 :: z88 :: z89 :: z90 :: z91 :: z92 :: z93 :: z94 :: z95 :: z96 :: z97 :: z98 :: z99 :: z100 :: z101 :: z102 :: z103 :: z104 :: z105 :: z106 :: z107 :: z108 :: z109 :: z110 :: z111 :: z112 :: z113 :: z114 :: z115 :: z116 :: z117 :: z118 :: z119 :: z120 :: z121 :: z122 :: z123 :: z124 :: z125 :: z126 :: z127 :: z128 :: z129 :: z130 :: z131 :: z132 :: z133 :: z134 :: z135 :: z136 :: z137 :: z138 :: z139 :: z140 :: z141 :: z142 :: z143 :: z144 :: z145 :: z146 :: z147 :: z148 :: z149 :: z150 :: z151 :: z152 :: z153 :: z154 :: z155 :: z156 :: z157 :: z158 :: z159 :: z160 :: z161 :: z162 :: z163 :: z164 :: z165 :: z166 :: z167 :: z168 :: z169 :: z170 :: z171 :: z172 :: z173 :: z174 :: z175 :: z176 :: z177 :: z178 :: z179 :: z180 :: z181 :: z182 :: z183 :: z184 :: z185 :: z186 :: z187 :: z188 :: z189 :: z190 :: z191 :: z192 :: z193 :: z194 :: z195 :: z196 :: z197 :: z198 :: z199 :: z200 :: z201 :: z202 :: z203 :: z204 :: z205 :: z206 :: z207 :: z208 :: z209 :: z210 :: z211 :: z212 :: z213 :: z214 :: z215 :: z216 :: z217 :: z218 :: z219 :: z220 :: z221 :: z222 :: z223 :: z224 :: z225 :: z226 :: z227 :: z228 :: z229 :: z230 :: z231 :: z232 :: z233 :: z234 :: z235 :: z236 :: z237 :: z238 :: z239 :: z240 :: z241 :: z242 :: z243 :: z244 :: z245 :: z246 :: z247 :: z248 :: z249 :: z250 :: z251 :: z252 :: z253 :: z254 :: z255 :: z256 :: z257 :: z258 :: z259 :: z260 :: z261 :: z262 :: z263 :: z264 :: z265 :: z266 :: z267 :: z268 :: z269 :: z270 :: z271 :: z272 :: z273 :: z274 :: z275 :: z276 :: z277 :: z278 :: z279 :: z280 :: z281 :: z282 :: z283 :: z284 :: z285 :: z286 :: []), []⟩ w1 := by
  conv => arg 2; whnf
  obtain ⟨g1, hg1⟩ : ∃ g, g1B x = g := ⟨_, rfl⟩
  have HG1 := Lib.hid hg1
  clear hg1
  go_upto_region 21 with fail
  rename_i K23 hK23 Kc hKc
  go_cut [248] (fun v wz => v = .bool (!g1) ∧ w1 = wz)
  case first =>
    have m0 := (C.out.2 0 _ rfl).1
    have m10 := (C.out.2 10 _ rfl).1
    have m11 := (C.out.2 11 _ rfl).1
    have m12 := (C.out.2 12 _ rfl).1
    have f0 : ¬ (0 : Int) < (x.md.length : Int) := by omega
    have f1 : (0 : Int) < (x.yd.length : Int) := by omega
    have HI : Hid (decide (4 ≤ x.fq ∧ x.fq ≤ 6) = false) := Lib.hid (decide_eq_false q46)
    by_cases e2 : 0 < x.wn.length
    · by_cases q7 : x.fq ≠ 7
      · have f2 : (0 : Int) < (x.wn.length : Int) := by omega
        have z2 : (x.fq == 7) = false := beq_eq_false_iff_ne.2 q7
        have z3 : (x.fq != 7) = true := by rw [bne, z2]; rfl
        obtain rfl : g1 = false := by rw [← HG1.out, g1B, decide_eq_false e0, decide_eq_true e1, decide_eq_false q46, decide_eq_true e2, decide_eq_true q7]; rfl
        go_wp2_with (go_at_call 12; first | (with_reducible refine (rin_to x.fq 4 6 _ _ HI.out).mono ?_; rintro e wq ⟨rfl, rfl⟩))
        go_meet
        exact ⟨rfl, rfl⟩
      · have f2 : (0 : Int) < (x.wn.length : Int) := by omega
        have z2 : (x.fq == 7) = true := beq_iff_eq.2 (Classical.byContradiction q7)
        have z3 : (x.fq != 7) = false := by rw [bne, z2]; rfl
        obtain rfl : g1 = true := by rw [← HG1.out, g1B, decide_eq_false e0, decide_eq_true e1, decide_eq_false q46, decide_eq_true e2, decide_eq_false q7]; rfl
        go_wp2_with (go_at_call 12; first | (with_reducible refine (rin_to x.fq 4 6 _ _ HI.out).mono ?_; rintro e wq ⟨rfl, rfl⟩))
        go_meet
        exact ⟨rfl, rfl⟩
    · have f2 : ¬ (0 : Int) < (x.wn.length : Int) := by omega
      obtain rfl : g1 = true := by rw [← HG1.out, g1B, decide_eq_false e0, decide_eq_true e1, decide_eq_false q46, decide_eq_false e2]; rfl
      go_wp2_with (go_at_call 12; first | (with_reducible refine (rin_to x.fq 4 6 _ _ HI.out).mono ?_; rintro e wq ⟨rfl, rfl⟩))
      go_meet
      exact ⟨rfl, rfl⟩
  case rest =>
  obtain ⟨rfl, hw⟩ := hcut
  subst hw
  cases g1 with
  | false =>
    have hr : ckB x = false := by rw [HQ.out, HG1.out]; rfl
    rw [HR.out] at hr
    subst hr
    go_wp2
    go_ret
    exact ⟨rfl, B.out⟩
  | true =>
  have HR2 : Hid (g2B x = r) := Lib.hid (by rw [← HR.out, HQ.out, HG1.out]; rfl)
  go_step
  go_step
  go_step
  go_step
  exact hK23 _ _ (rr23 x a6 a7 a8 a9 a10 a11 a12 a13 a14 c6 c7 c8 c9 c10 c11 c12 c13 c14 r w _ C B HL HR2 _ _ _ _ _ _ _ _ _ _ _ _ _ _ _ _ _ _ _ _ _ _ _ _ _ _ _ _ _ _ _ _ _ _ _ _ _ _ _ _ _ _ _ _ _ _ _ _ _ _ _ _ _ _ _ _ _ _ _ _ _ _ _ _ _ _ _ _ _ _ _ _ _ _ _ _ _ _ _ _ _ _ _ _ _ _ _ _ _ _ _ _ _ _ _ _ _ _ _ _ _ _ _ _ _ _ _ _ _ _ _ _ _ _ _ _ _ _ _ _ _ _ _ _ _ _ _ _ _ _ _ _ _ _ _ _ _ _ _ _ _ _ _ _ _ _ _ _ _ _ _ _ _ _ _ _ _ _ _ _ _ _ _ _ _ _ _ _ _ _ _ _ _ _ _ _ _ _ _ _ _ _ _ _ _ _ _ _ _ _ _ _ _ _ _ _ _ _ _ _ _ _ _ _ _ _ _ _ _ _ _ _ _ _ _ _ _ _ _ _ _ _ _ _ _ _ _ _ _ _ _ _ _ _ _ _ _ _ _ _ _ _ _ _ _ _ _ _ _ _ _ _ _ _ _ _ _ _ _ _ _ _ _ _ _ _ _ _ _ _ _ _ _ _ _ _ _ _ _ _ _ _ _ _ _ _)
set_option maxHeartbeats 25600000 in
set_option maxRecDepth 100000 in
theorem rr21_20 (x : CV) (a6 a7 a8 a9 a10 a11 a12 a13 a14 : Option Addr) (c6 c7 c8 c9 c10 c11 c12 c13 c14 : Nat) (r : Bool) (w w1 : World) (C : Hid (Cs w.heap.size w1 [.int .i64 x.fq, .int .i64 x.iv, .int .i64 x.ct, .bool x.un, .int .i64 x.ua, .bool x.ut, .slice a6 x.sc.length c6, .slice a7 x.mi.length c7, .slice a8 x.hr.length c8, .slice a9 x.dy.length c9, .slice a10 x.md.length c10, .slice a11 x.yd.length c11, .slice a12 x.wn.length c12, .slice a13 x.mo.length c13, .slice a14 x.sp.length c14, .int .i64 x.wk])) (B : Hid (Below w.heap.size w w1)) (HL : Hid (l1B x = false)) (e0 : 0 < x.md.length) (q5 : ¬ (x.fq = 5)) (e1 : ¬ 0 < x.yd.length) (HQ : Hid (ckB x = (g1B x && g2B x))) (HR : Hid (ckB x = r))
    (z0 z2 z3 z4 z5 z6 z7 z8 z9 z10 z11 z12 z13 z14 z15 z16 z17 z18 z19 z20 z21 z22 z23 z24 z25 z26 z27 z28 z29 z30 z31 z32 z33 z34 z35 z36 z37 z38 z39 z40 z41 z42 z43 z44 z45 z46 z47 z48 z49 z50 z51 z52 z53 z54 z55 z56 z57 z58 z59 z60 z61 z62 z63 z64 z65 z66 z67 z68 z69 z70 z71 z72 z73 z74 z75 z76 z77 z78 z79 z80 z81 z82 z83 z84 z85 z86 z87 z88 z89 z90 z91 z92 z93 z94 z95 z96 z97 z98 z99 z100 z101 z102 z103 z104 z105 z106 z107 z108 z109 z110 z111 z112 z113 z114 z115 z116 z117 z118 z119 z120 z121 z122 z123 z124 z125 z126 z127 z128 z129 z130 z131 z132 z133 z134 z135 z136 z137 z138 z139 z140 z141 z142 z143 z144 z145 z146 z147 z148 z149 z150 z151 z152 z153 z154 z155 z156 z157 z158 z159 z160 z161 z162 z163 z164 z165 z166 z167 z168 z169 z170 z171 z172 z173 z174 z175 z176 z177 z178 z179 z180 z181 z182 z183 z184 z185 z186 z187 z188 z189 z190 z191 z192 z193 z194 z195 z196 z197 z198 z199 z200 z201 z202 z203 z204 z205 z206 z207 z208 z209 z210 z211 z212 z213 z214 z215 z216 z217 z218 z219 z220 z221 z222 z223 z224 z225 z226 z227 z228 z229 z230 z231 z232 z233 z234 z235 z236 z237 z238 z239 z240 z241 z242 z243 z244 z245 z246 z247 z248 z249 z250 z251 z252 z253 z254 z255 z256 z257 z258 z259 z260 z261 z262 z263 z264 z265 z266 z267 z268 z269 z270 z271 z272 z273 z274 z275 z276 z277 z278 z279 z280 z281 z282 z283 z284 z285 z286 : Value) : Code.wp Tryz.prog code21 (bodyPost Tryz.prog Tryz.f5 (fun e w' => e = .returned (.bool r) ∧ Below w.heap.size w w')) ⟨List.toArray (z0 :: .pointer (some ⟨w.heap.size, 0, none⟩) :: z2 :: z3 :: z4 :: z5 :: z6 :: z7 :: z8 :: z9 :: z10 :: z11 :: z12 :: z13 :: z14 :: z15 :: z16 :: z17 :: z18 :: z19 :: z20 :: z21 :: z22 :: z23 :: z24 :: z25 :: z26 :: z27 :: z28 :: z29 :: z30 :: z31 :: z32 :: z33 :: z34 :: z35 :: z36 :: z37 :: z38 :: z39 :: z40 :: z41 :: z42 :: z43 :: z44 :: z45 :: z46 :: z47 :: z48 :: z49 :: z50 :: z51 :: z52 :: z53 :: z54 :: z55 :: z56 :: z57 :: z58 :: z59 :: z60 :: z61 :: z62 :: z63 :: z64 :: z65 :: z66 :: z67 :: z68 :: z69 :: z70 :: z71 :: z72 :: z73 :: z74 :: z75 :: z76 :: z77 :: z78 :: z79 :: z80 :: z81 :: z82 :: z83 :: z84 :: z85 :: z86 :: z87 :: z88 :: z89 :: z90 :: z91 :: z92 :: z93 :: z94 :: z95 :: z96 :: z97 :: z98 :: z99 :: z100 :: z101 :: z102 :: z103 :: z104 :: z105 :: z106 :: z107 :: z108 :: z109 :: z110 :: z111 :: z112 :: z113 :: z114 :: z115 :: z116 :: z117 :: z118 :: z119 :: z120 :: z121 :: z122 :: z123 :: z124 :: z125 :: z126 :: z127 :: z128 :: z129 :: z130 :: z131 :: z132 :: z133 :: z134 :: z135 :: z136 :: z137 :: z138 :: z139 :: z140 :: z141 :: z142 :: z143 :: z144 :: z145 :: z146 :: z147 :: z148 :: z149 :: z150 :: z151 :: z152 :: z153 :: z154 :: z155 :: z156 :: z157 :: z158 :: z159 :: z160 :: z161 :: z162 :: z163 :: z164 :: z165 :: z166 :: z167 :: z168 :: z169 :: z170 :: z171 :: z172 :: z173 :: z174 :: z175 :: z176 :: z177 :: z178 :: z179 :: z180 :: z181 :: z182 :: z183 :: z184 :: z185 :: z186 :: z187 :: z188 :: z189 :: z190 :: z191 :: z192 :: z193 :: z194 :: z195 :: z196 :: z197 :: z198 :: z199 :: z200 :: z201 :: z202 :: z203 :: z204 :: z205 :: z206 :: z207 :: z208 :: z209 :: z210 :: z211 :: z212 :: z213 :: z214 :: z215 :: z216 :: z217 :: z218 :: z219 :: z220 :: z221 :: z222 :: z223 :: z224 :: z225 :: z226 :: z227 :: z228 :: z229 :: z230 :: z231 :: z232 :: z233 :: z234 :: z235 :: z236 :: z237 :: z238 :: z239 :: z240 :: z241 :: z242 :: z243 :: z244 :: z245 :: z246 :: z247 :: z248 :: z249 :: z250 :: z251 :: z252 :: z253 :: z254 :: z255 :: z256 :: z257 :: z258 :: z259 :: z260 :: z261 :: z262 :: z263 :: z264 :: z265 :: z266 :: z267 :: z268 :: z269 :: z270 :: z271 :: z272 :: z273 :: z274 :: z275 :: z276 :: z277 :: z278 :: z279 :: z280 :: z281 :: z282 :: z283 :: z284 :: z285 :: z286 :: []), []⟩ w1 := by
  conv => arg 2; whnf
  obtain ⟨g1, hg1⟩ : ∃ g, g1B x = g := ⟨_, rfl⟩
  have HG1 := Lib.hid hg1
  clear hg1
  go_upto_region 21 with fail
  rename_i K23 hK23 Kc hKc
  go_cut [248] (fun v wz => v = .bool (!g1) ∧ w1 = wz)
  case first =>
    have m0 := (C.out.2 0 _ rfl).1
    have m10 := (C.out.2 10 _ rfl).1
    have m11 := (C.out.2 11 _ rfl).1
    have m12 := (C.out.2 12 _ rfl).1
    have f0 : (0 : Int) < (x.md.length : Int) := by omega
    have z0 : (x.fq == 5) = false := beq_eq_false_iff_ne.2 q5
    have f1 : ¬ (0 : Int) < (x.yd.length : Int) := by omega
    have HI : Hid (decide (4 ≤ x.fq ∧ x.fq ≤ 6) = decide (4 ≤ x.fq ∧ x.fq ≤ 6)) := Lib.hid rfl
    by_cases e2 : 0 < x.wn.length
    · by_cases q7 : x.fq ≠ 7
      · have f2 : (0 : Int) < (x.wn.length : Int) := by omega
        have z2 : (x.fq == 7) = false := beq_eq_false_iff_ne.2 q7
        have z3 : (x.fq != 7) = true := by rw [bne, z2]; rfl
        obtain rfl : g1 = false := by rw [← HG1.out, g1B, decide_eq_true e0, decide_eq_false q5, decide_eq_false e1, decide_eq_true e2, decide_eq_true q7]; rfl
        go_wp2_with (go_at_call 12; first | (with_reducible refine (rin_to x.fq 4 6 _ _ HI.out).mono ?_; rintro e wq ⟨rfl, rfl⟩))
        go_meet
        exact ⟨rfl, rfl⟩
      · have f2 : (0 : Int) < (x.wn.length : Int) := by omega
        have z2 : (x.fq == 7) = true := beq_iff_eq.2 (Classical.byContradiction q7)
        have z3 : (x.fq != 7) = false := by rw [bne, z2]; rfl
        obtain rfl : g1 = true := by rw [← HG1.out, g1B, decide_eq_true e0, decide_eq_false q5, decide_eq_false e1, decide_eq_true e2, decide_eq_false q7]; rfl
        go_wp2_with (go_at_call 12; first | (with_reducible refine (rin_to x.fq 4 6 _ _ HI.out).mono ?_; rintro e wq ⟨rfl, rfl⟩))
        go_meet
        exact ⟨rfl, rfl⟩
    · have f2 : ¬ (0 : Int) < (x.wn.length : Int) := by omega
      obtain rfl : g1 = true := by rw [← HG1.out, g1B, decide_eq_true e0, decide_eq_false q5, decide_eq_false e1, decide_eq_false e2]; rfl
      go_wp2_with (go_at_call 12; first | (with_reducible refine (rin_to x.fq 4 6 _ _ HI.out).mono ?_; rintro e wq ⟨rfl, rfl⟩))
      go_meet
      exact ⟨rfl, rfl⟩
  case rest =>
  obtain ⟨rfl, hw⟩ := hcut
  subst hw
  cases g1 with
  | false =>
    have hr : ckB x = false := by rw [HQ.out, HG1.out]; rfl
    rw [HR.out] at hr
    subst hr
    go_wp2
    go_ret
    exact ⟨rfl, B.out⟩
  | true =>
  have HR2 : Hid (g2B x = r) := Lib.hid (by rw [← HR.out, HQ.out, HG1.out]; rfl)
  go_step
  go_step
  go_step
  go_step
  exact hK23 _ _ (rr23 x a6 a7 a8 a9 a10 a11 a12 a13 a14 c6 c7 c8 c9 c10 c11 c12 c13 c14 r w _ C B HL HR2 _ _ _ _ _ _ _ _ _ _ _ _ _ _ _ _ _ _ _ _ _ _ _ _ _ _ _ _ _ _ _ _ _ _ _ _ _ _ _ _ _ _ _ _ _ _ _ _ _ _ _ _ _ _ _ _ _ _ _ _ _ _ _ _ _ _ _ _ _ _ _ _ _ _ _ _ _ _ _ _ _ _ _ _ _ _ _ _ _ _ _ _ _ _ _ _ _ _ _ _ _ _ _ _ _ _ _ _ _ _ _ _ _ _ _ _ _ _ _ _ _ _ _ _ _ _ _ _ _ _ _ _ _ _ _ _ _ _ _ _ _ _ _ _ _ _ _ _ _ _ _ _ _ _ _ _ _ _ _ _ _ _ _ _ _ _ _ _ _ _ _ _ _ _ _ _ _ _ _ _ _ _ _ _ _ _ _ _ _ _ _ _ _ _ _ _ _ _ _ _ _ _ _ _ _ _ _ _ _ _ _ _ _ _ _ _ _ _ _ _ _ _ _ _ _ _ _ _ _ _ _ _ _ _ _ _ _ _ _ _ _ _ _ _ _ _ _ _ _ _ _ _ _ _ _ _ _ _ _ _ _ _ _ _ _ _ _ _ _ _ _ _ _ _ _ _ _ _ _ _ _ _ _ _ _ _)
set_option maxHeartbeats 25600000 in
set_option maxRecDepth 100000 in
theorem rr21_22 (x : CV) (a6 a7 a8 a9 a10 a11 a12 a13 a14 : Option Addr) (c6 c7 c8 c9 c10 c11 c12 c13 c14 : Nat) (r : Bool) (w w1 : World) (C : Hid (Cs w.heap.size w1 [.int .i64 x.fq, .int .i64 x.iv, .int .i64 x.ct, .bool x.un, .int .i64 x.ua, .bool x.ut, .slice a6 x.sc.length c6, .slice a7 x.mi.length c7, .slice a8 x.hr.length c8, .slice a9 x.dy.length c9, .slice a10 x.md.length c10, .slice a11 x.yd.length c11, .slice a12 x.wn.length c12, .slice a13 x.mo.length c13, .slice a14 x.sp.length c14, .int .i64 x.wk])) (B : Hid (Below w.heap.size w w1)) (HL : Hid (l1B x = false)) (e0 : 0 < x.md.length) (q5 : ¬ (x.fq = 5)) (e1 : 0 < x.yd.length) (q46 : ¬ (4 ≤ x.fq ∧ x.fq ≤ 6)) (HQ : Hid (ckB x = (g1B x && g2B x))) (HR : Hid (ckB x = r))
    (z0 z2 z3 z4 z5 z6 z7 z8 z9 z10 z11 z12 z13 z14 z15 z16 z17 z18 z19 z20 z21 z22 z23 z24 z25 z26 z27 z28 z29 z30 z31 z32 z33 z34 z35 z36 z37 z38 z39 z40 z41 z42 z43 z44 z45 z46 z47 z48 z49 z50 z51 z52 z53 z54 z55 z56 z57 z58 z59 z60 z61 z62 z63 z64 z65 z66 z67 z68 z69 z70 z71 z72 z73 z74 z75 z76 z77 z78 z79 z80 z81 z82 z83 z84 z85 z86 z87 z88 z89 z90 z91 z92 z93 z94 z95 z96 z97 z98 z99 z100 z101 z102 z103 z104 z105 z106 z107 z108 z109 z110 z111 z112 z113 z114 z115 z116 z117 z118 z119 z120 z121 z122 z123 z124 z125 z126 z127 z128 z129 z130 z131 z132 z133 z134 z135 z136 z137 z138 z139 z140 z141 z142 z143 z144 z145 z146 z147 z148 z149 z150 z151 z152 z153 z154 z155 z156 z157 z158 z159 z160 z161 z162 z163 z164 z165 z166 z167 z168 z169 z170 z171 z172 z173 z174 z175 z176 z177 z178 z179 z180 z181 z182 z183 z184 z185 z186 z187 z188 z189 z190 z191 z192 z193 z194 z195 z196 z197 z198 z199 z200 z201 z202 z203 z204 z205 z206 z207 z208 z209 z210 z211 z212 z213 z214 z215 z216 z217 z218 z219 z220 z221 z222 z223 z224 z225 z226 z227 z228 z229 z230 z231 z232 z233 z234 z235 z236 z237 z238 z239 z240 z241 z242 z243 z244 z245 z246 z247 z248 z249 z250 z251 z252 z253 z254 z255 z256 z257 z258 z259 z260 z261 z262 z263 z264 z265 z266 z267 z268 z269 z270 z271 z272 z273 z274 z275 z276 z277 z278 z279 z280 z281 z282 z283 z284 z285 z286 : Value) : Code.wp Tryz.prog code21 (bodyPost Tryz.prog Tryz.f5 (fun e w' => e = .returned (.bool r) ∧ Below w.heap.size w w')) ⟨List.toArray (z0 :: .pointer (some ⟨w.heap.size, 0, none⟩) :: z2 :: z3 :: z4 :: z5 :: z6 :: z7 :: z8 :: z9 :: z10 :: z11 :: z12 :: z13 :: z14 :: z15 :: z16 :: z17 :: z18 :: z19 :: z20 :: z21 :: z22 :: z23 :: z24 :: z25 :: z26 :: z27 :: z28 :: z29 :: z30 :: z31 :: z32 :: z33 :: z34 :: z35 :: z36 :: z37 :: z38 :: z39 :: z40 :: z41 :: z42 :: z43 :: z44 :: z45 :: z46 :: z47 :: z48 :: z49 :: z50 :: z51 :: z52 :: z53 :: z54 :: z55 :: z56 :: z57 :: z58 :: z59 :: z60 :: z61 :: z62 :: z63 :: z64 :: z65 :: z66 :: z67 :: z68 :: z69 :: z70 :: z71 :: z72 :: z73 :: z74 :: z75 :: z76 :: z77 :: z78 :: z79 :: z80 :: z81 :: z82 :: z83 :: z84 :: z85 :: z86 :: z87 :: z88 :: z89 :: z90 :: z91 :: z92 :: z93 :: z94 :: z95 :: z96 :: z97 :: z98 :: z99 :: z100 :: z101 :: z102 :: z103 :: z104 :: z105 :: z106 :: z107 :: z108 :: z109 :: z110 :: z111 :: z112 :: z113 :: z114 :: z115 :: z116 :: z117 :: z118 :: z119 :: z120 :: z121 :: z122 :: z123 :: z124 :: z125 :: z126 :: z127 :: z128 :: z129 :: z130 :: z131 :: z132 :: z133 :: z134 :: z135 :: z136 :: z137 :: z138 :: z139 :: z140 :: z141 :: z142 :: z143 :: z144 :: z145 :: z146 :: z147 :: z148 :: z149 :: z150 :: z151 :: z152 :: z153 :: z154 :: z155 :: z156 :: z157 :: z158 :: z159 :: z160 :: z161 :: z162 :: z163 :: z164 :: z165 :: z166 :: z167 :: z168 :: z169 :: z170 :: z171 :: z172 :: z173 :: z174 :: z175 :: z176 :: z177 :: z178 :: z179 :: z180 :: z181 :: z182 :: z183 :: z184 :: z185 :: z186 :: z187 :: z188 :: z189 :: z190 :: z191 :: z192 :: z193 :: z194 :: z195 :: z196 :: z197 :: z198 :: z199 :: z200 :: z201 :: z202 :: z203 :: z204 :: z205 :: z206 :: z207 :: z208 :: z209 :: z210 :: z211 :: z212 :: z213 :: z214 :: z215 :: z216 :: z217 :: z218 :: z219 :: z220 :: z221 :: z222 :: z223 :: z224 :: z225 :: z226 :: z227 :: z228 :: z229 :: z230 :: z231 :: z232 :: z233 :: z234 :: z235 :: z236 :: z237 :: z238 :: z239 :: z240 :: z241 :: z242 :: z243 :: z244 :: z245 :: z246 :: z247 :: z248 :: z249 :: z250 :: z251 :: z252 :: z253 :: z254 :: z255 :: z256 :: z257 :: z258 :: z259 :: z260 :: z261 :: z262 :: z263 :: z264 :: z265 :: z266 :: z267 :: z268 :: z269 :: z270 :: z271 :: z272 :: z273 :: z274 :: z275 :: z276 :: z277 :: z278 :: z279 :: z280 :: z281 :: z282 :: z283 :: z284 :: z285 :: z286 :: []), []⟩ w1 := by
  conv => arg 2; whnf
  obtain ⟨g1, hg1⟩ : ∃ g, g1B x = g := ⟨_, rfl⟩
  have HG1 := Lib.hid hg1
  clear hg1
  go_upto_region 21 with fail
  rename_i K23 hK23 Kc hKc
  go_cut [248] (fun v wz => v = .bool (!g1) ∧ w1 = wz)
  case first =>
    have m0 := (C.out.2 0 _ rfl).1
    have m10 := (C.out.2 10 _ rfl).1
    have m11 := (C.out.2 11 _ rfl).1
    have m12 := (C.out.2 12 _ rfl).1
    have f0 : (0 : Int) < (x.md.length : Int) := by omega
    have z0 : (x.fq == 5) = false := beq_eq_false_iff_ne.2 q5
    have f1 : (0 : Int) < (x.yd.length : Int) := by omega
    have HI : Hid (decide (4 ≤ x.fq ∧ x.fq ≤ 6) = false) := Lib.hid (decide_eq_false q46)
    by_cases e2 : 0 < x.wn.length
    · by_cases q7 : x.fq ≠ 7
      · have f2 : (0 : Int) < (x.wn.length : Int) := by omega
        have z2 : (x.fq == 7) = false := beq_eq_false_iff_ne.2 q7
        have z3 : (x.fq != 7) = true := by rw [bne, z2]; rfl
        obtain rfl : g1 = false := by rw [← HG1.out, g1B, decide_eq_true e0, decide_eq_false q5, decide_eq_true e1, decide_eq_false q46, decide_eq_true e2, decide_eq_true q7]; rfl
        go_wp2_with (go_at_call 12; first | (with_reducible refine (rin_to x.fq 4 6 _ _ HI.out).mono ?_; rintro e wq ⟨rfl, rfl⟩))
        go_meet
        exact ⟨rfl, rfl⟩
      · have f2 : (0 : Int) < (x.wn.length : Int) := by omega
        have z2 : (x.fq == 7) = true := beq_iff_eq.2 (Classical.byContradiction q7)
        have z3 : (x.fq != 7) = false := by rw [bne, z2]; rfl
        obtain rfl : g1 = true := by rw [← HG1.out, g1B, decide_eq_true e0, decide_eq_false q5, decide_eq_true e1, decide_eq_false q46, decide_eq_true e2, decide_eq_false q7]; rfl
        go_wp2_with (go_at_call 12; first | (with_reducible refine (rin_to x.fq 4 6 _ _ HI.out).mono ?_; rintro e wq ⟨rfl, rfl⟩))
        go_meet
        exact ⟨rfl, rfl⟩
    · have f2 : ¬ (0 : Int) < (x.wn.length : Int) := by omega
      obtain rfl : g1 = true := by rw [← HG1.out, g1B, decide_eq_true e0, decide_eq_false q5, decide_eq_true e1, decide_eq_false q46, decide_eq_false e2]; rfl
      go_wp2_with (go_at_call 12; first | (with_reducible refine (rin_to x.fq 4 6 _ _ HI.out).mono ?_; rintro e wq ⟨rfl, rfl⟩))
      go_meet
      exact ⟨rfl, rfl⟩
  case rest =>
  obtain ⟨rfl, hw⟩ := hcut
  subst hw
  cases g1 with
  | false =>
    have hr : ckB x = false := by rw [HQ.out, HG1.out]; rfl
    rw [HR.out] at hr
    subst hr
    go_wp2
    go_ret
    exact ⟨rfl, B.out⟩
  | true =>
  have HR2 : Hid (g2B x = r) := Lib.hid (by rw [← HR.out, HQ.out, HG1.out]; rfl)
  go_step
  go_step
  go_step
  go_step
  exact hK23 _ _ (rr23 x a6 a7 a8 a9 a10 a11 a12 a13 a14 c6 c7 c8 c9 c10 c11 c12 c13 c14 r w _ C B HL HR2 _ _ _ _ _ _ _ _ _ _ _ _ _ _ _ _ _ _ _ _ _ _ _ _ _ _ _ _ _ _ _ _ _ _ _ _ _ _ _ _ _ _ _ _ _ _ _ _ _ _ _ _ _ _ _ _ _ _ _ _ _ _ _ _ _ _ _ _ _ _ _ _ _ _ _ _ _ _ _ _ _ _ _ _ _ _ _ _ _ _ _ _ _ _ _ _ _ _ _ _ _ _ _ _ _ _ _ _ _ _ _ _ _ _ _ _ _ _ _ _ _ _ _ _ _ _ _ _ _ _ _ _ _ _ _ _ _ _ _ _ _ _ _ _ _ _ _ _ _ _ _ _ _ _ _ _ _ _ _ _ _ _ _ _ _ _ _ _ _ _ _ _ _ _ _ _ _ _ _ _ _ _ _ _ _ _ _ _ _ _ _ _ _ _ _ _ _ _ _ _ _ _ _ _ _ _ _ _ _ _ _ _ _ _ _ _ _ _ _ _ _ _ _ _ _ _ _ _ _ _ _ _ _ _ _ _ _ _ _ _ _ _ _ _ _ _ _ _ _ _ _ _ _ _ _ _ _ _ _ _ _ _ _ _ _ _ _ _ _ _ _ _ _ _ _ _ _ _ _ _ _ _ _ _ _ _)
set_option maxHeartbeats 25600000 in
set_option maxRecDepth 100000 in
theorem rr21 (x : CV) (a6 a7 a8 a9 a10 a11 a12 a13 a14 : Option Addr) (c6 c7 c8 c9 c10 c11 c12 c13 c14 : Nat) (r : Bool) (w w1 : World) (C : Hid (Cs w.heap.size w1 [.int .i64 x.fq, .int .i64 x.iv, .int .i64 x.ct, .bool x.un, .int .i64 x.ua, .bool x.ut, .slice a6 x.sc.length c6, .slice a7 x.mi.length c7, .slice a8 x.hr.length c8, .slice a9 x.dy.length c9, .slice a10 x.md.length c10, .slice a11 x.yd.length c11, .slice a12 x.wn.length c12, .slice a13 x.mo.length c13, .slice a14 x.sp.length c14, .int .i64 x.wk])) (B : Hid (Below w.heap.size w w1)) (HL : Hid (l1B x = false)) (HQ : Hid (ckB x = (g1B x && g2B x))) (HR : Hid (ckB x = r))
    (z0 z2 z3 z4 z5 z6 z7 z8 z9 z10 z11 z12 z13 z14 z15 z16 z17 z18 z19 z20 z21 z22 z23 z24 z25 z26 z27 z28 z29 z30 z31 z32 z33 z34 z35 z36 z37 z38 z39 z40 z41 z42 z43 z44 z45 z46 z47 z48 z49 z50 z51 z52 z53 z54 z55 z56 z57 z58 z59 z60 z61 z62 z63 z64 z65 z66 z67 z68 z69 z70 z71 z72 z73 z74 z75 z76 z77 z78 z79 z80 z81 z82 z83 z84 z85 z86 z87 z88 z89 z90 z91 z92 z93 z94 z95 z96 z97 z98 z99 z100 z101 z102 z103 z104 z105 z106 z107 z108 z109 z110 z111 z112 z113 z114 z115 z116 z117 z118 z119 z120 z121 z122 z123 z124 z125 z126 z127 z128 z129 z130 z131 z132 z133 z134 z135 z136 z137 z138 z139 z140 z141 z142 z143 z144 z145 z146 z147 z148 z149 z150 z151 z152 z153 z154 z155 z156 z157 z158 z159 z160 z161 z162 z163 z164 z165 z166 z167 z168 z169 z170 z171 z172 z173 z174 z175 z176 z177 z178 z179 z180 z181 z182 z183 z184 z185 z186 z187 z188 z189 z190 z191 z192 z193 z194 z195 z196 z197 z198 z199 z200 z201 z202 z203 z204 z205 z206 z207 z208 z209 z210 z211 z212 z213 z214 z215 z216 z217 z218 z219 z220 z221 z222 z223 z224 z225 z226 z227 z228 z229 z230 z231 z232 z233 z234 z235 z236 z237 z238 z239 z240 z241 z242 z243 z244 z245 z246 z247 z248 z249 z250 z251 z252 z253 z254 z255 z256 z257 z258 z259 z260 z261 z262 z263 z264 z265 z266 z267 z268 z269 z270 z271 z272 z273 z274 z275 z276 z277 z278 z279 z280 z281 z282 z283 z284 z285 z286 : Value) : Code.wp Tryz.prog code21 (bodyPost Tryz.prog Tryz.f5 (fun e w' => e = .returned (.bool r) ∧ Below w.heap.size w w')) ⟨List.toArray (z0 :: .pointer (some ⟨w.heap.size, 0, none⟩) :: z2 :: z3 :: z4 :: z5 :: z6 :: z7 :: z8 :: z9 :: z10 :: z11 :: z12 :: z13 :: z14 :: z15 :: z16 :: z17 :: z18 :: z19 :: z20 :: z21 :: z22 :: z23 :: z24 :: z25 :: z26 :: z27 :: z28 :: z29 :: z30 :: z31 :: z32 :: z33 :: z34 :: z35 :: z36 :: z37 :: z38 :: z39 :: z40 :: z41 :: z42 :: z43 :: z44 :: z45 :: z46 :: z47 :: z48 :: z49 :: z50 :: z51 :: z52 :: z53 :: z54 :: z55 :: z56 :: z57 :: z58 :: z59 :: z60 :: z61 :: z62 :: z63 :: z64 :: z65 :: z66 :: z67 :: z68 :: z69 :: z70 :: z71 :: z72 :: z73 :: z74 :: z75 :: z76 :: z77 :: z78 :: z79 :: z80 :: z81 :: z82 :: z83 :: z84 :: z85 :: z86 :: z87 :: z88 :: z89 :: z90 :: z91 :: z92 :: z93 :: z94 :: z95 :: z96 :: z97 :: z98 :: z99 :: z100 :: z101 :: z102 :: z103 :: z104 :: z105 :: z106 :: z107 :: z108 :: z109 :: z110 :: z111 :: z112 :: z113 :: z114 :: z115 :: z116 :: z117 :: z118 :: z119 :: z120 :: z121 :: z122 :: z123 :: z124 :: z125 :: z126 :: z127 :: z128 :: z129 :: z130 :: z131 :: z132 :: z133 :: z134 :: z135 :: z136 :: z137 :: z138 :: z139 :: z140 :: z141 :: z142 :: z143 :: z144 :: z145 :: z146 :: z147 :: z148 :: z149 :: z150 :: z151 :: z152 :: z153 :: z154 :: z155 :: z156 :: z157 :: z158 :: z159 :: z160 :: z161 :: z162 :: z163 :: z164 :: z165 :: z166 :: z167 :: z168 :: z169 :: z170 :: z171 :: z172 :: z173 :: z174 :: z175 :: z176 :: z177 :: z178 :: z179 :: z180 :: z181 :: z182 :: z183 :: z184 :: z185 :: z186 :: z187 :: z188 :: z189 :: z190 :: z191 :: z192 :: z193 :: z194 :: z195 :: z196 :: z197 :: z198 :: z199 :: z200 :: z201 :: z202 :: z203 :: z204 :: z205 :: z206 :: z207 :: z208 :: z209 :: z210 :: z211 :: z212 :: z213 :: z214 :: z215 :: z216 :: z217 :: z218 :: z219 :: z220 :: z221 :: z222 :: z223 :: z224 :: z225 :: z226 :: z227 :: z228 :: z229 :: z230 :: z231 :: z232 :: z233 :: z234 :: z235 :: z236 :: z237 :: z238 :: z239 :: z240 :: z241 :: z242 :: z243 :: z244 :: z245 :: z246 :: z247 :: z248 :: z249 :: z250 :: z251 :: z252 :: z253 :: z254 :: z255 :: z256 :: z257 :: z258 :: z259 :: z260 :: z261 :: z262 :: z263 :: z264 :: z265 :: z266 :: z267 :: z268 :: z269 :: z270 :: z271 :: z272 :: z273 :: z274 :: z275 :: z276 :: z277 :: z278 :: z279 :: z280 :: z281 :: z282 :: z283 :: z284 :: z285 :: z286 :: []), []⟩ w1 := by
  by_cases e0 : 0 < x.md.length
  · by_cases q5 : x.fq = 5
    · exact rr21_1 x a6 a7 a8 a9 a10 a11 a12 a13 a14 c6 c7 c8 c9 c10 c11 c12 c13 c14 r w w1 C B HL e0 q5 HQ HR z0 z2 z3 z4 z5 z6 z7 z8 z9 z10 z11 z12 z13 z14 z15 z16 z17 z18 z19 z20 z21 z22 z23 z24 z25 z26 z27 z28 z29 z30 z31 z32 z33 z34 z35 z36 z37 z38 z39 z40 z41 z42 z43 z44 z45 z46 z47 z48 z49 z50 z51 z52 z53 z54 z55 z56 z57 z58 z59 z60 z61 z62 z63 z64 z65 z66 z67 z68 z69 z70 z71 z72 z73 z74 z75 z76 z77 z78 z79 z80 z81 z82 z83 z84 z85 z86 z87 z88 z89 z90 z91 z92 z93 z94 z95 z96 z97 z98 z99 z100 z101 z102 z103 z104 z105 z106 z107 z108 z109 z110 z111 z112 z113 z114 z115 z116 z117 z118 z119 z120 z121 z122 z123 z124 z125 z126 z127 z128 z129 z130 z131 z132 z133 z134 z135 z136 z137 z138 z139 z140 z141 z142 z143 z144 z145 z146 z147 z148 z149 z150 z151 z152 z153 z154 z155 z156 z157 z158 z159 z160 z161 z162 z163 z164 z165 z166 z167 z168 z169 z170 z171 z172 z173 z174 z175 z176 z177 z178 z179 z180 z181 z182 z183 z184 z185 z186 z187 z188 z189 z190 z191 z192 z193 z194 z195 z196 z197 z198 z199 z200 z201 z202 z203 z204 z205 z206 z207 z208 z209 z210 z211 z212 z213 z214 z215 z216 z217 z218 z219 z220 z221 z222 z223 z224 z225 z226 z227 z228 z229 z230 z231 z232 z233 z234 z235 z236 z237 z238 z239 z240 z241 z242 z243 z244 z245 z246 z247 z248 z249 z250 z251 z252 z253 z254 z255 z256 z257 z258 z259 z260 z261 z262 z263 z264 z265 z266 z267 z268 z269 z270 z271 z272 z273 z274 z275 z276 z277 z278 z279 z280 z281 z282 z283 z284 z285 z286
    · by_cases e1 : 0 < x.yd.length
      · by_cases q46 : 4 ≤ x.fq ∧ x.fq ≤ 6
        · exact rr21_21 x a6 a7 a8 a9 a10 a11 a12 a13 a14 c6 c7 c8 c9 c10 c11 c12 c13 c14 r w w1 C B HL e0 q5 e1 q46 HQ HR z0 z2 z3 z4 z5 z6 z7 z8 z9 z10 z11 z12 z13 z14 z15 z16 z17 z18 z19 z20 z21 z22 z23 z24 z25 z26 z27 z28 z29 z30 z31 z32 z33 z34 z35 z36 z37 z38 z39 z40 z41 z42 z43 z44 z45 z46 z47 z48 z49 z50 z51 z52 z53 z54 z55 z56 z57 z58 z59 z60 z61 z62 z63 z64 z65 z66 z67 z68 z69 z70 z71 z72 z73 z74 z75 z76 z77 z78 z79 z80 z81 z82 z83 z84 z85 z86 z87 z88 z89 z90 z91 z92 z93 z94 z95 z96 z97 z98 z99 z100 z101 z102 z103 z104 z105 z106 z107 z108 z109 z110 z111 z112 z113 z114 z115 z116 z117 z118 z119 z120 z121 z122 z123 z124 z125 z126 z127 z128 z129 z130 z131 z132 z133 z134 z135 z136 z137 z138 z139 z140 z141 z142 z143 z144 z145 z146 z147 z148 z149 z150 z151 z152 z153 z154 z155 z156 z157 z158 z159 z160 z161 z162 z163 z164 z165 z166 z167 z168 z169 z170 z171 z172 z173 z174 z175 z176 z177 z178 z179 z180 z181 z182 z183 z184 z185 z186 z187 z188 z189 z190 z191 z192 z193 z194 z195 z196 z197 z198 z199 z200 z201 z202 z203 z204 z205 z206 z207 z208 z209 z210 z211 z212 z213 z214 z215 z216 z217 z218 z219 z220 z221 z222 z223 z224 z225 z226 z227 z228 z229 z230 z231 z232 z233 z234 z235 z236 z237 z238 z239 z240 z241 z242 z243 z244 z245 z246 z247 z248 z249 z250 z251 z252 z253 z254 z255 z256 z257 z258 z259 z260 z261 z262 z263 z264 z265 z266 z267 z268 z269 z270 z271 z272 z273 z274 z275 z276 z277 z278 z279 z280 z281 z282 z283 z284 z285 z286
        · exact rr21_22 x a6 a7 a8 a9 a10 a11 a12 a13 a14 c6 c7 c8 c9 c10 c11 c12 c13 c14 r w w1 C B HL e0 q5 e1 q46 HQ HR z0 z2 z3 z4 z5 z6 z7 z8 z9 z10 z11 z12 z13 z14 z15 z16 z17 z18 z19 z20 z21 z22 z23 z24 z25 z26 z27 z28 z29 z30 z31 z32 z33 z34 z35 z36 z37 z38 z39 z40 z41 z42 z43 z44 z45 z46 z47 z48 z49 z50 z51 z52 z53 z54 z55 z56 z57 z58 z59 z60 z61 z62 z63 z64 z65 z66 z67 z68 z69 z70 z71 z72 z73 z74 z75 z76 z77 z78 z79 z80 z81 z82 z83 z84 z85 z86 z87 z88 z89 z90 z91 z92 z93 z94 z95 z96 z97 z98 z99 z100 z101 z102 z103 z104 z105 z106 z107 z108 z109 z110 z111 z112 z113 z114 z115 z116 z117 z118 z119 z120 z121 z122 z123 z124 z125 z126 z127 z128 z129 z130 z131 z132 z133 z134 z135 z136 z137 z138 z139 z140 z141 z142 z143 z144 z145 z146 z147 z148 z149 z150 z151 z152 z153 z154 z155 z156 z157 z158 z159 z160 z161 z162 z163 z164 z165 z166 z167 z168 z169 z170 z171 z172 z173 z174 z175 z176 z177 z178 z179 z180 z181 z182 z183 z184 z185 z186 z187 z188 z189 z190 z191 z192 z193 z194 z195 z196 z197 z198 z199 z200 z201 z202 z203 z204 z205 z206 z207 z208 z209 z210 z211 z212 z213 z214 z215 z216 z217 z218 z219 z220 z221 z222 z223 z224 z225 z226 z227 z228 z229 z230 z231 z232 z233 z234 z235 z236 z237 z238 z239 z240 z241 z242 z243 z244 z245 z246 z247 z248 z249 z250 z251 z252 z253 z254 z255 z256 z257 z258 z259 z260 z261 z262 z263 z264 z265 z266 z267 z268 z269 z270 z271 z272 z273 z274 z275 z276 z277 z278 z279 z280 z281 z282 z283 z284 z285 z286
      · exact rr21_20 x a6 a7 a8 a9 a10 a11 a12 a13 a14 c6 c7 c8 c9 c10 c11 c12 c13 c14 r w w1 C B HL e0 q5 e1 HQ HR z0 z2 z3 z4 z5 z6 z7 z8 z9 z10 z11 z12 z13 z14 z15 z16 z17 z18 z19 z20 z21 z22 z23 z24 z25 z26 z27 z28 z29 z30 z31 z32 z33 z34 z35 z36 z37 z38 z39 z40 z41 z42 z43 z44 z45 z46 z47 z48 z49 z50 z51 z52 z53 z54 z55 z56 z57 z58 z59 z60 z61 z62 z63 z64 z65 z66 z67 z68 z69 z70 z71 z72 z73 z74 z75 z76 z77 z78 z79 z80 z81 z82 z83 z84 z85 z86 z87 z88 z89 z90 z91 z92 z93 z94 z95 z96 z97 z98 z99 z100 z101 z102 z103 z104 z105 z106 z107 z108 z109 z110 z111 z112 z113 z114 z115 z116 z117 z118 z119 z120 z121 z122 z123 z124 z125 z126 z127 z128 z129 z130 z131 z132 z133 z134 z135 z136 z137 z138 z139 z140 z141 z142 z143 z144 z145 z146 z147 z148 z149 z150 z151 z152 z153 z154 z155 z156 z157 z158 z159 z160 z161 z162 z163 z164 z165 z166 z167 z168 z169 z170 z171 z172 z173 z174 z175 z176 z177 z178 z179 z180 z181 z182 z183 z184 z185 z186 z187 z188 z189 z190 z191 z192 z193 z194 z195 z196 z197 z198 z199 z200 z201 z202 z203 z204 z205 z206 z207 z208 z209 z210 z211 z212 z213 z214 z215 z216 z217 z218 z219 z220 z221 z222 z223 z224 z225 z226 z227 z228 z229 z230 z231 z232 z233 z234 z235 z236 z237 z238 z239 z240 z241 z242 z243 z244 z245 z246 z247 z248 z249 z250 z251 z252 z253 z254 z255 z256 z257 z258 z259 z260 z261 z262 z263 z264 z265 z266 z267 z268 z269 z270 z271 z272 z273 z274 z275 z276 z277 z278 z279 z280 z281 z282 z283 z284 z285 z286
  · by_cases e1 : 0 < x.yd.length
    · by_cases q46 : 4 ≤ x.fq ∧ x.fq ≤ 6
      · exact rr21_01 x a6 a7 a8 a9 a10 a11 a12 a13 a14 c6 c7 c8 c9 c10 c11 c12 c13 c14 r w w1 C B HL e0 e1 q46 HQ HR z0 z2 z3 z4 z5 z6 z7 z8 z9 z10 z11 z12 z13 z14 z15 z16 z17 z18 z19 z20 z21 z22 z23 z24 z25 z26 z27 z28 z29 z30 z31 z32 z33 z34 z35 z36 z37 z38 z39 z40 z41 z42 z43 z44 z45 z46 z47 z48 z49 z50 z51 z52 z53 z54 z55 z56 z57 z58 z59 z60 z61 z62 z63 z64 z65 z66 z67 z68 z69 z70 z71 z72 z73 z74 z75 z76 z77 z78 z79 z80 z81 z82 z83 z84 z85 z86 z87 z88 z89 z90 z91 z92 z93 z94 z95 z96 z97 z98 z99 z100 z101 z102 z103 z104 z105 z106 z107 z108 z109 z110 z111 z112 z113 z114 z115 z116 z117 z118 z119 z120 z121 z122 z123 z124 z125 z126 z127 z128 z129 z130 z131 z132 z133 z134 z135 z136 z137 z138 z139 z140 z141 z142 z143 z144 z145 z146 z147 z148 z149 z150 z151 z152 z153 z154 z155 z156 z157 z158 z159 z160 z161 z162 z163 z164 z165 z166 z167 z168 z169 z170 z171 z172 z173 z174 z175 z176 z177 z178 z179 z180 z181 z182 z183 z184 z185 z186 z187 z188 z189 z190 z191 z192 z193 z194 z195 z196 z197 z198 z199 z200 z201 z202 z203 z204 z205 z206 z207 z208 z209 z210 z211 z212 z213 z214 z215 z216 z217 z218 z219 z220 z221 z222 z223 z224 z225 z226 z227 z228 z229 z230 z231 z232 z233 z234 z235 z236 z237 z238 z239 z240 z241 z242 z243 z244 z245 z246 z247 z248 z249 z250 z251 z252 z253 z254 z255 z256 z257 z258 z259 z260 z261 z262 z263 z264 z265 z266 z267 z268 z269 z270 z271 z272 z273 z274 z275 z276 z277 z278 z279 z280 z281 z282 z283 z284 z285 z286
      · exact rr21_02 x a6 a7 a8 a9 a10 a11 a12 a13 a14 c6 c7 c8 c9 c10 c11 c12 c13 c14 r w w1 C B HL e0 e1 q46 HQ HR z0 z2 z3 z4 z5 z6 z7 z8 z9 z10 z11 z12 z13 z14 z15 z16 z17 z18 z19 z20 z21 z22 z23 z24 z25 z26 z27 z28 z29 z30 z31 z32 z33 z34 z35 z36 z37 z38 z39 z40 z41 z42 z43 z44 z45 z46 z47 z48 z49 z50 z51 z52 z53 z54 z55 z56 z57 z58 z59 z60 z61 z62 z63 z64 z65 z66 z67 z68 z69 z70 z71 z72 z73 z74 z75 z76 z77 z78 z79 z80 z81 z82 z83 z84 z85 z86 z87 z88 z89 z90 z91 z92 z93 z94 z95 z96 z97 z98 z99 z100 z101 z102 z103 z104 z105 z106 z107 z108 z109 z110 z111 z112 z113 z114 z115 z116 z117 z118 z119 z120 z121 z122 z123 z124 z125 z126 z127 z128 z129 z130 z131 z132 z133 z134 z135 z136 z137 z138 z139 z140 z141 z142 z143 z144 z145 z146 z147 z148 z149 z150 z151 z152 z153 z154 z155 z156 z157 z158 z159 z160 z161 z162 z163 z164 z165 z166 z167 z168 z169 z170 z171 z172 z173 z174 z175 z176 z177 z178 z179 z180 z181 z182 z183 z184 z185 z186 z187 z188 z189 z190 z191 z192 z193 z194 z195 z196 z197 z198 z199 z200 z201 z202 z203 z204 z205 z206 z207 z208 z209 z210 z211 z212 z213 z214 z215 z216 z217 z218 z219 z220 z221 z222 z223 z224 z225 z226 z227 z228 z229 z230 z231 z232 z233 z234 z235 z236 z237 z238 z239 z240 z241 z242 z243 z244 z245 z246 z247 z248 z249 z250 z251 z252 z253 z254 z255 z256 z257 z258 z259 z260 z261 z262 z263 z264 z265 z266 z267 z268 z269 z270 z271 z272 z273 z274 z275 z276 z277 z278 z279 z280 z281 z282 z283 z284 z285 z286
    · exact rr21_00 x a6 a7 a8 a9 a10 a11 a12 a13 a14 c6 c7 c8 c9 c10 c11 c12 c13 c14 r w w1 C B HL e0 e1 HQ HR z0 z2 z3 z4 z5 z6 z7 z8 z9 z10 z11 z12 z13 z14 z15 z16 z17 z18 z19 z20 z21 z22 z23 z24 z25 z26 z27 z28 z29 z30 z31 z32 z33 z34 z35 z36 z37 z38 z39 z40 z41 z42 z43 z44 z45 z46 z47 z48 z49 z50 z51 z52 z53 z54 z55 z56 z57 z58 z59 z60 z61 z62 z63 z64 z65 z66 z67 z68 z69 z70 z71 z72 z73 z74 z75 z76 z77 z78 z79 z80 z81 z82 z83 z84 z85 z86 z87 z88 z89 z90 z91 z92 z93 z94 z95 z96 z97 z98 z99 z100 z101 z102 z103 z104 z105 z106 z107 z108 z109 z110 z111 z112 z113 z114 z115 z116 z117 z118 z119 z120 z121 z122 z123 z124 z125 z126 z127 z128 z129 z130 z131 z132 z133 z134 z135 z136 z137 z138 z139 z140 z141 z142 z143 z144 z145 z146 z147 z148 z149 z150 z151 z152 z153 z154 z155 z156 z157 z158 z159 z160 z161 z162 z163 z164 z165 z166 z167 z168 z169 z170 z171 z172 z173 z174 z175 z176 z177 z178 z179 z180 z181 z182 z183 z184 z185 z186 z187 z188 z189 z190 z191 z192 z193 z194 z195 z196 z197 z198 z199 z200 z201 z202 z203 z204 z205 z206 z207 z208 z209 z210 z211 z212 z213 z214 z215 z216 z217 z218 z219 z220 z221 z222 z223 z224 z225 z226 z227 z228 z229 z230 z231 z232 z233 z234 z235 z236 z237 z238 z239 z240 z241 z242 z243 z244 z245 z246 z247 z248 z249 z250 z251 z252 z253 z254 z255 z256 z257 z258 z259 z260 z261 z262 z263 z264 z265 z266 z267 z268 z269 z270 z271 z272 z273 z274 z275 z276 z277 z278 z279 z280 z281 z282 z283 z284 z285 z286
end Rrl
end Go.Proofs.YtgaolaafjiiehaaGreatDoor
