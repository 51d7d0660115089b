/-
  Several texts in one (RrlA, RrlB, RrlG).
-/
import Derived.Test.YtpbbnkgfheafpaaGreatDoorBdCl
import Derived.Deep.DeepCutAuto
import Derived.Lib.QuietBelow
import Derived.Test.YtpbbnkgfheafpaaGreatDoorBdK1
import Derived.Test.YtpbbnkgfheafpaaGreatDoorBdRg
import Derived.Test.YtpbbnkgfheafpaaGreatDoorBdFh
/-
  The reference's in and list (layer 21): numbers of a span, none twice.
-/
namespace Go.Proofs.YtpbbnkgfheafpaaGreatDoor
open Go.RowKit
namespace Rrl
open Cel
open Rcv (CV IntV DayV LisV)
theorem bdrn {n : Nat} {w w' : World} (h : Below n w w') (m : Nat) : Below n w (w'.drewN m) := ⟨h.os, h.tape, h.output, h.size, h.block⟩
def inR (lo hi : Int) (both : Bool) (n : Int) : Bool := decide (lo ≤ n ∧ n ≤ hi) || (both && decide (-hi ≤ n ∧ n ≤ -lo))
def lsR (lo hi : Int) (both : Bool) (L : List Int) : Bool := decide ((∀ n ∈ L, inR lo hi both n = true) ∧ L.Nodup)
theorem ls_nil (lo hi : Int) (both : Bool) : lsR lo hi both [] = true := by simp [lsR]
theorem ls_out {lo hi : Int} {both : Bool} {L : List Int} {k : Nat} (hk : k < L.length) (h : inR lo hi both L[k] = false) : lsR lo hi both L = false := by
  refine decide_eq_false (fun q => ?_)
  have := q.1 _ (List.getElem_mem hk)
  rw [h] at this; cases this
theorem ls_dup {lo hi : Int} {both : Bool} {L : List Int} {j k : Nat} (hk : k < L.length) (hj : j < k) (h : L[j] = L[k]) : lsR lo hi both L = false := by
  refine decide_eq_false (fun q => ?_)
  have := (List.pairwise_iff_getElem.1 q.2) j k (by omega) hk hj
  exact this h
theorem ls_next {lo hi : Int} {both : Bool} {L : List Int} {k : Nat} (hk : k < L.length) (h : lsR lo hi both (L.take k) = true) (h1 : inR lo hi both L[k] = true) (h2 : ∀ (j : Nat) (hj : j < k), L[j] ≠ L[k]) : lsR lo hi both (L.take (k + 1)) = true := by
  have h := of_decide_eq_true h
  rw [List.take_succ_eq_append_getElem hk]
  refine decide_eq_true ⟨fun n hn => ?_, ?_⟩
  · rcases List.mem_append.1 hn with q | q
    · exact h.1 n q
    · rw [List.mem_singleton.1 q]; exact h1
  · rw [List.nodup_append]
    refine ⟨h.2, by simp, fun a ha b hb => ?_⟩
    rw [List.mem_singleton.1 hb]
    obtain ⟨j, hj, rfl⟩ := List.mem_iff_getElem.1 ha
    rw [List.length_take] at hj
    rw [List.getElem_take]
    exact h2 j (by omega)
end Rrl
end Go.Proofs.YtpbbnkgfheafpaaGreatDoor
/-
  The reference's Recur (layer 21): its answer is what the program says. (Written by gen/gen_rrl.py.)
-/
namespace Go.Proofs.YtpbbnkgfheafpaaGreatDoor
open Go.RowKit
namespace Rrl
open Cel
open Rcv (CV IntV DayV LisV)
open Rck (ckB ckE frB eiB dyB lsB gtB nmB endB frB_iff dyB_iff Small)
/-- Of a list without doubles within another one there are no more. -/
theorem pig {α : Type} [BEq α] [LawfulBEq α] : ∀ (U L : List α), L.Nodup → (∀ x ∈ L, x ∈ U) → L.length ≤ U.length
  | [], L, _, h => by
    cases L with
    | nil => exact Nat.le_refl _
    | cons a r => exact absurd (h a List.mem_cons_self) (by simp)
  | u :: U, L, hd, h => by
    have h1 := pig U (L.erase u) (hd.erase u) (fun x hx => by
      have q := hd.mem_erase_iff.1 hx
      rcases List.mem_cons.1 (h x q.2) with e | e
      · exact absurd e q.1
      · exact e)
    by_cases hu : u ∈ L
    · rw [List.length_erase_of_mem hu] at h1
      rw [List.length_cons]; omega
    · rw [List.erase_of_not_mem hu] at h1
      rw [List.length_cons]; omega
theorem pig_ints {L : List Int} {a : Int} {k : Nat} (hd : L.Nodup) (h : ∀ n ∈ L, a ≤ n ∧ n < a + k) : L.length ≤ k := by
  have q := pig ((List.range k).map fun (i : Nat) => a + (i : Int)) L hd (fun n hn => by
    rw [List.mem_map]
    exact ⟨(n - a).toNat, by rw [List.mem_range]; have := h n hn; omega, by have := h n hn; omega⟩)
  simpa using q
theorem pig_days {L : List (Int × Int)} (hd : L.Nodup) (h : ∀ d ∈ L, 0 ≤ d.2 ∧ d.2 ≤ 6 ∧ -53 ≤ d.1 ∧ d.1 ≤ 53) : L.length ≤ 749 := by
  have q := pig ((List.range 749).map fun (i : Nat) => (((i % 107 : Nat) : Int) - 53, ((i / 107 : Nat) : Int))) L hd (fun d hd => by
    rw [List.mem_map]
    have b := h d hd
    refine ⟨(d.2 * 107 + (53 + d.1)).toNat, by rw [List.mem_range]; omega, ?_⟩
    obtain ⟨u, v⟩ := d
    simp only at b ⊢
    refine Prod.ext ?_ ?_ <;> simp only <;> omega)
  simpa using q
def l1B (x : CV) : Bool := decide (60 < x.sc.length ∨ 60 < x.mi.length ∨ 24 < x.hr.length ∨ 12 < x.mo.length ∨ 62 < x.md.length ∨ 732 < x.yd.length ∨ 106 < x.wn.length ∨ 732 < x.sp.length ∨ 749 < x.dy.length)
def hdB (x : CV) : Bool := decide (1 ≤ x.fq ∧ x.fq ≤ 7) && (decide (1 ≤ x.iv ∧ x.iv ≤ 1000) && (decide (0 ≤ x.ct ∧ x.ct ≤ 100000) && (!(decide (0 < x.ct) && x.un) && (!(x.ut && !x.un) && (!(!x.un && decide (x.ua ≠ 0)) && decide (0 ≤ x.wk ∧ x.wk ≤ 6))))))
def enB (x : CV) : Bool := !(x.un && !decide (Val.tmE x.ua = 0))
def laB (x : CV) : Bool := lsR 0 59 false x.sc && (lsR 0 59 false x.mi && (lsR 0 23 false x.hr && (lsR 1 12 false x.mo && (lsR 1 31 true x.md && (lsR 1 366 true x.yd && (lsR 1 53 true x.wn && lsR 1 366 true x.sp))))))
def okD (f : Int) (m : Nat) (d : Int × Int) : Bool := decide (0 ≤ d.2 ∧ d.2 ≤ 6) && (decide (-53 ≤ d.1 ∧ d.1 ≤ 53) && !(decide (d.1 ≠ 0) && (decide (f < 6) || decide (0 < m))))
def dsB (f : Int) (m : Nat) (L : List (Int × Int)) : Bool := decide ((∀ d ∈ L, okD f m d = true) ∧ L.Nodup)
def g1B (x : CV) : Bool := !(decide (0 < x.md.length) && decide (x.fq = 5)) && (!(decide (0 < x.yd.length) && decide (4 ≤ x.fq ∧ x.fq ≤ 6)) && !(decide (0 < x.wn.length) && decide (x.fq ≠ 7)))
def g2B (x : CV) : Bool := decide (x.sp.length = 0) || decide (0 < x.sc.length + x.mi.length + x.hr.length + x.dy.length + x.md.length + x.yd.length + x.wn.length + x.mo.length)
theorem ls_fr {a b : Int} (L : List Int) : lsR a b false L = frB a b L := by
  rw [lsR, frB]
  congr 1
  simp [inR]
theorem ls_ei {b : Int} (L : List Int) : lsR 1 b true L = eiB b L := by
  have e : (∀ n ∈ L, inR 1 b true n = true) ↔ (∀ n ∈ L, n ≠ 0) ∧ ∀ n ∈ L, -b ≤ n ∧ n ≤ b := by
    refine ⟨fun h => ⟨fun n hn => ?_, fun n hn => ?_⟩, fun h n hn => ?_⟩
    · have q := h n hn
      simp [inR] at q; omega
    · have q := h n hn
      simp [inR] at q; omega
    · have q1 := h.1 n hn
      have q2 := h.2 n hn
      simp [inR]; omega
  rw [lsR, eiB, frB, ← Bool.decide_and]
  exact decide_eq_decide.2 ⟨fun h => ⟨(e.1 h.1).1, (e.1 h.1).2, h.2⟩, fun h => ⟨e.2 ⟨h.1, h.2.1⟩, h.2.2⟩⟩
theorem la_ls (x : CV) : laB x = lsB x := by
  rw [laB, lsB, ls_fr, ls_fr, ls_fr, ls_fr, ls_ei, ls_ei, ls_ei, ls_ei]
  simp only [Bool.and_assoc]
theorem long_no {x : CV} (h : ckB x = true) : l1B x = false := by
  have hr := Rcb.Rgt.of (by rw [ckE, if_pos h])
  have hb := h
  unfold ckB at hb
  simp only [Bool.and_eq_true, decide_eq_true_eq] at hb
  obtain ⟨_, _, _, _, _, _, _, _, _, hls, hdy, _⟩ := hb
  unfold lsB at hls
  simp only [Bool.and_eq_true] at hls
  obtain ⟨⟨⟨⟨⟨⟨⟨hsc, hmi⟩, hhr⟩, hmo⟩, hmd⟩, hyd⟩, hwn⟩, hsp⟩ := hls
  have two : ∀ {m : Nat} {L : List Int}, eiB m L = true → L.length ≤ 2 * m := fun {m L} he => by
    have e1 := he
    rw [← ls_ei] at e1
    have e2 := of_decide_eq_true e1
    have q := pig ((List.range m).map (fun (i : Nat) => (i : Int) + 1) ++ (List.range m).map (fun (i : Nat) => -((i : Int) + 1))) L e2.2 (fun n hn => by
      have t := e2.1 n hn
      simp [inR] at t
      rw [List.mem_append, List.mem_map, List.mem_map]
      rcases t with t | t
      · exact Or.inl ⟨(n - 1).toNat, by rw [List.mem_range]; omega, by omega⟩
      · exact Or.inr ⟨(-n - 1).toNat, by rw [List.mem_range]; omega, by omega⟩)
    simp at q
    omega
  have p1 := pig_ints (a := 0) (k := 60) (frB_iff.1 hsc).2 (fun n hn => by have := (frB_iff.1 hsc).1 n hn; omega)
  have p2 := pig_ints (a := 0) (k := 60) (frB_iff.1 hmi).2 (fun n hn => by have := (frB_iff.1 hmi).1 n hn; omega)
  have p3 := pig_ints (a := 0) (k := 24) (frB_iff.1 hhr).2 (fun n hn => by have := (frB_iff.1 hhr).1 n hn; omega)
  have p4 := pig_ints (a := 1) (k := 12) (frB_iff.1 hmo).2 (fun n hn => by have := (frB_iff.1 hmo).1 n hn; omega)
  have p5 := two (m := 31) hmd
  have p6 := two (m := 366) hyd
  have p7 := two (m := 53) hwn
  have p8 := two (m := 366) hsp
  have p9 := pig_days (dyB_iff.1 hdy).2 (dyB_iff.1 hdy).1
  exact decide_eq_false (by omega)
theorem en_iff {x : CV} : endB x.un x.ua x.ut x.ct = true ∧ 0 ≤ x.ct ↔ (decide (0 < x.ct) && x.un) = false ∧ (x.ut && !x.un) = false ∧ (!x.un && decide (x.ua ≠ 0)) = false ∧ enB x = true ∧ 0 ≤ x.ct := by
  obtain ⟨fq, iv, ct, un, ua, ut, sc, mi, hr, dy, md, yd, wn, mo, sp, wk⟩ := x
  simp only [enB, endB]
  cases un with
  | false => cases ut <;> simp
  | true =>
    have e : Val.tmE ua = 0 ↔ Civ.dnE (ua / 86400) = 0 ∧ 1 ≤ Civ.dY (ua / 86400) ∧ Civ.dY (ua / 86400) ≤ 9999 := by
      rw [Val.tmE]
      by_cases t : Civ.dnE (ua / 86400) = 0 ∧ 1 ≤ Civ.dY (ua / 86400) ∧ Civ.dY (ua / 86400) ≤ 9999
      · rw [if_pos t]; exact ⟨fun _ => t, fun _ => rfl⟩
      · rw [if_neg t]; exact ⟨fun q => absurd q (by decide), fun q => absurd q t⟩
    simp only [if_true, Bool.and_eq_true, decide_eq_true_eq, Bool.and_true, decide_eq_false_iff_not, Bool.not_true, Bool.and_false, Bool.false_and, true_and, Bool.true_and, Bool.not_not, e]
    refine ⟨fun h => ⟨by omega, ⟨h.1.1.1.1, h.1.1.1.2, h.1.1.2⟩, h.2⟩, fun h => ⟨⟨⟨⟨h.2.1.1, h.2.1.2.1⟩, h.2.1.2.2⟩, by omega⟩, h.2.2⟩⟩
theorem g_iff (x : CV) : gtB x = true ↔ x.dy.all (nmB x) = true ∧ g1B x = true ∧ g2B x = true := by
  rw [Rck.gtB_eq, Bool.and_eq_true, ← Bool.and_eq_true (g1B x)]
  refine and_congr_right fun _ => ?_
  rw [g1B, g2B]
  simp only [Bool.and_eq_true, Bool.or_eq_true, decide_eq_true_eq, Bool.not_eq_true', Bool.and_eq_false_iff, decide_eq_false_iff_not]
  omega
theorem nil_len {α : Type} (L : List α) : L = [] ↔ L.length = 0 := List.length_eq_zero_iff.symm
theorem ds_iff {x : CV} (hf : 1 ≤ x.fq ∧ x.fq ≤ 7) : dsB x.fq x.wn.length x.dy = true ↔ dyB x.dy = true ∧ x.dy.all (nmB x) = true := by
  rw [dyB_iff, dsB, decide_eq_true_eq, List.all_eq_true]
  have e : ∀ d : Int × Int, okD x.fq x.wn.length d = true ↔ (0 ≤ d.2 ∧ d.2 ≤ 6 ∧ -53 ≤ d.1 ∧ d.1 ≤ 53) ∧ nmB x d = true := fun d => by
    rw [okD, nmB]
    simp only [Bool.and_eq_true, Bool.or_eq_true, decide_eq_true_eq, Bool.not_eq_true', Bool.and_eq_false_iff, Bool.or_eq_false_iff, decide_eq_false_iff_not, nil_len]
    omega
  exact ⟨fun h => ⟨⟨fun d hd => ((e d).1 (h.1 d hd)).1, h.2⟩, fun d hd => ((e d).1 (h.1 d hd)).2⟩, fun h => ⟨fun d hd => (e d).2 ⟨h.1.1 d hd, h.2 d hd⟩, h.1.2⟩⟩
/-- What the reference asks is what the program asks. -/
theorem ck_ref (x : CV) : ckB x = (!l1B x && (hdB x && (enB x && (laB x && (dsB x.fq x.wn.length x.dy && (g1B x && g2B x)))))) := by
  rw [Bool.eq_iff_iff]
  simp only [Bool.and_eq_true, Bool.not_eq_true']
  constructor
  · intro h
    have hl := long_no h
    unfold ckB at h
    simp only [Bool.and_eq_true, decide_eq_true_eq] at h
    obtain ⟨f1, f2, i1, i2, c1, c2, k1, k2, en, hls, hdy, hg⟩ := h
    obtain ⟨e1, e2, e3, e4, _⟩ := en_iff.1 ⟨en, c1⟩
    obtain ⟨hn, h1, h2⟩ := (g_iff x).1 hg
    refine ⟨hl, ?_, e4, by rw [la_ls]; exact hls, (ds_iff ⟨f1, f2⟩).2 ⟨hdy, hn⟩, h1, h2⟩
    rw [hdB, e1, e2, e3, decide_eq_true ⟨f1, f2⟩, decide_eq_true ⟨i1, i2⟩, decide_eq_true ⟨c1, c2⟩, decide_eq_true ⟨k1, k2⟩]
    rfl
  · rintro ⟨_, hh, he, ha, hd, h1, h2⟩
    unfold hdB at hh
    simp only [Bool.and_eq_true, decide_eq_true_eq, Bool.not_eq_true'] at hh
    obtain ⟨⟨f1, f2⟩, ⟨i1, i2⟩, ⟨c1, c2⟩, e1, e2, e3, k1, k2⟩ := hh
    obtain ⟨hdy, hn⟩ := (ds_iff ⟨f1, f2⟩).1 hd
    unfold ckB
    simp only [Bool.and_eq_true, decide_eq_true_eq]
    exact ⟨f1, f2, i1, i2, c1, c2, k1, k2, (en_iff.2 ⟨e1, e2, e3, he, c1⟩).1, by rw [← la_ls]; exact ha, hdy, (g_iff x).2 ⟨hn, h1, h2⟩⟩
end Rrl
end Go.Proofs.YtpbbnkgfheafpaaGreatDoor
/-
  The reference's Recur (layer 21): from its days on. (Written by gen/gen_rrl.py.)
-/
namespace Go.Proofs.YtpbbnkgfheafpaaGreatDoor
open Go.RowKit
namespace Rrl
open Cel
open Rcv (CV IntV DayV LisV)
open Rck (ckB ckE frB eiB dyB lsB gtB nmB endB frB_iff dyB_iff Small)

def startsR (n : Nat) : Code → Bool
  | .region k _ _ => k == n
  | .seq a _ => startsR n a
  | .scope a => startsR n a
  | .block _ a => startsR n a
  | _ => false
def fromR (n : Nat) : Code → Option Code
  | .seq a b => if startsR n a = true then some (.seq a b) else fromR n b
  | c => if startsR n c = true then some c else none
theorem ds_out {f : Int} {m : Nat} {L : List (Int × Int)} {k : Nat} (hk : k < L.length) (h : okD f m L[k] = false) : dsB f m L = false := by
  refine decide_eq_false (fun q => ?_)
  have := q.1 _ (List.getElem_mem hk)
  rw [h] at this; cases this
theorem ds_dup {f : Int} {m : Nat} {L : List (Int × Int)} {j k : Nat} (hk : k < L.length) (hj : j < k) (h : L[j] = L[k]) : dsB f m L = false := by
  refine decide_eq_false (fun q => ?_)
  have := (List.pairwise_iff_getElem.1 q.2) j k (by omega) hk hj
  exact this h
theorem ds_next {f : Int} {m : Nat} {L : List (Int × Int)} {k : Nat} (hk : k < L.length) (h : dsB f m (L.take k) = true) (h1 : okD f m L[k] = true) (h2 : ∀ (j : Nat) (hj : j < k), L[j] ≠ L[k]) : dsB f m (L.take (k + 1)) = true := by
  have h := of_decide_eq_true h
  rw [List.take_succ_eq_append_getElem hk]
  refine decide_eq_true ⟨fun n hn => ?_, ?_⟩
  · rcases List.mem_append.1 hn with q | q
    · exact h.1 n q
    · rw [List.mem_singleton.1 q]; exact h1
  · rw [List.nodup_append]
    refine ⟨h.2, by simp, fun a ha b hb => ?_⟩
    rw [List.mem_singleton.1 hb]
    obtain ⟨j, hj, rfl⟩ := List.mem_iff_getElem.1 ha
    rw [List.length_take] at hj
    rw [List.getElem_take]
    exact h2 j (by omega)
theorem day_at {w : World} {a9 : Option Addr} {c : Nat} {L : List (Int × Int)} (h : DayV w (.slice a9 L.length c) L) : ∃ bx ox, 0 < L.length → a9 = some ⟨bx, ox, none⟩ ∧ bx < w.heap.size ∧ ∀ (j : Nat) (hj : j < L.length), w.cell? ⟨bx, ox + j * 2, none⟩ = some (.int .i64 (L[j]).1) ∧ w.cell? ⟨bx, ox + j * 2 + 1, none⟩ = some (.int .i64 (L[j]).2) := by
  by_cases h0 : 0 < L.length
  · obtain ⟨b, off, c', e, h1, h2⟩ := h.form h0
    injection e with e1 e2 e3
    exact ⟨b, off, fun _ => ⟨e1, h1, h2⟩⟩
  · exact ⟨0, 0, fun q => absurd q h0⟩
end Rrl
end Go.Proofs.YtpbbnkgfheafpaaGreatDoor
