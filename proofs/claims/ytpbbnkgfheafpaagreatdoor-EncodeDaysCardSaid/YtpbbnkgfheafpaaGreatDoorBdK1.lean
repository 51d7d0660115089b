/-
  Several texts in one (RckM, RckA, RckB, RckC, RckD, RckE, RckF, RckG, RckH).
-/
import Derived.Test.YtpbbnkgfheafpaaGreatDoorBdCl
import Derived.Deep.DeepCutAuto
import Derived.Test.YtpbbnkgfheafpaaGreatDoorBdF
import Derived.Test.YtpbbnkgfheafpaaGreatDoorBdD
import Derived.Deep.RegionHeld3
import Derived.Deep.CutBlock
/-
  Plain words on recurrence rules: which lists are right, what goes together.
-/
namespace Go.Proofs.YtpbbnkgfheafpaaGreatDoor
namespace Rck
open Rcv (CV)
/-- Numbers of a span alone, none twice. -/
def frB (a b : Int) (L : List Int) : Bool := decide ((∀ n ∈ L, a ≤ n ∧ n ≤ b) ∧ L.Nodup)
theorem frB_iff {a b : Int} {L : List Int} : frB a b L = true ↔ (∀ n ∈ L, a ≤ n ∧ n ≤ b) ∧ L.Nodup := by simp [frB]
theorem frB_nil (a b : Int) : frB a b [] = true := by simp [frB]
theorem fr_bad {a b : Int} {L : List Int} {j : Nat} (hj : j < L.length) (h : L[j] < a ∨ b < L[j] ∨ L[j] ∈ L.take j) : frB a b L = false := by
  rw [← Bool.not_eq_true, frB_iff]
  rintro ⟨h1, h2⟩
  have h3 := h1 L[j] (List.getElem_mem hj)
  rcases h with h | h | h
  · omega
  · omega
  · have e := List.take_append_drop j L
    have hd : L[j] ∈ L.drop j := by rw [List.drop_eq_getElem_cons hj]; exact List.mem_cons_self
    rw [← e] at h2
    exact (List.nodup_append.1 h2).2.2 _ h _ hd rfl
theorem fr_next {a b : Int} {L : List Int} {j : Nat} (hj : j < L.length) (h : frB a b (L.take j) = true) (h1 : a ≤ L[j]) (h2 : L[j] ≤ b) (h3 : L[j] ∉ L.take j) : frB a b (L.take (j + 1)) = true := by
  rw [frB_iff] at h ⊢
  rw [List.take_succ_eq_append_getElem hj]
  refine ⟨fun n hn => ?_, ?_⟩
  · rcases List.mem_append.1 hn with q | q
    · exact h.1 n q
    · rw [List.mem_singleton.1 q]; omega
  · refine List.nodup_append.2 ⟨h.2, by simp, fun x hx y hy => ?_⟩
    rw [List.mem_singleton.1 hy]
    rintro rfl
    exact h3 hx
/-- Numbers but nought, either way, none twice. -/
def eiB (m : Int) (L : List Int) : Bool := decide (∀ n ∈ L, n ≠ 0) && frB (-m) m L
theorem ei_nought {m : Int} {L : List Int} {j : Nat} (hj : j < L.length) (h : L[j] = 0) : eiB m L = false := by
  rw [eiB, decide_eq_false, Bool.false_and]
  exact fun q => q _ (List.getElem_mem hj) h
theorem ei_all {m : Int} {L : List Int} (h : ∀ n ∈ L.take L.length, n ≠ 0) : eiB m L = frB (-m) m L := by
  rw [List.take_length] at h
  rw [eiB, decide_eq_true h, Bool.true_and]
/-- Weekdays that are right, none twice. -/
def dyB (L : List (Int × Int)) : Bool := decide ((∀ d ∈ L, 0 ≤ d.2 ∧ d.2 ≤ 6 ∧ -53 ≤ d.1 ∧ d.1 ≤ 53) ∧ L.Nodup)
theorem dyB_iff {L : List (Int × Int)} : dyB L = true ↔ (∀ d ∈ L, 0 ≤ d.2 ∧ d.2 ≤ 6 ∧ -53 ≤ d.1 ∧ d.1 ≤ 53) ∧ L.Nodup := by simp [dyB]
theorem dyB_nil : dyB [] = true := by simp [dyB]
theorem dy_bad {L : List (Int × Int)} {j : Nat} (hj : j < L.length) (h : L[j].2 < 0 ∨ 6 < L[j].2 ∨ L[j].1 < -53 ∨ 53 < L[j].1 ∨ L[j] ∈ L.take j) : dyB L = false := by
  rw [← Bool.not_eq_true, dyB_iff]
  rintro ⟨h1, h2⟩
  have h3 := h1 L[j] (List.getElem_mem hj)
  rcases h with h | h | h | h | h
  · omega
  · omega
  · omega
  · omega
  · have e := List.take_append_drop j L
    have hd : L[j] ∈ L.drop j := by rw [List.drop_eq_getElem_cons hj]; exact List.mem_cons_self
    rw [← e] at h2
    exact (List.nodup_append.1 h2).2.2 _ h _ hd rfl
theorem dy_next {L : List (Int × Int)} {j : Nat} (hj : j < L.length) (h : dyB (L.take j) = true) (h1 : 0 ≤ L[j].2 ∧ L[j].2 ≤ 6 ∧ -53 ≤ L[j].1 ∧ L[j].1 ≤ 53) (h3 : L[j] ∉ L.take j) : dyB (L.take (j + 1)) = true := by
  rw [dyB_iff] at h ⊢
  rw [List.take_succ_eq_append_getElem hj]
  refine ⟨fun n hn => ?_, ?_⟩
  · rcases List.mem_append.1 hn with q | q
    · exact h.1 n q
    · rw [List.mem_singleton.1 q]; exact h1
  · refine List.nodup_append.2 ⟨h.2, by simp, fun x hx y hy => ?_⟩
    rw [List.mem_singleton.1 hy]
    rintro rfl
    exact h3 hx
/-- The lists of all numbers. -/
def lsB (x : CV) : Bool := frB 0 59 x.sc && frB 0 59 x.mi && frB 0 23 x.hr && frB 1 12 x.mo && eiB 31 x.md && eiB 366 x.yd && eiB 53 x.wn && eiB 366 x.sp
/-- A weekday's number goes with the frequency, and no week's number. -/
def nmB (x : CV) (d : Int × Int) : Bool := decide (d.1 = 0) || (decide (x.fq = 6 ∨ x.fq = 7) && decide (x.wn = []))
def gtB (x : CV) : Bool := x.dy.all (nmB x) && (decide (x.md = []) || decide (x.fq ≠ 5)) && (decide (x.yd = []) || decide (¬ (x.fq = 4 ∨ x.fq = 5 ∨ x.fq = 6))) && (decide (x.wn = []) || decide (x.fq = 7)) && (decide (x.sp = []) || decide (¬ (x.sc = [] ∧ x.mi = [] ∧ x.hr = [] ∧ x.dy = [] ∧ x.md = [] ∧ x.yd = [] ∧ x.wn = [] ∧ x.mo = [])))
end Rck
end Go.Proofs.YtpbbnkgfheafpaaGreatDoor
/-
  recur.from: numbers of a span alone, none twice; a table of marks.
-/
namespace Go.Proofs.YtpbbnkgfheafpaaGreatDoor
open Go.RowKit
namespace Rck
open Cel
open Rcv (CV IntV DayV LisV RecV)
/-- A table of marks: which places are marked. -/
def SeenB (g : Nat) (w : World) (N : Nat) (f : Nat → Bool) : Prop := g < w.heap.size ∧ ∀ i, i < N → w.cell? ⟨g, i, none⟩ = some (.bool (f i)) ∧ w.frozen? ⟨g, i, none⟩ = false
theorem SeenB.new (w : World) (N : Nat) (t : TypeId) : SeenB w.heap.size (w.alloc (Obj.cells (Array.replicate N (.bool false)) t)) N (fun _ => false) := by
  refine ⟨by simp, fun i h => ⟨?_, ?_⟩⟩
  · rw [World.cell?_alloc_at _ _ _ _ rfl, Array.getElem?_replicate, if_pos h]
  · go_simp
theorem SeenB.below {g N : Nat} {w w' : World} {f : Nat → Bool} (h : SeenB g w N f) (hb : Below w.heap.size w w') : SeenB g w' N f :=
  ⟨Nat.lt_of_lt_of_le h.1 hb.size, fun i hi => ⟨(hb.cell (p := ⟨g, i, none⟩) h.1).trans (h.2 i hi).1, (hb.frozen (p := ⟨g, i, none⟩) h.1).trans (h.2 i hi).2⟩⟩
theorem SeenB.like {g N : Nat} {w : World} {f f' : Nat → Bool} (h : SeenB g w N f) (hf : ∀ i, i < N → f i = f' i) : SeenB g w N f' :=
  ⟨h.1, fun i hi => by rw [← hf i hi]; exact h.2 i hi⟩
theorem SeenB.set {g N i : Nat} {w : World} {f : Nat → Bool} (h : SeenB g w N f) (hi : i < N) : SeenB g (w.setCell ⟨g, i, none⟩ (.bool true)) N (fun j => f j || decide (j = i)) := by
  refine ⟨by have := h.1; simpa [World.setCell] using this, fun j hj => ?_⟩
  rw [World.frozen?_setCell]
  refine ⟨?_, (h.2 j hj).2⟩
  by_cases e : j = i
  · subst e
    rw [World.cell?_setCell_same _ _ _ (h.2 j hj).1]
    simp
  · rw [World.cell?_setCell_other _ _ _ _ (fun k => by injection k with _ k _; exact e k.symm), (h.2 j hj).1]
    simp [e]
set_option maxHeartbeats 3200000 in
set_option maxRecDepth 100000 in
theorem frm_to (v : Value) (L : List Int) (a b : Int) (r : Bool) (w : World) (hv : IntV w v L) (hL : L.length ≤ 1000000) (ha : -366 ≤ a) (hb : b ≤ 366) (hr : Hid (frB a b L = r)) :
    Calls Tryz.prog 44 #[v, .int .i64 a, .int .i64 b] w fun e w' => e = .returned (.bool r) ∧ Below w.heap.size w w' := by
  by_cases h0 : L.length = 0
  · have e1 : L = [] := List.length_eq_zero_iff.1 h0
    subst e1
    obtain ⟨q, c, rfl⟩ := hv.nil
    have hr' := hr.out
    rw [frB_nil] at hr'
    subst hr'
    clear hv h0 hL hr ha hb
    go_enter Tryz.func44, Tryz.ntmps44
    go_wp2
    go_ret
    exact ⟨rfl, Below.refl _ _⟩
  · obtain ⟨b1, o1, c1, rfl, hb1, k1⟩ := hv.form (by omega)
    obtain ⟨n, hn⟩ : ∃ n, L.length = n := ⟨_, rfl⟩
    have K1 : Hid (∀ (j : Nat) (hj : j < L.length), w.cell? ⟨b1, o1 + j, Option.none⟩ = some (.int .i64 L[j])) := Lib.hid k1
    have HN := Lib.hid hn
    have HB1 := Lib.hid hb1
    rw [hn] at hL h0 ⊢
    have hne : ((n : Int) == 0) = false := beq_eq_false_iff_ne.2 (by omega)
    clear k1 hv hn hb1
    go_enter Tryz.func44, Tryz.ntmps44
    go_upto_region 3 with fail
    go_cut [7] (fun p w1 => p = .pointer (some ⟨w.heap.size, 0, none⟩) ∧ Hid (SeenB w.heap.size w1 733 (fun _ => false)) ∧ Hid (Below w.heap.size w w1))
    case first =>
      go_wp2
      go_meet
      exact ⟨rfl, Lib.hid (SeenB.new w 733 _), Lib.hid ((Below.refl _ _).alloc (Nat.le_refl _) _)⟩
    case rest =>
    obtain ⟨w1, rfl⟩ : ∃ x : World, x = wc := ⟨_, rfl⟩
    obtain ⟨rfl, T1, B1⟩ := hcut
    go_wp2_with fail
    go_loopw [15] (fun iv wr => ∃ k : Nat, k ≤ n ∧ iv = .int .i64 k ∧ Hid (frB a b (L.take k) = true) ∧ Hid (SeenB w.heap.size wr 733 (fun i => decide ((i : Int) - 366 ∈ L.take k))) ∧ Hid (Below w.heap.size w wr)) (fun iv _ => n - (intOf iv).toNat)
    case atStart => exact ⟨0, Nat.zero_le _, rfl, Lib.hid (by rw [List.take_zero]; exact frB_nil _ _), Lib.hid (T1.out.like (fun i _ => by simp)), B1⟩
    case round =>
      obtain ⟨k, hk, rfl, HT, S, B⟩ := hrel
      obtain ⟨wo, rfl⟩ : ∃ wo : World, wo = wr := ⟨_, rfl⟩
      by_cases hlt : k < n
      · have h1L : k < L.length := by rw [HN.out]; exact hlt
        have g1 := (B.out.cell (p := ⟨b1, o1 + k, Option.none⟩) HB1.out).trans (K1.out k h1L)
        obtain ⟨X, hX⟩ : ∃ X : Int, L[k] = X := ⟨_, rfl⟩
        have HX : Hid (L[k] = X) := Lib.hid hX
        rw [hX] at g1
        clear hX
        by_cases c1 : X < a
        · have hF : r = false := by rw [← hr.out]; exact fr_bad h1L (Or.inl (by rw [HX.out]; exact c1))
          subst hF
          clear HX h1L
          go_wp2
          go_ret
          exact ⟨rfl, B.out⟩
        by_cases c2 : b < X
        · have hF : r = false := by rw [← hr.out]; exact fr_bad h1L (Or.inr (Or.inl (by rw [HX.out]; exact c2)))
          subst hF
          clear HX h1L
          go_wp2
          go_ret
          exact ⟨rfl, B.out⟩
        obtain ⟨i, hi⟩ : ∃ i : Nat, 366 + X = (i : Int) := ⟨(366 + X).toNat, by omega⟩
        have hi2 : i < 733 := by omega
        have s1 : IntKind.i64.wrap (366 + X) = (i : Int) := by rw [hi]; exact IntWalk.i64_in _ (by omega)
        have HI := Lib.hid hi
        have e3 : ((i : Int) - 366) = X := by omega
        have t1 : wo.cell? ⟨w.heap.size, i, Option.none⟩ = some (.bool (decide (X ∈ L.take k))) := by
          have q : wo.cell? ⟨w.heap.size, i, Option.none⟩ = some (.bool (decide ((i : Int) - 366 ∈ L.take k))) := (S.out.2 i hi2).1
          rw [e3] at q
          exact q
        have t2 := (S.out.2 i hi2).2
        by_cases c3 : X ∈ L.take k
        · have hF : r = false := by rw [← hr.out]; exact fr_bad h1L (Or.inr (Or.inr (by rw [HX.out]; exact c3)))
          subst hF
          rw [decide_eq_true c3] at t1
          clear HX h1L c3 hi e3
          go_wp2
          go_ret
          exact ⟨rfl, B.out⟩
        · rw [decide_eq_false c3] at t1
          have HT2 : Hid (frB a b (L.take (k + 1)) = true) := Lib.hid (fr_next h1L HT.out (by rw [HX.out]; omega) (by rw [HX.out]; omega) (by rw [HX.out]; exact c3))
          have S2 : Hid (SeenB w.heap.size (wo.setCell ⟨w.heap.size, i, none⟩ (.bool true)) 733 (fun j => decide ((j : Int) - 366 ∈ L.take (k + 1)))) := Lib.hid ((S.out.set hi2).like (fun j hj => by
            have e := HX.out
            rw [List.take_succ_eq_append_getElem h1L, e]
            have hj : ((j : Int) - 366 = X) ↔ j = i := by have := HI.out; omega
            by_cases q : (j : Int) - 366 ∈ L.take k
            · simp [q]
            · simp [q, hj]))
          clear HX h1L c3 hi e3
          go_wp2
          go_roundw
          case rel => exact ⟨k + 1, by omega, by go_num, HT2, S2, Lib.hid (B.out.setCell (Nat.le_refl _) _)⟩
          case measure => simp [intOf]; omega
      · have hkn : k = n := by omega
        subst hkn
        have hF : r = true := by
          have := HT.out
          rw [List.take_of_length_le (by rw [HN.out]; exact Nat.le_refl _)] at this
          rw [← hr.out]; exact this
        subst hF
        go_wp2
        go_ret
        exact ⟨rfl, B.out⟩
end Rck
end Go.Proofs.YtpbbnkgfheafpaaGreatDoor
/-
  recur.eitherWay: numbers but nought, either way, none twice.
-/
namespace Go.Proofs.YtpbbnkgfheafpaaGreatDoor
open Go.RowKit
namespace Rck
open Cel
open Rcv (CV IntV DayV LisV RecV)
set_option maxHeartbeats 3200000 in
set_option maxRecDepth 100000 in
theorem ew_to (v : Value) (L : List Int) (m : Int) (r : Bool) (w : World) (hv : IntV w v L) (hL : L.length ≤ 1000000) (hm : 0 ≤ m ∧ m ≤ 366) (hr : Hid (eiB m L = r)) :
    Calls Tryz.prog 45 #[v, .int .i64 m] w fun e w' => e = .returned (.bool r) ∧ Below w.heap.size w w' := by
  have s1 : IntKind.i64.wrap (-m) = -m := IntWalk.i64_in _ (by omega)
  have HV := Lib.hid hv
  by_cases h0 : L.length = 0
  · have e1 : L = [] := List.length_eq_zero_iff.1 h0
    subst e1
    obtain ⟨q, c, rfl⟩ := hv.nil
    have HR : Hid (frB (-m) m [] = r) := Lib.hid (by have := hr.out; rwa [ei_all (by simp)] at this)
    clear hv h0 hL hr
    go_enter Tryz.func45, Tryz.ntmps45
    go_wp2_with fail
    go_loopw [9] (fun iv wr => iv = .int .i64 0 ∧ wr = w) (fun _ _ => 0)
    case atStart => exact ⟨rfl, rfl⟩
    case round =>
      obtain ⟨rfl, rfl⟩ := hrel
      go_wp2_with fail
      refine (frm_to _ [] (-m) m r _ HV.out (by simp) (by omega) (by omega) HR).mono ?_
      rintro e w1 ⟨rfl, hB⟩
      go_wp2
      go_ret
      exact ⟨rfl, hB⟩
  · obtain ⟨b1, o1, c1, rfl, hb1, k1⟩ := hv.form (by omega)
    obtain ⟨n, hn⟩ : ∃ n, L.length = n := ⟨_, rfl⟩
    have K1 : Hid (∀ (j : Nat) (hj : j < L.length), w.cell? ⟨b1, o1 + j, Option.none⟩ = some (.int .i64 L[j])) := Lib.hid k1
    have HN := Lib.hid hn
    have HL := Lib.hid hL
    rw [hn] at hL h0 HV ⊢
    clear k1 hv hn hb1
    go_enter Tryz.func45, Tryz.ntmps45
    go_wp2_with fail
    go_loopw [9] (fun iv wr => ∃ k : Nat, k ≤ n ∧ iv = .int .i64 k ∧ Hid (∀ x ∈ L.take k, x ≠ 0) ∧ wr = w) (fun iv _ => n - (intOf iv).toNat)
    case atStart => exact ⟨0, Nat.zero_le _, rfl, Lib.hid (by simp), rfl⟩
    case round =>
      obtain ⟨k, hk, rfl, HT, rfl⟩ := hrel
      by_cases hlt : k < n
      · have h1L : k < L.length := by rw [HN.out]; exact hlt
        have g1 := K1.out k h1L
        obtain ⟨X, hX⟩ : ∃ X : Int, L[k] = X := ⟨_, rfl⟩
        have HX : Hid (L[k] = X) := Lib.hid hX
        rw [hX] at g1
        clear hX
        by_cases c1 : X = 0
        · have hF : r = false := by rw [← hr.out]; exact ei_nought h1L (by rw [HX.out]; exact c1)
          subst hF c1
          clear HX h1L
          go_wp2
          go_ret
          exact ⟨rfl, Below.refl _ _⟩
        · have HT2 : Hid (∀ x ∈ L.take (k + 1), x ≠ 0) := Lib.hid (by
            have e := HX.out
            rw [List.take_succ_eq_append_getElem h1L, e]
            intro x hx
            rcases List.mem_append.1 hx with q | q
            · exact HT.out x q
            · rw [List.mem_singleton.1 q]; exact c1)
          have hne : (X == 0) = false := beq_eq_false_iff_ne.2 c1
          clear HX h1L c1
          go_wp2
          go_roundw
          case rel => exact ⟨k + 1, by omega, by go_num, HT2, by trivial⟩
          case measure => simp [intOf]; omega
      · have hkn : k = n := by omega
        subst hkn
        have HR : Hid (frB (-m) m L = r) := Lib.hid (by
          have := hr.out
          rwa [ei_all (by rw [HN.out]; exact HT.out)] at this)
        go_wp2_with fail
        refine (frm_to _ L (-m) m r _ HV.out HL.out (by omega) (by omega) HR).mono ?_
        rintro e w1 ⟨rfl, hB⟩
        go_wp2
        go_ret
        exact ⟨rfl, hB⟩
end Rck
end Go.Proofs.YtpbbnkgfheafpaaGreatDoor
/-
  recur.listsAreRight: the lists of all numbers of a rule. (Written by gen/gen_rckc.py.)
-/
namespace Go.Proofs.YtpbbnkgfheafpaaGreatDoor
open Go.RowKit
namespace Rck
open Cel
open Rcv (CV IntV DayV LisV RecV)
/-- No list is of a size that no one hands in. -/
structure Small (x : CV) : Prop where
  sc : x.sc.length ≤ 1000000
  mi : x.mi.length ≤ 1000000
  hr : x.hr.length ≤ 1000000
  dy : x.dy.length ≤ 1000000
  md : x.md.length ≤ 1000000
  yd : x.yd.length ≤ 1000000
  wn : x.wn.length ≤ 1000000
  mo : x.mo.length ≤ 1000000
  sp : x.sp.length ≤ 1000000
set_option maxHeartbeats 6400000 in
set_option maxRecDepth 100000 in
theorem ls_to (s6 s7 s8 s9 s10 s11 s12 s13 s14 : Value) (x : CV) (r : Bool) (w : World) (hl : Hid (LisV w x s6 s7 s8 s9 s10 s11 s12 s13 s14)) (hs : Hid (Small x)) (hr : Hid (lsB x = r)) :
    Calls Tryz.prog 20 #[.agg #[.int .i64 x.fq, .int .i64 x.iv, .int .i64 x.ct, .bool x.un, .int .i64 x.ua, .bool x.ut, s6, s7, s8, s9, s10, s11, s12, s13, s14, .int .i64 x.wk]] w fun e w' => e = .returned (.bool r) ∧ Below w.heap.size w w' := by
  obtain ⟨r0, h0⟩ : ∃ b, frB 0 59 x.sc = b := ⟨_, rfl⟩
  have H0 := Lib.hid h0
  obtain ⟨r1, h1⟩ : ∃ b, frB 0 59 x.mi = b := ⟨_, rfl⟩
  have H1 := Lib.hid h1
  obtain ⟨r2, h2⟩ : ∃ b, frB 0 23 x.hr = b := ⟨_, rfl⟩
  have H2 := Lib.hid h2
  obtain ⟨r3, h3⟩ : ∃ b, frB 1 12 x.mo = b := ⟨_, rfl⟩
  have H3 := Lib.hid h3
  obtain ⟨r4, h4⟩ : ∃ b, eiB 31 x.md = b := ⟨_, rfl⟩
  have H4 := Lib.hid h4
  obtain ⟨r5, h5⟩ : ∃ b, eiB 366 x.yd = b := ⟨_, rfl⟩
  have H5 := Lib.hid h5
  obtain ⟨r6, h6⟩ : ∃ b, eiB 53 x.wn = b := ⟨_, rfl⟩
  have H6 := Lib.hid h6
  obtain ⟨r7, h7⟩ : ∃ b, eiB 366 x.sp = b := ⟨_, rfl⟩
  have H7 := Lib.hid h7
  have HR : Hid ((r0 && r1 && r2 && r3 && r4 && r5 && r6 && r7) = r) := Lib.hid (by have := hr.out; unfold lsB at this; rw [h0, h1, h2, h3, h4, h5, h6, h7] at this; exact this)
  clear hr h0 h1 h2 h3 h4 h5 h6 h7
  go_enter Tryz.func20, Tryz.ntmps20
  go_upto_region 0 with fail
  go_cut [1] (fun p w0 => p = .pointer (some ⟨w.heap.size, 0, none⟩) ∧ Hid (Cs w.heap.size w0 [.int .i64 x.fq, .int .i64 x.iv, .int .i64 x.ct, .bool x.un, .int .i64 x.ua, .bool x.ut, s6, s7, s8, s9, s10, s11, s12, s13, s14, .int .i64 x.wk]) ∧ Hid (Below w.heap.size w w0))
  case first =>
    go_wp2
    go_meet
    exact ⟨rfl, Lib.hid (Cs.new w _ _), Lib.hid ((Below.refl _ _).alloc (Nat.le_refl _) _)⟩
  case rest =>
  obtain ⟨w0, rfl⟩ : ∃ x : World, x = wc := ⟨_, rfl⟩
  obtain ⟨rfl, D, B⟩ := hcut
  have LS := Lib.hid (hl.out.below B.out)
  clear hl
  have c0 := (D.out.2 6 _ rfl).1
  go_wp2_with fail
  refine (frm_to _ x.sc 0 59 r0 _ LS.out.h6 hs.out.sc (by decide) (by decide) H0).mono ?_
  rintro e w1 ⟨rfl, k1⟩
  have D := Lib.hid (D.out.below k1)
  have LS := Lib.hid (LS.out.below k1)
  have B := Lib.hid (bstep B.out k1)
  clear c0 k1
  cases r0 with
  | false =>
    have hF : r = false := by have := HR.out; simpa using this.symm
    subst hF
    go_wp2
    go_ret
    exact ⟨rfl, B.out⟩
  | true =>
  have c1 := (D.out.2 7 _ rfl).1
  go_wp2_with fail
  refine (frm_to _ x.mi 0 59 r1 _ LS.out.h7 hs.out.mi (by decide) (by decide) H1).mono ?_
  rintro e w2 ⟨rfl, k2⟩
  have D := Lib.hid (D.out.below k2)
  have LS := Lib.hid (LS.out.below k2)
  have B := Lib.hid (bstep B.out k2)
  clear c1 k2
  cases r1 with
  | false =>
    have hF : r = false := by have := HR.out; simpa using this.symm
    subst hF
    go_wp2
    go_ret
    exact ⟨rfl, B.out⟩
  | true =>
  have c2 := (D.out.2 8 _ rfl).1
  go_wp2_with fail
  refine (frm_to _ x.hr 0 23 r2 _ LS.out.h8 hs.out.hr (by decide) (by decide) H2).mono ?_
  rintro e w3 ⟨rfl, k3⟩
  have D := Lib.hid (D.out.below k3)
  have LS := Lib.hid (LS.out.below k3)
  have B := Lib.hid (bstep B.out k3)
  clear c2 k3
  cases r2 with
  | false =>
    have hF : r = false := by have := HR.out; simpa using this.symm
    subst hF
    go_wp2
    go_ret
    exact ⟨rfl, B.out⟩
  | true =>
  have c3 := (D.out.2 13 _ rfl).1
  go_wp2_with fail
  refine (frm_to _ x.mo 1 12 r3 _ LS.out.h13 hs.out.mo (by decide) (by decide) H3).mono ?_
  rintro e w4 ⟨rfl, k4⟩
  have D := Lib.hid (D.out.below k4)
  have LS := Lib.hid (LS.out.below k4)
  have B := Lib.hid (bstep B.out k4)
  clear c3 k4
  cases r3 with
  | false =>
    have hF : r = false := by have := HR.out; simpa using this.symm
    subst hF
    go_wp2
    go_ret
    exact ⟨rfl, B.out⟩
  | true =>
  have c4 := (D.out.2 10 _ rfl).1
  go_wp2_with fail
  refine (ew_to _ x.md 31 r4 _ LS.out.h10 hs.out.md (by decide) H4).mono ?_
  rintro e w5 ⟨rfl, k5⟩
  have D := Lib.hid (D.out.below k5)
  have LS := Lib.hid (LS.out.below k5)
  have B := Lib.hid (bstep B.out k5)
  clear c4 k5
  cases r4 with
  | false =>
    have hF : r = false := by have := HR.out; simpa using this.symm
    subst hF
    go_wp2
    go_ret
    exact ⟨rfl, B.out⟩
  | true =>
  have c5 := (D.out.2 11 _ rfl).1
  go_wp2_with fail
  refine (ew_to _ x.yd 366 r5 _ LS.out.h11 hs.out.yd (by decide) H5).mono ?_
  rintro e w6 ⟨rfl, k6⟩
  have D := Lib.hid (D.out.below k6)
  have LS := Lib.hid (LS.out.below k6)
  have B := Lib.hid (bstep B.out k6)
  clear c5 k6
  cases r5 with
  | false =>
    have hF : r = false := by have := HR.out; simpa using this.symm
    subst hF
    go_wp2
    go_ret
    exact ⟨rfl, B.out⟩
  | true =>
  have c6 := (D.out.2 12 _ rfl).1
  go_wp2_with fail
  refine (ew_to _ x.wn 53 r6 _ LS.out.h12 hs.out.wn (by decide) H6).mono ?_
  rintro e w7 ⟨rfl, k7⟩
  have D := Lib.hid (D.out.below k7)
  have LS := Lib.hid (LS.out.below k7)
  have B := Lib.hid (bstep B.out k7)
  clear c6 k7
  cases r6 with
  | false =>
    have hF : r = false := by have := HR.out; simpa using this.symm
    subst hF
    go_wp2
    go_ret
    exact ⟨rfl, B.out⟩
  | true =>
  have c7 := (D.out.2 14 _ rfl).1
  go_wp2_with fail
  refine (ew_to _ x.sp 366 r7 _ LS.out.h14 hs.out.sp (by decide) H7).mono ?_
  rintro e w8 ⟨rfl, k8⟩
  have D := Lib.hid (D.out.below k8)
  have LS := Lib.hid (LS.out.below k8)
  have B := Lib.hid (bstep B.out k8)
  clear c7 k8
  have hF : r = r7 := by have := HR.out; simpa using this.symm
  subst hF
  go_wp2
  go_ret
  exact ⟨rfl, B.out⟩
end Rck
end Go.Proofs.YtpbbnkgfheafpaaGreatDoor
/-
  recur.endIsRight: a rule says of its end what it has to, and once. (Written by gen/gen_rckh.py.)
-/
namespace Go.Proofs.YtpbbnkgfheafpaaGreatDoor
open Go.RowKit
namespace Rck
open Cel
open Rcv (CV IntV DayV LisV RecV)
open Civ (Ahead dY dM dD dnE)
def endB (un : Bool) (ua : Int) (ut : Bool) (ct : Int) : Bool := if un = true then (decide (dnE (ua / 86400) = 0) && decide (1 ≤ dY (ua / 86400)) && decide (dY (ua / 86400) ≤ 9999) && decide (ct = 0)) else (decide (ua = 0) && !ut)
set_option maxHeartbeats 6400000 in
set_option maxRecDepth 100000 in
theorem en_to (v0 v1 ua ct : Int) (un ut r : Bool) (v6 v7 v8 v9 v10 v11 v12 v13 v14 v15 : Value) (w : World) (hA : Ahead w) (hu1 : -9223372036854775808 ≤ ua) (hu2 : ua ≤ 9223372036854775807) (hr : Hid (endB un ua ut ct = r)) :
    Calls Tryz.prog 19 #[.agg #[.int .i64 v0, .int .i64 v1, .int .i64 ct, .bool un, .int .i64 ua, .bool ut, v6, v7, v8, v9, v10, v11, v12, v13, v14, v15]] w fun e w' => e = .returned (.bool r) ∧ Below w.heap.size w w' := by
  have HA := Lib.hid hA
  clear hA
  go_enter Tryz.func19, Tryz.ntmps19
  go_upto_region 0 with fail
  go_cut [1] (fun p w0 => p = .pointer (some ⟨w.heap.size, 0, none⟩) ∧ Hid (Cs w.heap.size w0 [.int .i64 v0, .int .i64 v1, .int .i64 ct, .bool un, .int .i64 ua, .bool ut, v6, v7, v8, v9, v10, v11, v12, v13, v14, v15]) ∧ Hid (Below w.heap.size w w0))
  case first =>
    go_wp2
    go_meet
    exact ⟨rfl, Lib.hid (Cs.new w _ _), Lib.hid ((Below.refl _ _).alloc (Nat.le_refl _) _)⟩
  case rest =>
  obtain ⟨w0, rfl⟩ : ∃ x : World, x = wc := ⟨_, rfl⟩
  obtain ⟨rfl, C, B⟩ := hcut
  have l2 := (C.out.2 2 _ rfl).1
  have l3 := (C.out.2 3 _ rfl).1
  have l4 := (C.out.2 4 _ rfl).1
  have l5 := (C.out.2 5 _ rfl).1
  cases un with
  | false =>
    by_cases z : ua = 0
    · have e : r = !ut := by rw [← hr.out, endB, if_neg (by decide), z]; simp
      subst z e
      clear hr
      cases ut with
      | false =>
        go_wp2
        go_ret
        exact ⟨rfl, B.out⟩
      | true =>
        go_wp2
        go_ret
        exact ⟨rfl, B.out⟩
    · have e : r = false := by rw [← hr.out, endB, if_neg (by decide), decide_eq_false z]; rfl
      have p : (ua == 0) = false := beq_eq_false_iff_ne.2 z
      subst e
      clear hr
      go_wp2
      go_ret
      exact ⟨rfl, B.out⟩
  | true =>
    obtain ⟨d, hd⟩ : ∃ d, ua / 86400 = d := ⟨_, rfl⟩
    obtain ⟨E, hE⟩ : ∃ E, dnE d = E := ⟨_, rfl⟩
    obtain ⟨Y, hY⟩ : ∃ Y, dY d = Y := ⟨_, rfl⟩
    obtain ⟨M, hM⟩ : ∃ M, dM d = M := ⟨_, rfl⟩
    obtain ⟨D, hD⟩ : ∃ D, dD d = D := ⟨_, rfl⟩
    have HR : Hid ((decide (E = 0) && decide (1 ≤ Y) && decide (Y ≤ 9999) && decide (ct = 0)) = r) := Lib.hid (by
      have q := hr.out
      rw [endB, if_pos rfl, hd, hE, hY] at q; exact q)
    have HD := Lib.hid (And.intro hd (And.intro hE (And.intro hY (And.intro hM hD))))
    clear hr hd hE hY hM hD
    go_wp2_with fail
    refine (Clk.csplit_any ua _ hu1 hu2).mono ?_
    rintro e w1 ⟨rfl, m, rfl⟩
    have HA1 := Lib.hid ((HA.out.stays B.out).drewN m)
    rw [HD.out.1]
    go_wp2_with fail
    refine (Civ.date_any d _ HA1.out).mono ?_
    rintro e w2 ⟨rfl, k2⟩
    have C2 := Lib.hid ((C.out.drewN m).below k2)
    have B2 := Lib.hid (bstep (B.out.trans ((show Below w0.heap.size w0 (w0.drewN m) from ⟨rfl, rfl, rfl, Nat.le_refl _, fun _ _ => rfl⟩).mono B.out.size)) k2)
    rw [HD.out.2.1, HD.out.2.2.1, HD.out.2.2.2.1, HD.out.2.2.2.2]
    clear k2 l2 l3 l4 l5 HA1 C B
    have l2 := (C2.out.2 2 _ rfl).1
    have r0 := C2.out.1
    by_cases z : E = 0
    case neg =>
      have e : r = false := by rw [← HR.out, decide_eq_false z]; rfl
      have p : (E == 0) = false := beq_eq_false_iff_ne.2 z
      subst e
      clear HR z
      go_wp2
      go_ret
      exact ⟨rfl, B2.out.alloc B2.out.size _⟩
    subst z
    by_cases y1 : 1 ≤ Y
    case neg =>
      have e : r = false := by rw [← HR.out, decide_eq_false y1]; rfl
      subst e
      clear HR
      go_wp2
      go_ret
      exact ⟨rfl, B2.out.alloc B2.out.size _⟩
    by_cases y2 : Y ≤ 9999
    case neg =>
      have e : r = false := by rw [← HR.out, decide_eq_false y2, Bool.and_false]; rfl
      subst e
      clear HR
      go_wp2
      go_ret
      exact ⟨rfl, B2.out.alloc B2.out.size _⟩
    have e : r = (ct == 0) := by rw [← HR.out, decide_eq_true y1, decide_eq_true y2]; by_cases q : ct = 0 <;> simp [q]
    subst e
    clear HR
    go_wp2
    go_ret
    exact ⟨rfl, B2.out.alloc B2.out.size _⟩
end Rck
end Go.Proofs.YtpbbnkgfheafpaaGreatDoor
/-
  recur.daysAreRight: weekdays that are right, none twice.
-/
namespace Go.Proofs.YtpbbnkgfheafpaaGreatDoor
open Go.RowKit
namespace Rck
open Cel
open Rcv (CV IntV DayV LisV RecV)
/-- Which places of the table of weekdays are marked. -/
def mkD (L : List (Int × Int)) (i : Nat) : Bool := L.any (fun d => decide (d.2 * 107 + (53 + d.1) = (i : Int)))
theorem mkD_one {L : List (Int × Int)} {X : Int × Int} {i : Nat} (hi : X.2 * 107 + (53 + X.1) = (i : Int)) (hX : -53 ≤ X.1 ∧ X.1 ≤ 53) (hL : dyB L = true) : mkD L i = decide (X ∈ L) := by
  have hd := (dyB_iff.1 hL).1
  by_cases h : X ∈ L
  · rw [decide_eq_true h, mkD, List.any_eq_true]
    exact ⟨X, h, decide_eq_true hi⟩
  · rw [decide_eq_false h, mkD, ← Bool.not_eq_true, List.any_eq_true]
    rintro ⟨d, hm, hd2⟩
    have e := of_decide_eq_true hd2
    have b := hd d hm
    have e1 : d.1 = X.1 ∧ d.2 = X.2 := by omega
    exact h (by rw [← (show d = X from Prod.ext e1.1 e1.2)]; exact hm)
theorem mkD_next {L : List (Int × Int)} {X : Int × Int} {i : Nat} (hi : X.2 * 107 + (53 + X.1) = (i : Int)) (j : Nat) : (mkD L j || decide (j = i)) = mkD (L ++ [X]) j := by
  rw [mkD, mkD, List.any_append]
  have : (j = i) ↔ (X.2 * 107 + (53 + X.1) = (j : Int)) := by omega
  simp [this]
set_option maxHeartbeats 6400000 in
set_option maxRecDepth 100000 in
theorem dy_to (v : Value) (L : List (Int × Int)) (r : Bool) (w : World) (hv : DayV w v L) (hL : L.length ≤ 1000000) (hr : Hid (dyB L = r)) :
    Calls Tryz.prog 21 #[v] w fun e w' => e = .returned (.bool r) ∧ Below w.heap.size w w' := by
  by_cases h0 : L.length = 0
  · have e1 : L = [] := List.length_eq_zero_iff.1 h0
    subst e1
    obtain ⟨q, c, rfl⟩ := hv.nil
    have hr' := hr.out
    rw [dyB_nil] at hr'
    subst hr'
    clear hv h0 hL hr
    go_enter Tryz.func21, Tryz.ntmps21
    go_wp2
    go_ret
    exact ⟨rfl, Below.refl _ _⟩
  · obtain ⟨b1, o1, c1, rfl, hb1, k1⟩ := hv.form (by omega)
    obtain ⟨n, hn⟩ : ∃ n, L.length = n := ⟨_, rfl⟩
    have K1 : Hid (∀ (j : Nat) (hj : j < L.length), w.cell? ⟨b1, o1 + j * 2, Option.none⟩ = some (.int .i64 L[j].1) ∧ w.cell? ⟨b1, o1 + j * 2 + 1, Option.none⟩ = some (.int .i64 L[j].2)) := Lib.hid k1
    have HN := Lib.hid hn
    have HB1 := Lib.hid hb1
    rw [hn] at hL h0 ⊢
    have hne : ((n : Int) == 0) = false := beq_eq_false_iff_ne.2 (by omega)
    clear k1 hv hn hb1
    go_enter Tryz.func21, Tryz.ntmps21
    go_upto_region 3 with fail
    go_cut [3] (fun p w1 => p = .pointer (some ⟨w.heap.size, 0, none⟩) ∧ Hid (SeenB w.heap.size w1 749 (fun _ => false)) ∧ Hid (Below w.heap.size w w1))
    case first =>
      go_wp2
      go_meet
      exact ⟨rfl, Lib.hid (SeenB.new w 749 _), Lib.hid ((Below.refl _ _).alloc (Nat.le_refl _) _)⟩
    case rest =>
    obtain ⟨w1, rfl⟩ : ∃ x : World, x = wc := ⟨_, rfl⟩
    obtain ⟨rfl, T1, B1⟩ := hcut
    go_wp2_with fail
    go_loopw [11] (fun iv wr => ∃ k : Nat, k ≤ n ∧ iv = .int .i64 k ∧ Hid (dyB (L.take k) = true) ∧ Hid (SeenB w.heap.size wr 749 (mkD (L.take k))) ∧ Hid (Below w.heap.size w wr)) (fun iv _ => n - (intOf iv).toNat)
    case atStart => exact ⟨0, Nat.zero_le _, rfl, Lib.hid (by rw [List.take_zero]; exact dyB_nil), Lib.hid (T1.out.like (fun i _ => by simp [mkD])), B1⟩
    case round =>
      obtain ⟨k, hk, rfl, HT, S, B⟩ := hrel
      obtain ⟨wo, rfl⟩ : ∃ wo : World, wo = wr := ⟨_, rfl⟩
      by_cases hlt : k < n
      · have h1L : k < L.length := by rw [HN.out]; exact hlt
        have g1 := (B.out.cell (p := ⟨b1, o1 + k * 2, Option.none⟩) HB1.out).trans (K1.out k h1L).1
        have g2 := (B.out.cell (p := ⟨b1, o1 + k * 2 + 1, Option.none⟩) HB1.out).trans (K1.out k h1L).2
        obtain ⟨X, hX⟩ : ∃ X, L[k].1 = X := ⟨_, rfl⟩
        obtain ⟨Y, hY⟩ : ∃ Y, L[k].2 = Y := ⟨_, rfl⟩
        have HX : Hid (L[k].1 = X ∧ L[k].2 = Y) := Lib.hid ⟨hX, hY⟩
        rw [hX] at g1
        rw [hY] at g2
        clear hX hY
        go_upto_region 6 with fail
        go_cut [5] from 12 to 50 (fun p w5 => p = .pointer (some ⟨wo.heap.size, 0, none⟩) ∧ Hid (Cs wo.heap.size w5 [.int .i64 X, .int .i64 Y]) ∧ Hid (SeenB w.heap.size w5 749 (mkD (L.take k))) ∧ Hid (Below w.heap.size w w5))
        case first =>
          go_wp2
          go_meet
          exact ⟨rfl, Lib.hid (Cs.new wo _ _), Lib.hid (S.out.below ((Below.refl _ _).alloc (Nat.le_refl _) _)), Lib.hid (B.out.alloc B.out.size _)⟩
        case rest =>
        obtain ⟨w5, rfl⟩ : ∃ x : World, x = wc := ⟨_, rfl⟩
        obtain ⟨rfl, D5, S5, B5⟩ := hcut
        have HNE : Hid (w.heap.size ≠ wo.heap.size) := Lib.hid (by have := S.out.1; omega)
        have d0 := (D5.out.2 0 _ rfl).1
        have d1 := (D5.out.2 1 _ rfl).1
        have SZ : Hid (w5.drew.cell? ⟨wo.heap.size, 0, Option.none⟩ = some (.int .i64 X) ∧ w5.drew.cell? ⟨wo.heap.size, 1, Option.none⟩ = some (.int .i64 Y)) := Lib.hid ⟨d0, d1⟩
        by_cases y1 : Y < 0
        · have hF : r = false := by rw [← hr.out]; exact dy_bad h1L (by have q := HX.out; rw [q.1, q.2]; exact Or.inl y1)
          subst hF
          clear HX h1L
          go_upto_region 7 with fail
          refine Hr.Walk.region (R := fun _ x => x.cell? ⟨wo.heap.size, 0, Option.none⟩ = some (.int .i64 X) ∧ x.cell? ⟨wo.heap.size, 1, Option.none⟩ = some (.int .i64 Y)) (by kernel_rfl) ?_
          refine Hr.Walk.one (i := 0) (by kernel_rfl) rfl (fun K hK => ?_)
          go_simp
          refine hK.out _ _ SZ.out ?_
          clear hK K
          refine Hr.Walk.one (i := 1) (by kernel_rfl) rfl (fun K hK => ?_)
          go_simp
          refine hK.out _ _ SZ.out ?_
          clear hK K
          refine Hr.Walk.one (i := 2) (by kernel_rfl) rfl (fun K hK => ?_)
          go_simp
          refine hK.out _ _ SZ.out ?_
          clear hK K
          refine Hr.Walk.one (i := 3) (by kernel_rfl) rfl (fun K hK => ?_)
          go_simp
          refine hK.out _ _ SZ.out ?_
          clear hK K
          refine Hr.Walk.one (i := 4) (by kernel_rfl) rfl (fun K hK => ?_)
          go_simp
          refine hK.out _ _ SZ.out ?_
          clear hK K
          refine Hr.Walk.one (i := 5) (by kernel_rfl) rfl (fun K hK => ?_)
          go_simp
          refine hK.out _ _ SZ.out ?_
          clear hK K
          refine Hr.Walk.one (i := 6) (by kernel_rfl) rfl (fun K hK => ?_)
          go_simp
          refine hK.out _ _ SZ.out ?_
          clear hK K
          refine Hr.Walk.one (i := 7) (by kernel_rfl) rfl (fun K hK => ?_)
          go_simp
          refine hK.out _ _ SZ.out ?_
          clear hK K
          refine Hr.Walk.one (i := 8) (by kernel_rfl) rfl (fun K hK => ?_)
          go_simp
          refine hK.out _ _ SZ.out ?_
          clear hK K
          refine Hr.Walk.one (i := 9) (by kernel_rfl) rfl (fun K hK => ?_)
          go_simp
          refine hK.out _ _ SZ.out ?_
          clear hK K
          refine Hr.Walk.one (i := 10) (by kernel_rfl) rfl (fun K hK => ?_)
          go_simp
          refine hK.out _ _ SZ.out ?_
          clear hK K
          refine Hr.Walk.one (i := 11) (by kernel_rfl) rfl (fun K hK => ?_)
          go_simp
          refine hK.out _ _ SZ.out ?_
          clear hK K
          refine Hr.Walk.one (i := 12) (by kernel_rfl) rfl (fun K hK => ?_)
          go_simp
          refine hK.out _ _ SZ.out ?_
          clear hK K
          refine Hr.Walk.one (i := 13) (by kernel_rfl) rfl (fun K hK => ?_)
          go_simp
          refine hK.out _ _ SZ.out ?_
          clear hK K
          refine Hr.Walk.one (i := 14) (by kernel_rfl) rfl (fun K hK => ?_)
          go_simp
          refine hK.out _ _ SZ.out ?_
          clear hK K
          refine Hr.Walk.one (i := 15) (by kernel_rfl) rfl (fun K hK => ?_)
          go_simp
          refine hK.out _ _ SZ.out ?_
          clear hK K
          refine Hr.Walk.one (i := 16) (by kernel_rfl) rfl (fun K hK => ?_)
          go_simp
          refine hK.out _ _ SZ.out ?_
          clear hK K
          refine Hr.Walk.one (i := 17) (by kernel_rfl) rfl (fun K hK => ?_)
          go_simp
          refine hK.out _ _ SZ.out ?_
          clear hK K
          refine Hr.Walk.one (i := 18) (by kernel_rfl) rfl (fun K hK => ?_)
          go_simp
          refine hK.out _ _ SZ.out ?_
          clear hK K
          refine Hr.Walk.take (i := 19) (v := undef) (fun x => x.cell? ⟨wo.heap.size, 0, Option.none⟩ = some (.int .i64 X) ∧ x.cell? ⟨wo.heap.size, 1, Option.none⟩ = some (.int .i64 Y)) (fun _ => True) rfl (by kernel_rfl) (by kernel_rfl) (by kernel_rfl) (fun _ _ _ h => h) (fun _ _ _ _ _ _ => trivial) (fun _ _ _ h => h) (fun _ _ h => h) trivial (Or.inr ⟨by rfl, rfl⟩) SZ.out SZ.out ?_
          (try go_simp)
          refine Hr.Walk.take (i := 20) (v := undef) (fun x => x.cell? ⟨wo.heap.size, 0, Option.none⟩ = some (.int .i64 X) ∧ x.cell? ⟨wo.heap.size, 1, Option.none⟩ = some (.int .i64 Y)) (fun _ => True) rfl (by kernel_rfl) (by kernel_rfl) (by kernel_rfl) (fun _ _ _ h => h) (fun _ _ _ _ _ _ => trivial) (fun _ _ _ h => h) (fun _ _ h => h) trivial (Or.inr ⟨by rfl, rfl⟩) SZ.out SZ.out ?_
          (try go_simp)
          refine Hr.Walk.take (i := 21) (v := undef) (fun x => x.cell? ⟨wo.heap.size, 0, Option.none⟩ = some (.int .i64 X) ∧ x.cell? ⟨wo.heap.size, 1, Option.none⟩ = some (.int .i64 Y)) (fun _ => True) rfl (by kernel_rfl) (by kernel_rfl) (by kernel_rfl) (fun _ _ _ h => h) (fun _ _ _ _ _ _ => trivial) (fun _ _ _ h => h) (fun _ _ h => h) trivial (Or.inr ⟨by rfl, rfl⟩) SZ.out SZ.out ?_
          (try go_simp)
          refine Hr.Walk.take (i := 22) (v := undef) (fun x => x.cell? ⟨wo.heap.size, 0, Option.none⟩ = some (.int .i64 X) ∧ x.cell? ⟨wo.heap.size, 1, Option.none⟩ = some (.int .i64 Y)) (fun _ => True) rfl (by kernel_rfl) (by kernel_rfl) (by kernel_rfl) (fun _ _ _ h => h) (fun _ _ _ _ _ _ => trivial) (fun _ _ _ h => h) (fun _ _ h => h) trivial (Or.inr ⟨by rfl, rfl⟩) SZ.out SZ.out ?_
          (try go_simp)
          refine Hr.Walk.take (i := 23) (v := undef) (fun x => x.cell? ⟨wo.heap.size, 0, Option.none⟩ = some (.int .i64 X) ∧ x.cell? ⟨wo.heap.size, 1, Option.none⟩ = some (.int .i64 Y)) (fun _ => True) rfl (by kernel_rfl) (by kernel_rfl) (by kernel_rfl) (fun _ _ _ h => h) (fun _ _ _ _ _ _ => trivial) (fun _ _ _ h => h) (fun _ _ h => h) trivial (Or.inr ⟨by rfl, rfl⟩) SZ.out SZ.out ?_
          (try go_simp)
          refine Hr.Walk.one (i := 24) (by kernel_rfl) rfl (fun K hK => ?_)
          go_simp
          refine hK.out _ _ SZ.out ?_
          clear hK K
          refine Hr.Walk.one (i := 25) (by kernel_rfl) rfl (fun K hK => ?_)
          go_simp
          refine hK.out _ _ SZ.out ?_
          clear hK K
          refine Hr.Walk.one (i := 26) (by kernel_rfl) rfl (fun K hK => ?_)
          go_simp
          refine hK.out _ _ SZ.out ?_
          clear hK K
          refine Hr.Walk.one (i := 27) (by kernel_rfl) rfl (fun K hK => ?_)
          go_simp
          refine hK.out _ _ SZ.out ?_
          clear hK K
          refine Hr.Walk.done (by kernel_rfl) ?_ _
          go_wp2
          go_ret
          exact ⟨rfl, B5.out.drew⟩
        by_cases y2 : 6 < Y
        · have hF : r = false := by rw [← hr.out]; exact dy_bad h1L (by have q := HX.out; rw [q.1, q.2]; exact Or.inr (Or.inl y2))
          subst hF
          clear HX h1L
          go_upto_region 7 with fail
          refine Hr.Walk.region (R := fun _ x => x.cell? ⟨wo.heap.size, 0, Option.none⟩ = some (.int .i64 X) ∧ x.cell? ⟨wo.heap.size, 1, Option.none⟩ = some (.int .i64 Y)) (by kernel_rfl) ?_
          refine Hr.Walk.one (i := 0) (by kernel_rfl) rfl (fun K hK => ?_)
          go_simp
          refine hK.out _ _ SZ.out ?_
          clear hK K
          refine Hr.Walk.one (i := 1) (by kernel_rfl) rfl (fun K hK => ?_)
          go_simp
          refine hK.out _ _ SZ.out ?_
          clear hK K
          refine Hr.Walk.one (i := 2) (by kernel_rfl) rfl (fun K hK => ?_)
          go_simp
          refine hK.out _ _ SZ.out ?_
          clear hK K
          refine Hr.Walk.one (i := 3) (by kernel_rfl) rfl (fun K hK => ?_)
          go_simp
          refine hK.out _ _ SZ.out ?_
          clear hK K
          refine Hr.Walk.one (i := 4) (by kernel_rfl) rfl (fun K hK => ?_)
          go_simp
          refine hK.out _ _ SZ.out ?_
          clear hK K
          refine Hr.Walk.one (i := 5) (by kernel_rfl) rfl (fun K hK => ?_)
          go_simp
          refine hK.out _ _ SZ.out ?_
          clear hK K
          refine Hr.Walk.one (i := 6) (by kernel_rfl) rfl (fun K hK => ?_)
          go_simp
          refine hK.out _ _ SZ.out ?_
          clear hK K
          refine Hr.Walk.one (i := 7) (by kernel_rfl) rfl (fun K hK => ?_)
          go_simp
          refine hK.out _ _ SZ.out ?_
          clear hK K
          refine Hr.Walk.one (i := 8) (by kernel_rfl) rfl (fun K hK => ?_)
          go_simp
          refine hK.out _ _ SZ.out ?_
          clear hK K
          refine Hr.Walk.one (i := 9) (by kernel_rfl) rfl (fun K hK => ?_)
          go_simp
          refine hK.out _ _ SZ.out ?_
          clear hK K
          refine Hr.Walk.one (i := 10) (by kernel_rfl) rfl (fun K hK => ?_)
          go_simp
          refine hK.out _ _ SZ.out ?_
          clear hK K
          refine Hr.Walk.one (i := 11) (by kernel_rfl) rfl (fun K hK => ?_)
          go_simp
          refine hK.out _ _ SZ.out ?_
          clear hK K
          refine Hr.Walk.one (i := 12) (by kernel_rfl) rfl (fun K hK => ?_)
          go_simp
          refine hK.out _ _ SZ.out ?_
          clear hK K
          refine Hr.Walk.one (i := 13) (by kernel_rfl) rfl (fun K hK => ?_)
          go_simp
          refine hK.out _ _ SZ.out ?_
          clear hK K
          refine Hr.Walk.one (i := 14) (by kernel_rfl) rfl (fun K hK => ?_)
          go_simp
          refine hK.out _ _ SZ.out ?_
          clear hK K
          refine Hr.Walk.one (i := 15) (by kernel_rfl) rfl (fun K hK => ?_)
          go_simp
          refine hK.out _ _ SZ.out ?_
          clear hK K
          refine Hr.Walk.one (i := 16) (by kernel_rfl) rfl (fun K hK => ?_)
          go_simp
          refine hK.out _ _ SZ.out ?_
          clear hK K
          refine Hr.Walk.one (i := 17) (by kernel_rfl) rfl (fun K hK => ?_)
          go_simp
          refine hK.out _ _ SZ.out ?_
          clear hK K
          refine Hr.Walk.one (i := 18) (by kernel_rfl) rfl (fun K hK => ?_)
          go_simp
          refine hK.out _ _ SZ.out ?_
          clear hK K
          refine Hr.Walk.take (i := 19) (v := undef) (fun x => x.cell? ⟨wo.heap.size, 0, Option.none⟩ = some (.int .i64 X) ∧ x.cell? ⟨wo.heap.size, 1, Option.none⟩ = some (.int .i64 Y)) (fun _ => True) rfl (by kernel_rfl) (by kernel_rfl) (by kernel_rfl) (fun _ _ _ h => h) (fun _ _ _ _ _ _ => trivial) (fun _ _ _ h => h) (fun _ _ h => h) trivial (Or.inr ⟨by rfl, rfl⟩) SZ.out SZ.out ?_
          (try go_simp)
          refine Hr.Walk.take (i := 20) (v := undef) (fun x => x.cell? ⟨wo.heap.size, 0, Option.none⟩ = some (.int .i64 X) ∧ x.cell? ⟨wo.heap.size, 1, Option.none⟩ = some (.int .i64 Y)) (fun _ => True) rfl (by kernel_rfl) (by kernel_rfl) (by kernel_rfl) (fun _ _ _ h => h) (fun _ _ _ _ _ _ => trivial) (fun _ _ _ h => h) (fun _ _ h => h) trivial (Or.inr ⟨by rfl, rfl⟩) SZ.out SZ.out ?_
          (try go_simp)
          refine Hr.Walk.take (i := 21) (v := undef) (fun x => x.cell? ⟨wo.heap.size, 0, Option.none⟩ = some (.int .i64 X) ∧ x.cell? ⟨wo.heap.size, 1, Option.none⟩ = some (.int .i64 Y)) (fun _ => True) rfl (by kernel_rfl) (by kernel_rfl) (by kernel_rfl) (fun _ _ _ h => h) (fun _ _ _ _ _ _ => trivial) (fun _ _ _ h => h) (fun _ _ h => h) trivial (Or.inr ⟨by rfl, rfl⟩) SZ.out SZ.out ?_
          (try go_simp)
          refine Hr.Walk.take (i := 22) (v := undef) (fun x => x.cell? ⟨wo.heap.size, 0, Option.none⟩ = some (.int .i64 X) ∧ x.cell? ⟨wo.heap.size, 1, Option.none⟩ = some (.int .i64 Y)) (fun _ => True) rfl (by kernel_rfl) (by kernel_rfl) (by kernel_rfl) (fun _ _ _ h => h) (fun _ _ _ _ _ _ => trivial) (fun _ _ _ h => h) (fun _ _ h => h) trivial (Or.inr ⟨by rfl, rfl⟩) SZ.out SZ.out ?_
          (try go_simp)
          refine Hr.Walk.take (i := 23) (v := undef) (fun x => x.cell? ⟨wo.heap.size, 0, Option.none⟩ = some (.int .i64 X) ∧ x.cell? ⟨wo.heap.size, 1, Option.none⟩ = some (.int .i64 Y)) (fun _ => True) rfl (by kernel_rfl) (by kernel_rfl) (by kernel_rfl) (fun _ _ _ h => h) (fun _ _ _ _ _ _ => trivial) (fun _ _ _ h => h) (fun _ _ h => h) trivial (Or.inr ⟨by rfl, rfl⟩) SZ.out SZ.out ?_
          (try go_simp)
          refine Hr.Walk.one (i := 24) (by kernel_rfl) rfl (fun K hK => ?_)
          go_simp
          refine hK.out _ _ SZ.out ?_
          clear hK K
          refine Hr.Walk.one (i := 25) (by kernel_rfl) rfl (fun K hK => ?_)
          go_simp
          refine hK.out _ _ SZ.out ?_
          clear hK K
          refine Hr.Walk.one (i := 26) (by kernel_rfl) rfl (fun K hK => ?_)
          go_simp
          refine hK.out _ _ SZ.out ?_
          clear hK K
          refine Hr.Walk.one (i := 27) (by kernel_rfl) rfl (fun K hK => ?_)
          go_simp
          refine hK.out _ _ SZ.out ?_
          clear hK K
          refine Hr.Walk.done (by kernel_rfl) ?_ _
          go_wp2
          go_ret
          exact ⟨rfl, B5.out.drew⟩
        by_cases x1 : X < -53
        · have hF : r = false := by rw [← hr.out]; exact dy_bad h1L (by have q := HX.out; rw [q.1, q.2]; exact Or.inr (Or.inr (Or.inl x1)))
          subst hF
          clear HX h1L
          go_upto_region 7 with fail
          refine Hr.Walk.region (R := fun _ x => x.cell? ⟨wo.heap.size, 0, Option.none⟩ = some (.int .i64 X) ∧ x.cell? ⟨wo.heap.size, 1, Option.none⟩ = some (.int .i64 Y)) (by kernel_rfl) ?_
          refine Hr.Walk.one (i := 0) (by kernel_rfl) rfl (fun K hK => ?_)
          go_simp
          refine hK.out _ _ SZ.out ?_
          clear hK K
          refine Hr.Walk.one (i := 1) (by kernel_rfl) rfl (fun K hK => ?_)
          go_simp
          refine hK.out _ _ SZ.out ?_
          clear hK K
          refine Hr.Walk.one (i := 2) (by kernel_rfl) rfl (fun K hK => ?_)
          go_simp
          refine hK.out _ _ SZ.out ?_
          clear hK K
          refine Hr.Walk.one (i := 3) (by kernel_rfl) rfl (fun K hK => ?_)
          go_simp
          refine hK.out _ _ SZ.out ?_
          clear hK K
          refine Hr.Walk.one (i := 4) (by kernel_rfl) rfl (fun K hK => ?_)
          go_simp
          refine hK.out _ _ SZ.out ?_
          clear hK K
          refine Hr.Walk.one (i := 5) (by kernel_rfl) rfl (fun K hK => ?_)
          go_simp
          refine hK.out _ _ SZ.out ?_
          clear hK K
          refine Hr.Walk.one (i := 6) (by kernel_rfl) rfl (fun K hK => ?_)
          go_simp
          refine hK.out _ _ SZ.out ?_
          clear hK K
          refine Hr.Walk.one (i := 7) (by kernel_rfl) rfl (fun K hK => ?_)
          go_simp
          refine hK.out _ _ SZ.out ?_
          clear hK K
          refine Hr.Walk.one (i := 8) (by kernel_rfl) rfl (fun K hK => ?_)
          go_simp
          refine hK.out _ _ SZ.out ?_
          clear hK K
          refine Hr.Walk.one (i := 9) (by kernel_rfl) rfl (fun K hK => ?_)
          go_simp
          refine hK.out _ _ SZ.out ?_
          clear hK K
          refine Hr.Walk.one (i := 10) (by kernel_rfl) rfl (fun K hK => ?_)
          go_simp
          refine hK.out _ _ SZ.out ?_
          clear hK K
          refine Hr.Walk.one (i := 11) (by kernel_rfl) rfl (fun K hK => ?_)
          go_simp
          refine hK.out _ _ SZ.out ?_
          clear hK K
          refine Hr.Walk.one (i := 12) (by kernel_rfl) rfl (fun K hK => ?_)
          go_simp
          refine hK.out _ _ SZ.out ?_
          clear hK K
          refine Hr.Walk.one (i := 13) (by kernel_rfl) rfl (fun K hK => ?_)
          go_simp
          refine hK.out _ _ SZ.out ?_
          clear hK K
          refine Hr.Walk.one (i := 14) (by kernel_rfl) rfl (fun K hK => ?_)
          go_simp
          refine hK.out _ _ SZ.out ?_
          clear hK K
          refine Hr.Walk.one (i := 15) (by kernel_rfl) rfl (fun K hK => ?_)
          go_simp
          refine hK.out _ _ SZ.out ?_
          clear hK K
          refine Hr.Walk.one (i := 16) (by kernel_rfl) rfl (fun K hK => ?_)
          go_simp
          refine hK.out _ _ SZ.out ?_
          clear hK K
          refine Hr.Walk.one (i := 17) (by kernel_rfl) rfl (fun K hK => ?_)
          go_simp
          refine hK.out _ _ SZ.out ?_
          clear hK K
          refine Hr.Walk.one (i := 18) (by kernel_rfl) rfl (fun K hK => ?_)
          go_simp
          refine hK.out _ _ SZ.out ?_
          clear hK K
          refine Hr.Walk.take (i := 19) (v := undef) (fun x => x.cell? ⟨wo.heap.size, 0, Option.none⟩ = some (.int .i64 X) ∧ x.cell? ⟨wo.heap.size, 1, Option.none⟩ = some (.int .i64 Y)) (fun _ => True) rfl (by kernel_rfl) (by kernel_rfl) (by kernel_rfl) (fun _ _ _ h => h) (fun _ _ _ _ _ _ => trivial) (fun _ _ _ h => h) (fun _ _ h => h) trivial (Or.inr ⟨by rfl, rfl⟩) SZ.out SZ.out ?_
          (try go_simp)
          refine Hr.Walk.take (i := 20) (v := undef) (fun x => x.cell? ⟨wo.heap.size, 0, Option.none⟩ = some (.int .i64 X) ∧ x.cell? ⟨wo.heap.size, 1, Option.none⟩ = some (.int .i64 Y)) (fun _ => True) rfl (by kernel_rfl) (by kernel_rfl) (by kernel_rfl) (fun _ _ _ h => h) (fun _ _ _ _ _ _ => trivial) (fun _ _ _ h => h) (fun _ _ h => h) trivial (Or.inr ⟨by rfl, rfl⟩) SZ.out SZ.out ?_
          (try go_simp)
          refine Hr.Walk.take (i := 21) (v := undef) (fun x => x.cell? ⟨wo.heap.size, 0, Option.none⟩ = some (.int .i64 X) ∧ x.cell? ⟨wo.heap.size, 1, Option.none⟩ = some (.int .i64 Y)) (fun _ => True) rfl (by kernel_rfl) (by kernel_rfl) (by kernel_rfl) (fun _ _ _ h => h) (fun _ _ _ _ _ _ => trivial) (fun _ _ _ h => h) (fun _ _ h => h) trivial (Or.inr ⟨by rfl, rfl⟩) SZ.out SZ.out ?_
          (try go_simp)
          refine Hr.Walk.take (i := 22) (v := undef) (fun x => x.cell? ⟨wo.heap.size, 0, Option.none⟩ = some (.int .i64 X) ∧ x.cell? ⟨wo.heap.size, 1, Option.none⟩ = some (.int .i64 Y)) (fun _ => True) rfl (by kernel_rfl) (by kernel_rfl) (by kernel_rfl) (fun _ _ _ h => h) (fun _ _ _ _ _ _ => trivial) (fun _ _ _ h => h) (fun _ _ h => h) trivial (Or.inr ⟨by rfl, rfl⟩) SZ.out SZ.out ?_
          (try go_simp)
          refine Hr.Walk.take (i := 23) (v := undef) (fun x => x.cell? ⟨wo.heap.size, 0, Option.none⟩ = some (.int .i64 X) ∧ x.cell? ⟨wo.heap.size, 1, Option.none⟩ = some (.int .i64 Y)) (fun _ => True) rfl (by kernel_rfl) (by kernel_rfl) (by kernel_rfl) (fun _ _ _ h => h) (fun _ _ _ _ _ _ => trivial) (fun _ _ _ h => h) (fun _ _ h => h) trivial (Or.inr ⟨by rfl, rfl⟩) SZ.out SZ.out ?_
          (try go_simp)
          refine Hr.Walk.one (i := 24) (by kernel_rfl) rfl (fun K hK => ?_)
          go_simp
          refine hK.out _ _ SZ.out ?_
          clear hK K
          refine Hr.Walk.one (i := 25) (by kernel_rfl) rfl (fun K hK => ?_)
          go_simp
          refine hK.out _ _ SZ.out ?_
          clear hK K
          refine Hr.Walk.one (i := 26) (by kernel_rfl) rfl (fun K hK => ?_)
          go_simp
          refine hK.out _ _ SZ.out ?_
          clear hK K
          refine Hr.Walk.one (i := 27) (by kernel_rfl) rfl (fun K hK => ?_)
          go_simp
          refine hK.out _ _ SZ.out ?_
          clear hK K
          refine Hr.Walk.done (by kernel_rfl) ?_ _
          go_wp2
          go_ret
          exact ⟨rfl, B5.out.drew⟩
        by_cases x2 : 53 < X
        · have hF : r = false := by rw [← hr.out]; exact dy_bad h1L (by have q := HX.out; rw [q.1, q.2]; exact Or.inr (Or.inr (Or.inr (Or.inl x2))))
          subst hF
          clear HX h1L
          go_upto_region 7 with fail
          refine Hr.Walk.region (R := fun _ x => x.cell? ⟨wo.heap.size, 0, Option.none⟩ = some (.int .i64 X) ∧ x.cell? ⟨wo.heap.size, 1, Option.none⟩ = some (.int .i64 Y)) (by kernel_rfl) ?_
          refine Hr.Walk.one (i := 0) (by kernel_rfl) rfl (fun K hK => ?_)
          go_simp
          refine hK.out _ _ SZ.out ?_
          clear hK K
          refine Hr.Walk.one (i := 1) (by kernel_rfl) rfl (fun K hK => ?_)
          go_simp
          refine hK.out _ _ SZ.out ?_
          clear hK K
          refine Hr.Walk.one (i := 2) (by kernel_rfl) rfl (fun K hK => ?_)
          go_simp
          refine hK.out _ _ SZ.out ?_
          clear hK K
          refine Hr.Walk.one (i := 3) (by kernel_rfl) rfl (fun K hK => ?_)
          go_simp
          refine hK.out _ _ SZ.out ?_
          clear hK K
          refine Hr.Walk.one (i := 4) (by kernel_rfl) rfl (fun K hK => ?_)
          go_simp
          refine hK.out _ _ SZ.out ?_
          clear hK K
          refine Hr.Walk.one (i := 5) (by kernel_rfl) rfl (fun K hK => ?_)
          go_simp
          refine hK.out _ _ SZ.out ?_
          clear hK K
          refine Hr.Walk.one (i := 6) (by kernel_rfl) rfl (fun K hK => ?_)
          go_simp
          refine hK.out _ _ SZ.out ?_
          clear hK K
          refine Hr.Walk.one (i := 7) (by kernel_rfl) rfl (fun K hK => ?_)
          go_simp
          refine hK.out _ _ SZ.out ?_
          clear hK K
          refine Hr.Walk.one (i := 8) (by kernel_rfl) rfl (fun K hK => ?_)
          go_simp
          refine hK.out _ _ SZ.out ?_
          clear hK K
          refine Hr.Walk.one (i := 9) (by kernel_rfl) rfl (fun K hK => ?_)
          go_simp
          refine hK.out _ _ SZ.out ?_
          clear hK K
          refine Hr.Walk.one (i := 10) (by kernel_rfl) rfl (fun K hK => ?_)
          go_simp
          refine hK.out _ _ SZ.out ?_
          clear hK K
          refine Hr.Walk.one (i := 11) (by kernel_rfl) rfl (fun K hK => ?_)
          go_simp
          refine hK.out _ _ SZ.out ?_
          clear hK K
          refine Hr.Walk.one (i := 12) (by kernel_rfl) rfl (fun K hK => ?_)
          go_simp
          refine hK.out _ _ SZ.out ?_
          clear hK K
          refine Hr.Walk.one (i := 13) (by kernel_rfl) rfl (fun K hK => ?_)
          go_simp
          refine hK.out _ _ SZ.out ?_
          clear hK K
          refine Hr.Walk.one (i := 14) (by kernel_rfl) rfl (fun K hK => ?_)
          go_simp
          refine hK.out _ _ SZ.out ?_
          clear hK K
          refine Hr.Walk.one (i := 15) (by kernel_rfl) rfl (fun K hK => ?_)
          go_simp
          refine hK.out _ _ SZ.out ?_
          clear hK K
          refine Hr.Walk.one (i := 16) (by kernel_rfl) rfl (fun K hK => ?_)
          go_simp
          refine hK.out _ _ SZ.out ?_
          clear hK K
          refine Hr.Walk.one (i := 17) (by kernel_rfl) rfl (fun K hK => ?_)
          go_simp
          refine hK.out _ _ SZ.out ?_
          clear hK K
          refine Hr.Walk.one (i := 18) (by kernel_rfl) rfl (fun K hK => ?_)
          go_simp
          refine hK.out _ _ SZ.out ?_
          clear hK K
          refine Hr.Walk.take (i := 19) (v := undef) (fun x => x.cell? ⟨wo.heap.size, 0, Option.none⟩ = some (.int .i64 X) ∧ x.cell? ⟨wo.heap.size, 1, Option.none⟩ = some (.int .i64 Y)) (fun _ => True) rfl (by kernel_rfl) (by kernel_rfl) (by kernel_rfl) (fun _ _ _ h => h) (fun _ _ _ _ _ _ => trivial) (fun _ _ _ h => h) (fun _ _ h => h) trivial (Or.inr ⟨by rfl, rfl⟩) SZ.out SZ.out ?_
          (try go_simp)
          refine Hr.Walk.take (i := 20) (v := undef) (fun x => x.cell? ⟨wo.heap.size, 0, Option.none⟩ = some (.int .i64 X) ∧ x.cell? ⟨wo.heap.size, 1, Option.none⟩ = some (.int .i64 Y)) (fun _ => True) rfl (by kernel_rfl) (by kernel_rfl) (by kernel_rfl) (fun _ _ _ h => h) (fun _ _ _ _ _ _ => trivial) (fun _ _ _ h => h) (fun _ _ h => h) trivial (Or.inr ⟨by rfl, rfl⟩) SZ.out SZ.out ?_
          (try go_simp)
          refine Hr.Walk.take (i := 21) (v := undef) (fun x => x.cell? ⟨wo.heap.size, 0, Option.none⟩ = some (.int .i64 X) ∧ x.cell? ⟨wo.heap.size, 1, Option.none⟩ = some (.int .i64 Y)) (fun _ => True) rfl (by kernel_rfl) (by kernel_rfl) (by kernel_rfl) (fun _ _ _ h => h) (fun _ _ _ _ _ _ => trivial) (fun _ _ _ h => h) (fun _ _ h => h) trivial (Or.inr ⟨by rfl, rfl⟩) SZ.out SZ.out ?_
          (try go_simp)
          refine Hr.Walk.take (i := 22) (v := undef) (fun x => x.cell? ⟨wo.heap.size, 0, Option.none⟩ = some (.int .i64 X) ∧ x.cell? ⟨wo.heap.size, 1, Option.none⟩ = some (.int .i64 Y)) (fun _ => True) rfl (by kernel_rfl) (by kernel_rfl) (by kernel_rfl) (fun _ _ _ h => h) (fun _ _ _ _ _ _ => trivial) (fun _ _ _ h => h) (fun _ _ h => h) trivial (Or.inr ⟨by rfl, rfl⟩) SZ.out SZ.out ?_
          (try go_simp)
          refine Hr.Walk.take (i := 23) (v := undef) (fun x => x.cell? ⟨wo.heap.size, 0, Option.none⟩ = some (.int .i64 X) ∧ x.cell? ⟨wo.heap.size, 1, Option.none⟩ = some (.int .i64 Y)) (fun _ => True) rfl (by kernel_rfl) (by kernel_rfl) (by kernel_rfl) (fun _ _ _ h => h) (fun _ _ _ _ _ _ => trivial) (fun _ _ _ h => h) (fun _ _ h => h) trivial (Or.inr ⟨by rfl, rfl⟩) SZ.out SZ.out ?_
          (try go_simp)
          refine Hr.Walk.one (i := 24) (by kernel_rfl) rfl (fun K hK => ?_)
          go_simp
          refine hK.out _ _ SZ.out ?_
          clear hK K
          refine Hr.Walk.one (i := 25) (by kernel_rfl) rfl (fun K hK => ?_)
          go_simp
          refine hK.out _ _ SZ.out ?_
          clear hK K
          refine Hr.Walk.one (i := 26) (by kernel_rfl) rfl (fun K hK => ?_)
          go_simp
          refine hK.out _ _ SZ.out ?_
          clear hK K
          refine Hr.Walk.one (i := 27) (by kernel_rfl) rfl (fun K hK => ?_)
          go_simp
          refine hK.out _ _ SZ.out ?_
          clear hK K
          refine Hr.Walk.done (by kernel_rfl) ?_ _
          go_wp2
          go_ret
          exact ⟨rfl, B5.out.drew⟩
        obtain ⟨a, ha⟩ : ∃ a : Nat, Y = (a : Int) := ⟨Y.toNat, by omega⟩
        obtain ⟨c, hc⟩ : ∃ c : Nat, 53 + X = (c : Int) := ⟨(53 + X).toNat, by omega⟩
        subst ha
        have ha2 : a < 7 := by omega
        have hc2 : c < 107 := by omega
        have hi2 : a * 107 + c < 749 := by omega
        have ai : (a : Int) < 7 := by omega
        have ci : (c : Int) < 107 := by omega
        have s1 : IntKind.i64.wrap (53 + X) = (c : Int) := by rw [hc]; exact IntWalk.i64_in _ (by omega)
        have e3 : (a : Int) * 107 + (53 + X) = ((a * 107 + c : Nat) : Int) := by omega
        have hm := mkD_one (L := L.take k) (X := (X, (a : Int))) e3 (by omega) HT.out
        have t1 : w5.cell? ⟨w.heap.size, a * 107 + c, Option.none⟩ = some (.bool (decide ((X, (a : Int)) ∈ L.take k))) := by rw [← hm]; exact (S5.out.2 _ hi2).1
        have t2 := (S5.out.2 _ hi2).2
        have LX : Hid (L[k] = (X, (a : Int))) := Lib.hid (Prod.ext HX.out.1 HX.out.2)
        have HE := Lib.hid e3
        have HR : Hid (0 ≤ (a : Int) ∧ (a : Int) ≤ 6 ∧ -53 ≤ X ∧ X ≤ 53) := Lib.hid (by omega)
        clear hm e3 hc
        by_cases c3 : (X, (a : Int)) ∈ L.take k
        · have hF : r = false := by rw [← hr.out]; exact dy_bad h1L (Or.inr (Or.inr (Or.inr (Or.inr (by rw [LX.out]; exact c3)))))
          subst hF
          rw [decide_eq_true c3] at t1
          clear LX h1L c3 HX
          go_upto_region 7 with fail
          refine Hr.Walk.region (R := fun _ x => x.cell? ⟨wo.heap.size, 0, Option.none⟩ = some (.int .i64 X) ∧ x.cell? ⟨wo.heap.size, 1, Option.none⟩ = some (.int .i64 (a : Int))) (by kernel_rfl) ?_
          refine Hr.Walk.one (i := 0) (by kernel_rfl) rfl (fun K hK => ?_)
          go_simp
          refine hK.out _ _ SZ.out ?_
          clear hK K
          refine Hr.Walk.one (i := 1) (by kernel_rfl) rfl (fun K hK => ?_)
          go_simp
          refine hK.out _ _ SZ.out ?_
          clear hK K
          refine Hr.Walk.one (i := 2) (by kernel_rfl) rfl (fun K hK => ?_)
          go_simp
          refine hK.out _ _ SZ.out ?_
          clear hK K
          refine Hr.Walk.one (i := 3) (by kernel_rfl) rfl (fun K hK => ?_)
          go_simp
          refine hK.out _ _ SZ.out ?_
          clear hK K
          refine Hr.Walk.one (i := 4) (by kernel_rfl) rfl (fun K hK => ?_)
          go_simp
          refine hK.out _ _ SZ.out ?_
          clear hK K
          refine Hr.Walk.one (i := 5) (by kernel_rfl) rfl (fun K hK => ?_)
          go_simp
          refine hK.out _ _ SZ.out ?_
          clear hK K
          refine Hr.Walk.one (i := 6) (by kernel_rfl) rfl (fun K hK => ?_)
          go_simp
          refine hK.out _ _ SZ.out ?_
          clear hK K
          refine Hr.Walk.one (i := 7) (by kernel_rfl) rfl (fun K hK => ?_)
          go_simp
          refine hK.out _ _ SZ.out ?_
          clear hK K
          refine Hr.Walk.one (i := 8) (by kernel_rfl) rfl (fun K hK => ?_)
          go_simp
          refine hK.out _ _ SZ.out ?_
          clear hK K
          refine Hr.Walk.one (i := 9) (by kernel_rfl) rfl (fun K hK => ?_)
          go_simp
          refine hK.out _ _ SZ.out ?_
          clear hK K
          refine Hr.Walk.one (i := 10) (by kernel_rfl) rfl (fun K hK => ?_)
          go_simp
          refine hK.out _ _ SZ.out ?_
          clear hK K
          refine Hr.Walk.one (i := 11) (by kernel_rfl) rfl (fun K hK => ?_)
          go_simp
          refine hK.out _ _ SZ.out ?_
          clear hK K
          refine Hr.Walk.one (i := 12) (by kernel_rfl) rfl (fun K hK => ?_)
          go_simp
          refine hK.out _ _ SZ.out ?_
          clear hK K
          refine Hr.Walk.one (i := 13) (by kernel_rfl) rfl (fun K hK => ?_)
          go_simp
          refine hK.out _ _ SZ.out ?_
          clear hK K
          refine Hr.Walk.one (i := 14) (by kernel_rfl) rfl (fun K hK => ?_)
          go_simp
          refine hK.out _ _ SZ.out ?_
          clear hK K
          refine Hr.Walk.one (i := 15) (by kernel_rfl) rfl (fun K hK => ?_)
          go_simp
          refine hK.out _ _ SZ.out ?_
          clear hK K
          refine Hr.Walk.one (i := 16) (by kernel_rfl) rfl (fun K hK => ?_)
          go_simp
          refine hK.out _ _ SZ.out ?_
          clear hK K
          refine Hr.Walk.one (i := 17) (by kernel_rfl) rfl (fun K hK => ?_)
          go_simp
          refine hK.out _ _ SZ.out ?_
          clear hK K
          refine Hr.Walk.one (i := 18) (by kernel_rfl) rfl (fun K hK => ?_)
          go_simp
          refine hK.out _ _ SZ.out ?_
          clear hK K
          refine Hr.Walk.take (i := 19) (v := ?v5_19) (fun x => x.cell? ⟨wo.heap.size, 0, Option.none⟩ = some (.int .i64 X) ∧ x.cell? ⟨wo.heap.size, 1, Option.none⟩ = some (.int .i64 (a : Int))) (fun _ => True) rfl (by kernel_rfl) (by kernel_rfl) (by kernel_rfl) (fun _ _ _ h => h) (fun _ _ _ _ _ _ => trivial) (fun _ _ _ h => h) (fun _ _ h => h) trivial (Or.inl ⟨by rfl, ?hy5_19⟩) SZ.out SZ.out ?rest5_19
          case hy5_19 => intro x hx; have e0 := hx.1; have e1 := hx.2; clear hx; go_simp; try with_reducible rfl
          (try go_simp)
          refine Hr.Walk.take (i := 20) (v := ?v5_20) (fun x => x.cell? ⟨wo.heap.size, 0, Option.none⟩ = some (.int .i64 X) ∧ x.cell? ⟨wo.heap.size, 1, Option.none⟩ = some (.int .i64 (a : Int))) (fun _ => True) rfl (by kernel_rfl) (by kernel_rfl) (by kernel_rfl) (fun _ _ _ h => h) (fun _ _ _ _ _ _ => trivial) (fun _ _ _ h => h) (fun _ _ h => h) trivial (Or.inl ⟨by rfl, ?hy5_20⟩) SZ.out SZ.out ?rest5_20
          case hy5_20 => intro x hx; have e0 := hx.1; have e1 := hx.2; clear hx; go_simp; try with_reducible rfl
          (try go_simp)
          refine Hr.Walk.take (i := 21) (v := ?v5_21) (fun x => x.cell? ⟨wo.heap.size, 0, Option.none⟩ = some (.int .i64 X) ∧ x.cell? ⟨wo.heap.size, 1, Option.none⟩ = some (.int .i64 (a : Int))) (fun _ => True) rfl (by kernel_rfl) (by kernel_rfl) (by kernel_rfl) (fun _ _ _ h => h) (fun _ _ _ _ _ _ => trivial) (fun _ _ _ h => h) (fun _ _ h => h) trivial (Or.inl ⟨by rfl, ?hy5_21⟩) SZ.out SZ.out ?rest5_21
          case hy5_21 => intro x hx; have e0 := hx.1; have e1 := hx.2; clear hx; go_simp; try with_reducible rfl
          (try go_simp)
          refine Hr.Walk.take (i := 22) (v := ?v5_22) (fun x => x.cell? ⟨wo.heap.size, 0, Option.none⟩ = some (.int .i64 X) ∧ x.cell? ⟨wo.heap.size, 1, Option.none⟩ = some (.int .i64 (a : Int))) (fun _ => True) rfl (by kernel_rfl) (by kernel_rfl) (by kernel_rfl) (fun _ _ _ h => h) (fun _ _ _ _ _ _ => trivial) (fun _ _ _ h => h) (fun _ _ h => h) trivial (Or.inl ⟨by rfl, ?hy5_22⟩) SZ.out SZ.out ?rest5_22
          case hy5_22 => intro x hx; have e0 := hx.1; have e1 := hx.2; clear hx; go_simp; try with_reducible rfl
          (try go_simp)
          refine Hr.Walk.take (i := 23) (v := ?v5_23) (fun x => x.cell? ⟨wo.heap.size, 0, Option.none⟩ = some (.int .i64 X) ∧ x.cell? ⟨wo.heap.size, 1, Option.none⟩ = some (.int .i64 (a : Int))) (fun _ => True) rfl (by kernel_rfl) (by kernel_rfl) (by kernel_rfl) (fun _ _ _ h => h) (fun _ _ _ _ _ _ => trivial) (fun _ _ _ h => h) (fun _ _ h => h) trivial (Or.inl ⟨by rfl, ?hy5_23⟩) SZ.out SZ.out ?rest5_23
          case hy5_23 => intro x hx; have e0 := hx.1; have e1 := hx.2; clear hx; go_simp; try with_reducible rfl
          (try go_simp)
          refine Hr.Walk.one (i := 24) (by kernel_rfl) rfl (fun K hK => ?_)
          go_simp
          refine hK.out _ _ SZ.out ?_
          clear hK K
          refine Hr.Walk.one (i := 25) (by kernel_rfl) rfl (fun K hK => ?_)
          go_simp
          refine hK.out _ _ SZ.out ?_
          clear hK K
          refine Hr.Walk.one (i := 26) (by kernel_rfl) rfl (fun K hK => ?_)
          go_simp
          refine hK.out _ _ SZ.out ?_
          clear hK K
          refine Hr.Walk.one (i := 27) (by kernel_rfl) rfl (fun K hK => ?_)
          go_simp
          refine hK.out _ _ SZ.out ?_
          clear hK K
          refine Hr.Walk.done (by kernel_rfl) ?_ _
          go_wp2
          go_ret
          exact ⟨rfl, B5.out.drew⟩
        · rw [decide_eq_false c3] at t1
          have HT2 : Hid (dyB (L.take (k + 1)) = true) := Lib.hid (dy_next h1L HT.out (by rw [LX.out]; exact HR.out) (by rw [LX.out]; exact c3))
          have S2 : Hid (SeenB w.heap.size ((w5.drew.drew).setCell ⟨w.heap.size, a * 107 + c, Option.none⟩ (.bool true)) 749 (mkD (L.take (k + 1)))) := Lib.hid (((S5.out.below (w' := w5.drew.drew) ⟨rfl, rfl, rfl, Nat.le_refl _, fun _ _ => rfl⟩).set hi2).like (fun j _ => by
            have e := LX.out
            rw [List.take_succ_eq_append_getElem h1L, e]
            exact mkD_next HE.out j))
          have B6 := Lib.hid ((B5.out.drew).drew.setCell (p := ⟨w.heap.size, a * 107 + c, Option.none⟩) (Nat.le_refl _) (.bool true))
          clear LX h1L c3 HX
          go_upto_region 7 with fail
          refine Hr.Walk.region (R := fun _ x => x.cell? ⟨wo.heap.size, 0, Option.none⟩ = some (.int .i64 X) ∧ x.cell? ⟨wo.heap.size, 1, Option.none⟩ = some (.int .i64 (a : Int))) (by kernel_rfl) ?_
          refine Hr.Walk.one (i := 0) (by kernel_rfl) rfl (fun K hK => ?_)
          go_simp
          refine hK.out _ _ SZ.out ?_
          clear hK K
          refine Hr.Walk.one (i := 1) (by kernel_rfl) rfl (fun K hK => ?_)
          go_simp
          refine hK.out _ _ SZ.out ?_
          clear hK K
          refine Hr.Walk.one (i := 2) (by kernel_rfl) rfl (fun K hK => ?_)
          go_simp
          refine hK.out _ _ SZ.out ?_
          clear hK K
          refine Hr.Walk.one (i := 3) (by kernel_rfl) rfl (fun K hK => ?_)
          go_simp
          refine hK.out _ _ SZ.out ?_
          clear hK K
          refine Hr.Walk.one (i := 4) (by kernel_rfl) rfl (fun K hK => ?_)
          go_simp
          refine hK.out _ _ SZ.out ?_
          clear hK K
          refine Hr.Walk.one (i := 5) (by kernel_rfl) rfl (fun K hK => ?_)
          go_simp
          refine hK.out _ _ SZ.out ?_
          clear hK K
          refine Hr.Walk.one (i := 6) (by kernel_rfl) rfl (fun K hK => ?_)
          go_simp
          refine hK.out _ _ SZ.out ?_
          clear hK K
          refine Hr.Walk.one (i := 7) (by kernel_rfl) rfl (fun K hK => ?_)
          go_simp
          refine hK.out _ _ SZ.out ?_
          clear hK K
          refine Hr.Walk.one (i := 8) (by kernel_rfl) rfl (fun K hK => ?_)
          go_simp
          refine hK.out _ _ SZ.out ?_
          clear hK K
          refine Hr.Walk.one (i := 9) (by kernel_rfl) rfl (fun K hK => ?_)
          go_simp
          refine hK.out _ _ SZ.out ?_
          clear hK K
          refine Hr.Walk.one (i := 10) (by kernel_rfl) rfl (fun K hK => ?_)
          go_simp
          refine hK.out _ _ SZ.out ?_
          clear hK K
          refine Hr.Walk.one (i := 11) (by kernel_rfl) rfl (fun K hK => ?_)
          go_simp
          refine hK.out _ _ SZ.out ?_
          clear hK K
          refine Hr.Walk.one (i := 12) (by kernel_rfl) rfl (fun K hK => ?_)
          go_simp
          refine hK.out _ _ SZ.out ?_
          clear hK K
          refine Hr.Walk.one (i := 13) (by kernel_rfl) rfl (fun K hK => ?_)
          go_simp
          refine hK.out _ _ SZ.out ?_
          clear hK K
          refine Hr.Walk.one (i := 14) (by kernel_rfl) rfl (fun K hK => ?_)
          go_simp
          refine hK.out _ _ SZ.out ?_
          clear hK K
          refine Hr.Walk.one (i := 15) (by kernel_rfl) rfl (fun K hK => ?_)
          go_simp
          refine hK.out _ _ SZ.out ?_
          clear hK K
          refine Hr.Walk.one (i := 16) (by kernel_rfl) rfl (fun K hK => ?_)
          go_simp
          refine hK.out _ _ SZ.out ?_
          clear hK K
          refine Hr.Walk.one (i := 17) (by kernel_rfl) rfl (fun K hK => ?_)
          go_simp
          refine hK.out _ _ SZ.out ?_
          clear hK K
          refine Hr.Walk.one (i := 18) (by kernel_rfl) rfl (fun K hK => ?_)
          go_simp
          refine hK.out _ _ SZ.out ?_
          clear hK K
          refine Hr.Walk.take (i := 19) (v := ?v6_19) (fun x => x.cell? ⟨wo.heap.size, 0, Option.none⟩ = some (.int .i64 X) ∧ x.cell? ⟨wo.heap.size, 1, Option.none⟩ = some (.int .i64 (a : Int))) (fun _ => True) rfl (by kernel_rfl) (by kernel_rfl) (by kernel_rfl) (fun _ _ _ h => h) (fun _ _ _ _ _ _ => trivial) (fun _ _ _ h => h) (fun _ _ h => h) trivial (Or.inl ⟨by rfl, ?hy6_19⟩) SZ.out SZ.out ?rest6_19
          case hy6_19 => intro x hx; have e0 := hx.1; have e1 := hx.2; clear hx; go_simp; try with_reducible rfl
          (try go_simp)
          refine Hr.Walk.take (i := 20) (v := ?v6_20) (fun x => x.cell? ⟨wo.heap.size, 0, Option.none⟩ = some (.int .i64 X) ∧ x.cell? ⟨wo.heap.size, 1, Option.none⟩ = some (.int .i64 (a : Int))) (fun _ => True) rfl (by kernel_rfl) (by kernel_rfl) (by kernel_rfl) (fun _ _ _ h => h) (fun _ _ _ _ _ _ => trivial) (fun _ _ _ h => h) (fun _ _ h => h) trivial (Or.inl ⟨by rfl, ?hy6_20⟩) SZ.out SZ.out ?rest6_20
          case hy6_20 => intro x hx; have e0 := hx.1; have e1 := hx.2; clear hx; go_simp; try with_reducible rfl
          (try go_simp)
          refine Hr.Walk.take (i := 21) (v := ?v6_21) (fun x => x.cell? ⟨wo.heap.size, 0, Option.none⟩ = some (.int .i64 X) ∧ x.cell? ⟨wo.heap.size, 1, Option.none⟩ = some (.int .i64 (a : Int))) (fun _ => True) rfl (by kernel_rfl) (by kernel_rfl) (by kernel_rfl) (fun _ _ _ h => h) (fun _ _ _ _ _ _ => trivial) (fun _ _ _ h => h) (fun _ _ h => h) trivial (Or.inl ⟨by rfl, ?hy6_21⟩) SZ.out SZ.out ?rest6_21
          case hy6_21 => intro x hx; have e0 := hx.1; have e1 := hx.2; clear hx; go_simp; try with_reducible rfl
          (try go_simp)
          refine Hr.Walk.take (i := 22) (v := ?v6_22) (fun x => x.cell? ⟨wo.heap.size, 0, Option.none⟩ = some (.int .i64 X) ∧ x.cell? ⟨wo.heap.size, 1, Option.none⟩ = some (.int .i64 (a : Int))) (fun _ => True) rfl (by kernel_rfl) (by kernel_rfl) (by kernel_rfl) (fun _ _ _ h => h) (fun _ _ _ _ _ _ => trivial) (fun _ _ _ h => h) (fun _ _ h => h) trivial (Or.inl ⟨by rfl, ?hy6_22⟩) SZ.out SZ.out ?rest6_22
          case hy6_22 => intro x hx; have e0 := hx.1; have e1 := hx.2; clear hx; go_simp; try with_reducible rfl
          (try go_simp)
          refine Hr.Walk.take (i := 23) (v := ?v6_23) (fun x => x.cell? ⟨wo.heap.size, 0, Option.none⟩ = some (.int .i64 X) ∧ x.cell? ⟨wo.heap.size, 1, Option.none⟩ = some (.int .i64 (a : Int))) (fun _ => True) rfl (by kernel_rfl) (by kernel_rfl) (by kernel_rfl) (fun _ _ _ h => h) (fun _ _ _ _ _ _ => trivial) (fun _ _ _ h => h) (fun _ _ h => h) trivial (Or.inl ⟨by rfl, ?hy6_23⟩) SZ.out SZ.out ?rest6_23
          case hy6_23 => intro x hx; have e0 := hx.1; have e1 := hx.2; clear hx; go_simp; try with_reducible rfl
          (try go_simp)
          refine Hr.Walk.one (i := 24) (by kernel_rfl) rfl (fun K hK => ?_)
          go_simp
          refine hK.out _ _ SZ.out ?_
          clear hK K
          refine Hr.Walk.one (i := 25) (by kernel_rfl) rfl (fun K hK => ?_)
          go_simp
          refine hK.out _ _ SZ.out ?_
          clear hK K
          refine Hr.Walk.one (i := 26) (by kernel_rfl) rfl (fun K hK => ?_)
          go_simp
          refine hK.out _ _ SZ.out ?_
          clear hK K
          refine Hr.Walk.one (i := 27) (by kernel_rfl) rfl (fun K hK => ?_)
          go_simp
          refine hK.out _ _ SZ.out ?_
          clear hK K
          refine Hr.Walk.done (by kernel_rfl) ?_ _
          have SY : Hid (w5.drew.drew.cell? ⟨wo.heap.size, 0, Option.none⟩ = some (.int .i64 X) ∧ w5.drew.drew.cell? ⟨wo.heap.size, 1, Option.none⟩ = some (.int .i64 (a : Int))) := Lib.hid ⟨d0, d1⟩
          have SX : Hid ((w5.drew.drew.setCell ⟨w.heap.size, a * 107 + c, Option.none⟩ (.bool true)).cell? ⟨wo.heap.size, 0, Option.none⟩ = some (.int .i64 X) ∧ (w5.drew.drew.setCell ⟨w.heap.size, a * 107 + c, Option.none⟩ (.bool true)).cell? ⟨wo.heap.size, 1, Option.none⟩ = some (.int .i64 (a : Int))) := Lib.hid ⟨(World.cell?_setCell_other _ _ _ _ (fun k => by injection k with k _ _; exact HNE.out k)).trans d0, (World.cell?_setCell_other _ _ _ _ (fun k => by injection k with k _ _; exact HNE.out k)).trans d1⟩
          go_upto_region 9 with fail
          refine Hr.Walk.region (R := fun _ x => x.cell? ⟨wo.heap.size, 0, Option.none⟩ = some (.int .i64 X) ∧ x.cell? ⟨wo.heap.size, 1, Option.none⟩ = some (.int .i64 (a : Int))) (by kernel_rfl) ?_
          refine Hr.Walk.take (i := 0) (v := ?v7_0) (fun x => x.cell? ⟨wo.heap.size, 0, Option.none⟩ = some (.int .i64 X) ∧ x.cell? ⟨wo.heap.size, 1, Option.none⟩ = some (.int .i64 (a : Int))) (fun _ => True) rfl (by kernel_rfl) (by kernel_rfl) (by kernel_rfl) (fun _ _ _ h => h) (fun _ _ _ _ _ _ => trivial) (fun _ _ _ h => h) (fun _ _ h => h) trivial (Or.inl ⟨by rfl, ?hy7_0⟩) SY.out SY.out ?rest7_0
          case hy7_0 => intro x hx; have e0 := hx.1; have e1 := hx.2; clear hx; go_simp; try with_reducible rfl
          (try go_simp)
          refine Hr.Walk.take (i := 1) (v := ?v7_1) (fun x => x.cell? ⟨wo.heap.size, 0, Option.none⟩ = some (.int .i64 X) ∧ x.cell? ⟨wo.heap.size, 1, Option.none⟩ = some (.int .i64 (a : Int))) (fun _ => True) rfl (by kernel_rfl) (by kernel_rfl) (by kernel_rfl) (fun _ _ _ h => h) (fun _ _ _ _ _ _ => trivial) (fun _ _ _ h => h) (fun _ _ h => h) trivial (Or.inl ⟨by rfl, ?hy7_1⟩) SY.out SY.out ?rest7_1
          case hy7_1 => intro x hx; have e0 := hx.1; have e1 := hx.2; clear hx; go_simp; try with_reducible rfl
          (try go_simp)
          refine Hr.Walk.take (i := 2) (v := ?v7_2) (fun x => x.cell? ⟨wo.heap.size, 0, Option.none⟩ = some (.int .i64 X) ∧ x.cell? ⟨wo.heap.size, 1, Option.none⟩ = some (.int .i64 (a : Int))) (fun _ => True) rfl (by kernel_rfl) (by kernel_rfl) (by kernel_rfl) (fun _ _ _ h => h) (fun _ _ _ _ _ _ => trivial) (fun _ _ _ h => h) (fun _ _ h => h) trivial (Or.inl ⟨by rfl, ?hy7_2⟩) SY.out SY.out ?rest7_2
          case hy7_2 => intro x hx; have e0 := hx.1; have e1 := hx.2; clear hx; go_simp; try with_reducible rfl
          (try go_simp)
          refine Hr.Walk.take (i := 3) (v := ?v7_3) (fun x => x.cell? ⟨wo.heap.size, 0, Option.none⟩ = some (.int .i64 X) ∧ x.cell? ⟨wo.heap.size, 1, Option.none⟩ = some (.int .i64 (a : Int))) (fun _ => True) rfl (by kernel_rfl) (by kernel_rfl) (by kernel_rfl) (fun _ _ _ h => h) (fun _ _ _ _ _ _ => trivial) (fun _ _ _ h => h) (fun _ _ h => h) trivial (Or.inl ⟨by rfl, ?hy7_3⟩) SY.out SY.out ?rest7_3
          case hy7_3 => intro x hx; have e0 := hx.1; have e1 := hx.2; clear hx; go_simp; try with_reducible rfl
          (try go_simp)
          refine Hr.Walk.take (i := 4) (v := ?v7_4) (fun x => x.cell? ⟨wo.heap.size, 0, Option.none⟩ = some (.int .i64 X) ∧ x.cell? ⟨wo.heap.size, 1, Option.none⟩ = some (.int .i64 (a : Int))) (fun _ => True) rfl (by kernel_rfl) (by kernel_rfl) (by kernel_rfl) (fun _ _ _ h => h) (fun _ _ _ _ _ _ => trivial) (fun _ _ _ h => h) (fun _ _ h => h) trivial (Or.inl ⟨by rfl, ?hy7_4⟩) SY.out SY.out ?rest7_4
          case hy7_4 => intro x hx; have e0 := hx.1; have e1 := hx.2; clear hx; go_simp; try with_reducible rfl
          (try go_simp)
          refine Hr.Walk.one (i := 5) (by kernel_rfl) rfl (fun K hK => ?_)
          go_simp
          refine hK.out _ _ SY.out ?_
          clear hK K
          refine Hr.Walk.one (i := 6) (by kernel_rfl) rfl (fun K hK => ?_)
          go_simp
          refine hK.out _ _ SY.out ?_
          clear hK K
          refine Hr.Walk.one (i := 7) (by kernel_rfl) rfl (fun K hK => ?_)
          go_simp
          refine hK.out _ _ SX.out ?_
          clear hK K
          refine Hr.Walk.done (by kernel_rfl) ?_ _
          go_wp2
          go_roundw
          case rel => exact ⟨k + 1, by omega, by go_num, HT2, S2, B6⟩
          case measure => simp [intOf]; omega
      · have hkn : k = n := by omega
        subst hkn
        have hF : r = true := by
          have := HT.out
          rw [List.take_of_length_le (by rw [HN.out]; exact Nat.le_refl _)] at this
          rw [← hr.out]; exact this
        subst hF
        go_wp2
        go_ret
        exact ⟨rfl, B.out⟩
end Rck
end Go.Proofs.YtpbbnkgfheafpaaGreatDoor
/-
  recur.goTogether: a rule's lists go with its frequency, and with one another. (Written by gen/gen_rckf.py.)
-/
namespace Go.Proofs.YtpbbnkgfheafpaaGreatDoor
open Go.RowKit
namespace Rck
open Cel
open Rcv (CV IntV DayV LisV RecV)
def startsG (n : Nat) : Code → Bool
  | .region k _ _ => k == n
  | .seq a _ => startsG n a
  | .scope a => startsG n a
  | .block _ a => startsG n a
  | _ => false
def fromG (n : Nat) : Code → Option Code
  | .seq a b => if startsG n a = true then some (.seq a b) else fromG n b
  | c => if startsG n c = true then some c else none
noncomputable def codeT : Code := (Tryz.f22.body.bind (fromG 10)).getD .skip
set_option maxHeartbeats 25600000 in
set_option maxRecDepth 100000 in
theorem gtT (fq oth : Int) (bt r : Bool) (w w1 : World) (g : Nat) (v1 v2 v3 v4 v5 v6 v7 v8 v9 v13 v15 : Value) (a10 a11 a12 a14 : Option Addr) (n10 n11 n12 n14 c10 c11 c12 c14 : Nat) (C : Hid (Cs g w1 [.int .i64 fq, v1, v2, v3, v4, v5, v6, v7, v8, v9, .slice a10 n10 c10, .slice a11 n11 c11, .slice a12 n12 c12, v13, .slice a14 n14 c14, v15])) (B : Hid (Below w.heap.size w w1))
    (hr : Hid (((decide (n10 = 0) || decide (fq ≠ 5)) && (decide (n11 = 0) || !bt) && (decide (n12 = 0) || decide (fq = 7)) && (decide (n14 = 0) || decide (0 < oth))) = r))
    (x0 x2 x3 x4 x5 x8 x9 x10 x11 x12 x13 x14 x15 x16 x17 x18 x19 x20 x21 x22 x23 x24 x25 x26 x27 x28 x29 x30 x31 x32 x33 x34 x35 x36 x37 x38 x39 x40 x41 x42 x43 x44 x45 x46 x47 x48 x49 x50 x51 x52 x53 x54 x55 x56 x57 x58 x59 x60 x61 x62 x63 x64 x65 x66 x67 x68 x69 x70 x71 x72 x73 x74 x75 x76 x77 x78 x79 x80 x81 x82 x83 x84 x85 x86 x87 x88 x89 x90 x91 x92 x93 x94 x95 x96 x97 x98 x99 x100 x101 x102 x103 x104 x105 x106 x107 x108 x109 x110 x111 x112 x113 x114 x115 x116 x117 x118 x119 x120 : Value) : Code.wp Tryz.prog codeT (bodyPost Tryz.prog Tryz.f22 (fun e w' => e = .returned (.bool r) ∧ Below w.heap.size w w')) ⟨List.toArray (x0 :: .pointer (some ⟨g, 0, none⟩) :: x2 :: x3 :: x4 :: x5 :: .bool bt :: .int .i64 oth :: x8 :: x9 :: x10 :: x11 :: x12 :: x13 :: x14 :: x15 :: x16 :: x17 :: x18 :: x19 :: x20 :: x21 :: x22 :: x23 :: x24 :: x25 :: x26 :: x27 :: x28 :: x29 :: x30 :: x31 :: x32 :: x33 :: x34 :: x35 :: x36 :: x37 :: x38 :: x39 :: x40 :: x41 :: x42 :: x43 :: x44 :: x45 :: x46 :: x47 :: x48 :: x49 :: x50 :: x51 :: x52 :: x53 :: x54 :: x55 :: x56 :: x57 :: x58 :: x59 :: x60 :: x61 :: x62 :: x63 :: x64 :: x65 :: x66 :: x67 :: x68 :: x69 :: x70 :: x71 :: x72 :: x73 :: x74 :: x75 :: x76 :: x77 :: x78 :: x79 :: x80 :: x81 :: x82 :: x83 :: x84 :: x85 :: x86 :: x87 :: x88 :: x89 :: x90 :: x91 :: x92 :: x93 :: x94 :: x95 :: x96 :: x97 :: x98 :: x99 :: x100 :: x101 :: x102 :: x103 :: x104 :: x105 :: x106 :: x107 :: x108 :: x109 :: x110 :: x111 :: x112 :: x113 :: x114 :: x115 :: x116 :: x117 :: x118 :: x119 :: x120 :: []), []⟩ w1 := by
  conv => arg 2; whnf
  have l0 := (C.out.2 0 _ rfl).1
  have l10 := (C.out.2 10 _ rfl).1
  have l11 := (C.out.2 11 _ rfl).1
  have l12 := (C.out.2 12 _ rfl).1
  have l14 := (C.out.2 14 _ rfl).1
  by_cases z0 : n10 = 0
  · have y0 : ((n10 : Int) == 0) = true := by subst z0; rfl
    by_cases z1 : n11 = 0
    · have y1 : ((n11 : Int) == 0) = true := by subst z1; rfl
      by_cases z2 : n12 = 0
      · have y2 : ((n12 : Int) == 0) = true := by subst z2; rfl
        by_cases z3 : n14 = 0
        · have y3 : ((n14 : Int) == 0) = true := by subst z3; rfl
          have hF : r = true := by rw [← hr.out]; simp [z0, z1, z2, z3]
          subst hF
          clear hr
          go_wp2
          go_ret
          exact ⟨rfl, B.out⟩
        · have y3 : ((n14 : Int) == 0) = false := beq_eq_false_iff_ne.2 (by omega)
          by_cases q3 : 0 < oth
          · skip
            have hF : r = true := by rw [← hr.out]; simp [z0, z1, z2, z3, q3]
            subst hF
            clear hr
            go_wp2
            go_ret
            exact ⟨rfl, B.out⟩
          · skip
            have hF : r = false := by rw [← hr.out]; simp [z0, z1, z2, z3, q3]
            subst hF
            clear hr
            go_wp2
            go_ret
            exact ⟨rfl, B.out⟩
      · have y2 : ((n12 : Int) == 0) = false := beq_eq_false_iff_ne.2 (by omega)
        by_cases q2 : fq = 7
        · subst q2
          by_cases z3 : n14 = 0
          · have y3 : ((n14 : Int) == 0) = true := by subst z3; rfl
            have hF : r = true := by rw [← hr.out]; simp [z0, z1, z2, z3]
            subst hF
            clear hr
            go_wp2
            go_ret
            exact ⟨rfl, B.out⟩
          · have y3 : ((n14 : Int) == 0) = false := beq_eq_false_iff_ne.2 (by omega)
            by_cases q3 : 0 < oth
            · skip
              have hF : r = true := by rw [← hr.out]; simp [z0, z1, z2, z3, q3]
              subst hF
              clear hr
              go_wp2
              go_ret
              exact ⟨rfl, B.out⟩
            · skip
              have hF : r = false := by rw [← hr.out]; simp [z0, z1, z2, z3, q3]
              subst hF
              clear hr
              go_wp2
              go_ret
              exact ⟨rfl, B.out⟩
        · have p2 : (fq == 7) = false := beq_eq_false_iff_ne.2 q2
          have hF : r = false := by rw [← hr.out]; simp [z0, z1, z2, q2]
          subst hF
          clear hr
          go_wp2
          go_ret
          exact ⟨rfl, B.out⟩
    · have y1 : ((n11 : Int) == 0) = false := beq_eq_false_iff_ne.2 (by omega)
      cases bt with
      | true =>
        have hF : r = false := by rw [← hr.out]; simp [z0, z1]
        subst hF
        clear hr
        go_wp2
        go_ret
        exact ⟨rfl, B.out⟩
      | false =>
        by_cases z2 : n12 = 0
        · have y2 : ((n12 : Int) == 0) = true := by subst z2; rfl
          by_cases z3 : n14 = 0
          · have y3 : ((n14 : Int) == 0) = true := by subst z3; rfl
            have hF : r = true := by rw [← hr.out]; simp [z0, z1, z2, z3]
            subst hF
            clear hr
            go_wp2
            go_ret
            exact ⟨rfl, B.out⟩
          · have y3 : ((n14 : Int) == 0) = false := beq_eq_false_iff_ne.2 (by omega)
            by_cases q3 : 0 < oth
            · skip
              have hF : r = true := by rw [← hr.out]; simp [z0, z1, z2, z3, q3]
              subst hF
              clear hr
              go_wp2
              go_ret
              exact ⟨rfl, B.out⟩
            · skip
              have hF : r = false := by rw [← hr.out]; simp [z0, z1, z2, z3, q3]
              subst hF
              clear hr
              go_wp2
              go_ret
              exact ⟨rfl, B.out⟩
        · have y2 : ((n12 : Int) == 0) = false := beq_eq_false_iff_ne.2 (by omega)
          by_cases q2 : fq = 7
          · subst q2
            by_cases z3 : n14 = 0
            · have y3 : ((n14 : Int) == 0) = true := by subst z3; rfl
              have hF : r = true := by rw [← hr.out]; simp [z0, z1, z2, z3]
              subst hF
              clear hr
              go_wp2
              go_ret
              exact ⟨rfl, B.out⟩
            · have y3 : ((n14 : Int) == 0) = false := beq_eq_false_iff_ne.2 (by omega)
              by_cases q3 : 0 < oth
              · skip
                have hF : r = true := by rw [← hr.out]; simp [z0, z1, z2, z3, q3]
                subst hF
                clear hr
                go_wp2
                go_ret
                exact ⟨rfl, B.out⟩
              · skip
                have hF : r = false := by rw [← hr.out]; simp [z0, z1, z2, z3, q3]
                subst hF
                clear hr
                go_wp2
                go_ret
                exact ⟨rfl, B.out⟩
          · have p2 : (fq == 7) = false := beq_eq_false_iff_ne.2 q2
            have hF : r = false := by rw [← hr.out]; simp [z0, z1, z2, q2]
            subst hF
            clear hr
            go_wp2
            go_ret
            exact ⟨rfl, B.out⟩
  · have y0 : ((n10 : Int) == 0) = false := beq_eq_false_iff_ne.2 (by omega)
    by_cases q0 : fq = 5
    · subst q0
      have hF : r = false := by rw [← hr.out]; simp [z0]
      subst hF
      clear hr
      go_wp2
      go_ret
      exact ⟨rfl, B.out⟩
    · have p0 : (fq == 5) = false := beq_eq_false_iff_ne.2 q0
      have m0 : (fq != 5) = true := by rw [bne, p0]; rfl
      by_cases z1 : n11 = 0
      · have y1 : ((n11 : Int) == 0) = true := by subst z1; rfl
        by_cases z2 : n12 = 0
        · have y2 : ((n12 : Int) == 0) = true := by subst z2; rfl
          by_cases z3 : n14 = 0
          · have y3 : ((n14 : Int) == 0) = true := by subst z3; rfl
            have hF : r = true := by rw [← hr.out]; simp [z0, q0, z1, z2, z3]
            subst hF
            clear hr
            go_wp2
            go_ret
            exact ⟨rfl, B.out⟩
          · have y3 : ((n14 : Int) == 0) = false := beq_eq_false_iff_ne.2 (by omega)
            by_cases q3 : 0 < oth
            · skip
              have hF : r = true := by rw [← hr.out]; simp [z0, q0, z1, z2, z3, q3]
              subst hF
              clear hr
              go_wp2
              go_ret
              exact ⟨rfl, B.out⟩
            · skip
              have hF : r = false := by rw [← hr.out]; simp [z0, q0, z1, z2, z3, q3]
              subst hF
              clear hr
              go_wp2
              go_ret
              exact ⟨rfl, B.out⟩
        · have y2 : ((n12 : Int) == 0) = false := beq_eq_false_iff_ne.2 (by omega)
          by_cases q2 : fq = 7
          · subst q2
            by_cases z3 : n14 = 0
            · have y3 : ((n14 : Int) == 0) = true := by subst z3; rfl
              have hF : r = true := by rw [← hr.out]; simp [z0, q0, z1, z2, z3]
              subst hF
              clear hr
              go_wp2
              go_ret
              exact ⟨rfl, B.out⟩
            · have y3 : ((n14 : Int) == 0) = false := beq_eq_false_iff_ne.2 (by omega)
              by_cases q3 : 0 < oth
              · skip
                have hF : r = true := by rw [← hr.out]; simp [z0, q0, z1, z2, z3, q3]
                subst hF
                clear hr
                go_wp2
                go_ret
                exact ⟨rfl, B.out⟩
              · skip
                have hF : r = false := by rw [← hr.out]; simp [z0, q0, z1, z2, z3, q3]
                subst hF
                clear hr
                go_wp2
                go_ret
                exact ⟨rfl, B.out⟩
          · have p2 : (fq == 7) = false := beq_eq_false_iff_ne.2 q2
            have hF : r = false := by rw [← hr.out]; simp [z0, q0, z1, z2, q2]
            subst hF
            clear hr
            go_wp2
            go_ret
            exact ⟨rfl, B.out⟩
      · have y1 : ((n11 : Int) == 0) = false := beq_eq_false_iff_ne.2 (by omega)
        cases bt with
        | true =>
          have hF : r = false := by rw [← hr.out]; simp [z0, q0, z1]
          subst hF
          clear hr
          go_wp2
          go_ret
          exact ⟨rfl, B.out⟩
        | false =>
          by_cases z2 : n12 = 0
          · have y2 : ((n12 : Int) == 0) = true := by subst z2; rfl
            by_cases z3 : n14 = 0
            · have y3 : ((n14 : Int) == 0) = true := by subst z3; rfl
              have hF : r = true := by rw [← hr.out]; simp [z0, q0, z1, z2, z3]
              subst hF
              clear hr
              go_wp2
              go_ret
              exact ⟨rfl, B.out⟩
            · have y3 : ((n14 : Int) == 0) = false := beq_eq_false_iff_ne.2 (by omega)
              by_cases q3 : 0 < oth
              · skip
                have hF : r = true := by rw [← hr.out]; simp [z0, q0, z1, z2, z3, q3]
                subst hF
                clear hr
                go_wp2
                go_ret
                exact ⟨rfl, B.out⟩
              · skip
                have hF : r = false := by rw [← hr.out]; simp [z0, q0, z1, z2, z3, q3]
                subst hF
                clear hr
                go_wp2
                go_ret
                exact ⟨rfl, B.out⟩
          · have y2 : ((n12 : Int) == 0) = false := beq_eq_false_iff_ne.2 (by omega)
            by_cases q2 : fq = 7
            · subst q2
              by_cases z3 : n14 = 0
              · have y3 : ((n14 : Int) == 0) = true := by subst z3; rfl
                have hF : r = true := by rw [← hr.out]; simp [z0, q0, z1, z2, z3]
                subst hF
                clear hr
                go_wp2
                go_ret
                exact ⟨rfl, B.out⟩
              · have y3 : ((n14 : Int) == 0) = false := beq_eq_false_iff_ne.2 (by omega)
                by_cases q3 : 0 < oth
                · skip
                  have hF : r = true := by rw [← hr.out]; simp [z0, q0, z1, z2, z3, q3]
                  subst hF
                  clear hr
                  go_wp2
                  go_ret
                  exact ⟨rfl, B.out⟩
                · skip
                  have hF : r = false := by rw [← hr.out]; simp [z0, q0, z1, z2, z3, q3]
                  subst hF
                  clear hr
                  go_wp2
                  go_ret
                  exact ⟨rfl, B.out⟩
            · have p2 : (fq == 7) = false := beq_eq_false_iff_ne.2 q2
              have hF : r = false := by rw [← hr.out]; simp [z0, q0, z1, z2, q2]
              subst hF
              clear hr
              go_wp2
              go_ret
              exact ⟨rfl, B.out⟩
noncomputable def codeS : Code := (Tryz.f22.body.bind (fromG 8)).getD .skip
set_option maxHeartbeats 25600000 in
set_option maxRecDepth 100000 in
theorem gtS (fq : Int) (r : Bool) (w w1 : World) (g : Nat) (v1 v2 v3 v4 v5 v15 : Value) (a6 a7 a8 a9 a10 a11 a12 a13 a14 : Option Addr) (n6 n7 n8 n9 n10 n11 n12 n13 n14 c6 c7 c8 c9 c10 c11 c12 c13 c14 : Nat) (C : Hid (Cs g w1 [.int .i64 fq, v1, v2, v3, v4, v5, .slice a6 n6 c6, .slice a7 n7 c7, .slice a8 n8 c8, .slice a9 n9 c9, .slice a10 n10 c10, .slice a11 n11 c11, .slice a12 n12 c12, .slice a13 n13 c13, .slice a14 n14 c14, v15])) (B : Hid (Below w.heap.size w w1)) (HB : Hid (n6 ≤ 1000000 ∧ n7 ≤ 1000000 ∧ n8 ≤ 1000000 ∧ n9 ≤ 1000000 ∧ n10 ≤ 1000000 ∧ n11 ≤ 1000000 ∧ n12 ≤ 1000000 ∧ n13 ≤ 1000000))
    (hr : Hid (((decide (n10 = 0) || decide (fq ≠ 5)) && (decide (n11 = 0) || !decide (fq = 4 ∨ fq = 5 ∨ fq = 6)) && (decide (n12 = 0) || decide (fq = 7)) && (decide (n14 = 0) || decide (0 < ((n6 : Int) + (n7 : Int) + (n8 : Int) + (n9 : Int) + (n10 : Int) + (n11 : Int) + (n12 : Int) + (n13 : Int))))) = r))
    (x0 x2 x3 x4 x5 x6 x7 x8 x9 x10 x11 x12 x13 x14 x15 x16 x17 x18 x19 x20 x21 x22 x23 x24 x25 x26 x27 x28 x29 x30 x31 x32 x33 x34 x35 x36 x37 x38 x39 x40 x41 x42 x43 x44 x45 x46 x47 x48 x49 x50 x51 x52 x53 x54 x55 x56 x57 x58 x59 x60 x61 x62 x63 x64 x65 x66 x67 x68 x69 x70 x71 x72 x73 x74 x75 x76 x77 x78 x79 x80 x81 x82 x83 x84 x85 x86 x87 x88 x89 x90 x91 x92 x93 x94 x95 x96 x97 x98 x99 x100 x101 x102 x103 x104 x105 x106 x107 x108 x109 x110 x111 x112 x113 x114 x115 x116 x117 x118 x119 x120 : Value) : Code.wp Tryz.prog codeS (bodyPost Tryz.prog Tryz.f22 (fun e w' => e = .returned (.bool r) ∧ Below w.heap.size w w')) ⟨List.toArray (x0 :: .pointer (some ⟨g, 0, none⟩) :: x2 :: x3 :: x4 :: x5 :: x6 :: x7 :: x8 :: x9 :: x10 :: x11 :: x12 :: x13 :: x14 :: x15 :: x16 :: x17 :: x18 :: x19 :: x20 :: x21 :: x22 :: x23 :: x24 :: x25 :: x26 :: x27 :: x28 :: x29 :: x30 :: x31 :: x32 :: x33 :: x34 :: x35 :: x36 :: x37 :: x38 :: x39 :: x40 :: x41 :: x42 :: x43 :: x44 :: x45 :: x46 :: x47 :: x48 :: x49 :: x50 :: x51 :: x52 :: x53 :: x54 :: x55 :: x56 :: x57 :: x58 :: x59 :: x60 :: x61 :: x62 :: x63 :: x64 :: x65 :: x66 :: x67 :: x68 :: x69 :: x70 :: x71 :: x72 :: x73 :: x74 :: x75 :: x76 :: x77 :: x78 :: x79 :: x80 :: x81 :: x82 :: x83 :: x84 :: x85 :: x86 :: x87 :: x88 :: x89 :: x90 :: x91 :: x92 :: x93 :: x94 :: x95 :: x96 :: x97 :: x98 :: x99 :: x100 :: x101 :: x102 :: x103 :: x104 :: x105 :: x106 :: x107 :: x108 :: x109 :: x110 :: x111 :: x112 :: x113 :: x114 :: x115 :: x116 :: x117 :: x118 :: x119 :: x120 :: []), []⟩ w1 := by
  conv => arg 2; whnf
  obtain ⟨bt, hbt⟩ : ∃ b, decide (fq = 4 ∨ fq = 5 ∨ fq = 6) = b := ⟨_, rfl⟩
  obtain ⟨oth, hoth⟩ : ∃ b : Int, ((n6 : Int) + (n7 : Int) + (n8 : Int) + (n9 : Int) + (n10 : Int) + (n11 : Int) + (n12 : Int) + (n13 : Int)) = b := ⟨_, rfl⟩
  have HR := Lib.hid (by have q := hr.out; rw [hbt, hoth] at q; exact q)
  have HT := Lib.hid hbt
  have HO := Lib.hid hoth
  clear hr hbt hoth
  have l0 := (C.out.2 0 _ rfl).1
  go_upto_region 8 with fail
  go_cut [6] (fun b wz => b = .bool bt ∧ w1 = wz)
  case first =>
    by_cases q4 : fq = 4
    · have e : bt = true := by rw [← HT.out]; simp [q4]
      subst e q4
      go_wp2
      go_meet
      exact ⟨rfl, rfl⟩
    · have p4 : (fq == 4) = false := beq_eq_false_iff_ne.2 q4
      by_cases q5 : fq = 5
      · have e : bt = true := by rw [← HT.out]; simp [q5]
        subst e q5
        go_wp2
        go_meet
        exact ⟨rfl, rfl⟩
      · have p5 : (fq == 5) = false := beq_eq_false_iff_ne.2 q5
        have e : bt = (fq == 6) := by rw [← HT.out]; by_cases q6 : fq = 6 <;> simp [q4, q5, q6]
        go_wp2
        go_meet
        exact ⟨by rw [e], rfl⟩
  case rest =>
  obtain ⟨rfl, hw1⟩ := hcut
  subst hw1
  clear l0
  have l6 := (C.out.2 6 _ rfl).1
  have l7 := (C.out.2 7 _ rfl).1
  have l8 := (C.out.2 8 _ rfl).1
  have l9 := (C.out.2 9 _ rfl).1
  have l10 := (C.out.2 10 _ rfl).1
  have l11 := (C.out.2 11 _ rfl).1
  have l12 := (C.out.2 12 _ rfl).1
  have l13 := (C.out.2 13 _ rfl).1
  have s2 : IntKind.i64.wrap ((n6 : Int) + (n7 : Int)) = (n6 : Int) + (n7 : Int) := IntWalk.i64_in _ (by have := HB.out; omega)
  have s3 : IntKind.i64.wrap ((n6 : Int) + (n7 : Int) + (n8 : Int)) = (n6 : Int) + (n7 : Int) + (n8 : Int) := IntWalk.i64_in _ (by have := HB.out; omega)
  have s4 : IntKind.i64.wrap ((n6 : Int) + (n7 : Int) + (n8 : Int) + (n9 : Int)) = (n6 : Int) + (n7 : Int) + (n8 : Int) + (n9 : Int) := IntWalk.i64_in _ (by have := HB.out; omega)
  have s5 : IntKind.i64.wrap ((n6 : Int) + (n7 : Int) + (n8 : Int) + (n9 : Int) + (n10 : Int)) = (n6 : Int) + (n7 : Int) + (n8 : Int) + (n9 : Int) + (n10 : Int) := IntWalk.i64_in _ (by have := HB.out; omega)
  have s6 : IntKind.i64.wrap ((n6 : Int) + (n7 : Int) + (n8 : Int) + (n9 : Int) + (n10 : Int) + (n11 : Int)) = (n6 : Int) + (n7 : Int) + (n8 : Int) + (n9 : Int) + (n10 : Int) + (n11 : Int) := IntWalk.i64_in _ (by have := HB.out; omega)
  have s7 : IntKind.i64.wrap ((n6 : Int) + (n7 : Int) + (n8 : Int) + (n9 : Int) + (n10 : Int) + (n11 : Int) + (n12 : Int)) = (n6 : Int) + (n7 : Int) + (n8 : Int) + (n9 : Int) + (n10 : Int) + (n11 : Int) + (n12 : Int) := IntWalk.i64_in _ (by have := HB.out; omega)
  have s8 : IntKind.i64.wrap ((n6 : Int) + (n7 : Int) + (n8 : Int) + (n9 : Int) + (n10 : Int) + (n11 : Int) + (n12 : Int) + (n13 : Int)) = (n6 : Int) + (n7 : Int) + (n8 : Int) + (n9 : Int) + (n10 : Int) + (n11 : Int) + (n12 : Int) + (n13 : Int) := IntWalk.i64_in _ (by have := HB.out; omega)
  go_upto_region 9 with fail
  go_cut [7] (fun u wz => u = .int .i64 oth ∧ w1 = wz)
  case first =>
    go_wp2
    go_meet
    exact ⟨by rw [← HO.out], rfl⟩
  case rest =>
  obtain ⟨rfl, hw1⟩ := hcut
  subst hw1
  rename_i hK
  exact hK _ _ (gtT fq oth bt r w w1 g v1 v2 v3 v4 v5 _ _ _ _ _ v15 a10 a11 a12 a14 n10 n11 n12 n14 c10 c11 c12 c14 C B HR _ _ _ _ _ _ _ _ _ _ _ _ _ _ _ _ _ _ _ _ _ _ _ _ _ _ _ _ _ _ _ _ _ _ _ _ _ _ _ _ _ _ _ _ _ _ _ _ _ _ _ _ _ _ _ _ _ _ _ _ _ _ _ _ _ _ _ _ _ _ _ _ _ _ _ _ _ _ _ _ _ _ _ _ _ _ _ _ _ _ _ _ _ _ _ _ _ _ _ _ _ _ _ _ _ _ _ _ _ _ _ _ _ _ _ _ _ _)
end Rck
end Go.Proofs.YtpbbnkgfheafpaaGreatDoor
/-
  recur.goTogether: a rule's lists go with its frequency, and with one another; the whole call. (Written by gen/gen_rckg.py.)
-/
namespace Go.Proofs.YtpbbnkgfheafpaaGreatDoor
open Go.RowKit
namespace Rck
open Cel
open Rcv (CV IntV DayV LisV RecV)
theorem gtB_eq (x : CV) : gtB x = (x.dy.all (nmB x) && ((decide (x.md.length = 0) || decide (x.fq ≠ 5)) && (decide (x.yd.length = 0) || !decide (x.fq = 4 ∨ x.fq = 5 ∨ x.fq = 6)) && (decide (x.wn.length = 0) || decide (x.fq = 7)) && (decide (x.sp.length = 0) || decide (0 < ((x.sc.length : Int) + (x.mi.length : Int) + (x.hr.length : Int) + (x.dy.length : Int) + (x.md.length : Int) + (x.yd.length : Int) + (x.wn.length : Int) + (x.mo.length : Int)))))) := by
  have e1 : ∀ (L : List Int), decide (L = []) = decide (L.length = 0) := fun L => by simp
  have e2 : decide (¬ (x.sc = [] ∧ x.mi = [] ∧ x.hr = [] ∧ x.dy = [] ∧ x.md = [] ∧ x.yd = [] ∧ x.wn = [] ∧ x.mo = [])) = decide (0 < ((x.sc.length : Int) + (x.mi.length : Int) + (x.hr.length : Int) + (x.dy.length : Int) + (x.md.length : Int) + (x.yd.length : Int) + (x.wn.length : Int) + (x.mo.length : Int))) := by
    rw [decide_eq_decide]
    simp only [← List.length_eq_zero_iff]
    omega
  unfold gtB
  rw [e1, e1, e1, e1, e2, decide_not (p := (x.fq = 4 ∨ x.fq = 5 ∨ x.fq = 6))]
  simp only [Bool.and_assoc]
theorem nm_yes {x : CV} {d : Int × Int} (h : d.1 = 0) : nmB x d = true := by simp [nmB, h]
theorem nm_eq {x : CV} {d : Int × Int} (h : d.1 ≠ 0) : nmB x d = (decide (x.fq = 6 ∨ x.fq = 7) && decide (x.wn.length = 0)) := by
  have e1 : decide (x.wn = []) = decide (x.wn.length = 0) := by simp
  rw [nmB, decide_eq_false h, Bool.false_or, e1]
theorem nm_all {x : CV} {k : Nat} (hk : k < x.dy.length) (h : (x.dy.take k).all (nmB x) = true) (h2 : nmB x x.dy[k] = true) : (x.dy.take (k + 1)).all (nmB x) = true := by
  rw [List.take_succ_eq_append_getElem hk, List.all_append, h, Bool.true_and]
  simpa using h2
theorem nm_none {x : CV} {k : Nat} (hk : k < x.dy.length) (h2 : nmB x x.dy[k] = false) : x.dy.all (nmB x) = false := by
  rw [← Bool.not_eq_true, List.all_eq_true]
  intro h
  rw [h _ (List.getElem_mem hk)] at h2
  cases h2
set_option maxHeartbeats 6400000 in
set_option maxRecDepth 100000 in
theorem gt_to (s6 s7 s8 s9 s10 s11 s12 s13 s14 : Value) (x : CV) (r : Bool) (w : World) (hl : Hid (LisV w x s6 s7 s8 s9 s10 s11 s12 s13 s14)) (hs : Hid (Small x)) (hr : Hid (gtB x = r)) :
    Calls Tryz.prog 22 #[.agg #[.int .i64 x.fq, .int .i64 x.iv, .int .i64 x.ct, .bool x.un, .int .i64 x.ua, .bool x.ut, s6, s7, s8, s9, s10, s11, s12, s13, s14, .int .i64 x.wk]] w fun e w' => e = .returned (.bool r) ∧ Below w.heap.size w w' := by
  obtain ⟨a6, c6, rfl⟩ := hl.out.h6.slice
  obtain ⟨a7, c7, rfl⟩ := hl.out.h7.slice
  obtain ⟨a8, c8, rfl⟩ := hl.out.h8.slice
  obtain ⟨a9, c9, rfl⟩ := hl.out.h9.slice
  obtain ⟨a10, c10, rfl⟩ := hl.out.h10.slice
  obtain ⟨a11, c11, rfl⟩ := hl.out.h11.slice
  obtain ⟨a12, c12, rfl⟩ := hl.out.h12.slice
  obtain ⟨a13, c13, rfl⟩ := hl.out.h13.slice
  obtain ⟨a14, c14, rfl⟩ := hl.out.h14.slice
  have DV := Lib.hid hl.out.h9
  have G := hr.out
  rw [gtB_eq] at G
  have NM : Hid (∀ d : Int × Int, d.1 ≠ 0 → nmB x d = (decide (x.fq = 6 ∨ x.fq = 7) && decide (x.wn.length = 0))) := Lib.hid (fun d h => nm_eq h)
  have HB : Hid (x.sc.length ≤ 1000000 ∧ x.mi.length ≤ 1000000 ∧ x.hr.length ≤ 1000000 ∧ x.dy.length ≤ 1000000 ∧ x.md.length ≤ 1000000 ∧ x.yd.length ≤ 1000000 ∧ x.wn.length ≤ 1000000 ∧ x.mo.length ≤ 1000000) := Lib.hid ⟨hs.out.sc, hs.out.mi, hs.out.hr, hs.out.dy, hs.out.md, hs.out.yd, hs.out.wn, hs.out.mo⟩
  clear hl hs hr
  obtain ⟨n6, h6⟩ : ∃ n, x.sc.length = n := ⟨_, rfl⟩
  obtain ⟨n7, h7⟩ : ∃ n, x.mi.length = n := ⟨_, rfl⟩
  obtain ⟨n8, h8⟩ : ∃ n, x.hr.length = n := ⟨_, rfl⟩
  obtain ⟨n9, h9⟩ : ∃ n, x.dy.length = n := ⟨_, rfl⟩
  obtain ⟨n10, h10⟩ : ∃ n, x.md.length = n := ⟨_, rfl⟩
  obtain ⟨n11, h11⟩ : ∃ n, x.yd.length = n := ⟨_, rfl⟩
  obtain ⟨n12, h12⟩ : ∃ n, x.wn.length = n := ⟨_, rfl⟩
  obtain ⟨n13, h13⟩ : ∃ n, x.mo.length = n := ⟨_, rfl⟩
  obtain ⟨n14, h14⟩ : ∃ n, x.sp.length = n := ⟨_, rfl⟩
  rw [h6, h7, h8, h9, h10, h11, h12, h13] at HB
  rw [h6, h7, h8, h9, h10, h11, h12, h13, h14] at G
  rw [h12] at NM
  rw [h6, h7, h8, h9, h10, h11, h12, h13, h14]
  rw [h9] at DV
  have H9 := Lib.hid h9
  have G := Lib.hid G
  have hb9 : n9 ≤ 1000000 := HB.out.2.2.2.1
  clear h6 h7 h8 h9 h10 h11 h12 h13 h14
  obtain ⟨lg, hlg⟩ : ∃ b, decide (x.fq = 6 ∨ x.fq = 7) = b := ⟨_, rfl⟩
  have HL := Lib.hid hlg
  rw [hlg] at NM
  clear hlg
  go_enter Tryz.func22, Tryz.ntmps22
  go_upto_region 0 with fail
  go_cut [1] (fun p w0 => p = .pointer (some ⟨w.heap.size, 0, none⟩) ∧ Hid (Cs w.heap.size w0 [.int .i64 x.fq, .int .i64 x.iv, .int .i64 x.ct, .bool x.un, .int .i64 x.ua, .bool x.ut, .slice a6 n6 c6, .slice a7 n7 c7, .slice a8 n8 c8, .slice a9 n9 c9, .slice a10 n10 c10, .slice a11 n11 c11, .slice a12 n12 c12, .slice a13 n13 c13, .slice a14 n14 c14, .int .i64 x.wk]) ∧ Hid (Below w.heap.size w w0))
  case first =>
    go_wp2
    go_meet
    exact ⟨rfl, Lib.hid (Cs.new w _ _), Lib.hid ((Below.refl _ _).alloc (Nat.le_refl _) _)⟩
  case rest =>
  obtain ⟨w0, rfl⟩ : ∃ x : World, x = wc := ⟨_, rfl⟩
  obtain ⟨rfl, C, B⟩ := hcut
  have l0 := (C.out.2 0 _ rfl).1
  go_upto_region 1 with fail
  go_cut [3] (fun b wz => b = .bool lg ∧ w0 = wz)
  case first =>
    by_cases q6 : x.fq = 6
    · have e : lg = true := by rw [← HL.out]; simp [q6]
      have p6 : (x.fq == 6) = true := by rw [q6]; rfl
      subst e
      go_wp2
      go_meet
      exact ⟨rfl, rfl⟩
    · have p6 : (x.fq == 6) = false := beq_eq_false_iff_ne.2 q6
      have e : lg = (x.fq == 7) := by rw [← HL.out]; by_cases q7 : x.fq = 7 <;> simp [q6, q7]
      go_wp2
      go_meet
      exact ⟨by rw [e], rfl⟩
  case rest =>
  obtain ⟨rfl, hw0⟩ := hcut
  subst hw0
  have l9 := (C.out.2 9 _ rfl).1
  clear l0
  go_upto_block 0 with fail
  go_cut [] (fun w2 => Hid (x.dy.all (nmB x) = true) ∧ Hid (Cs w.heap.size w2 [.int .i64 x.fq, .int .i64 x.iv, .int .i64 x.ct, .bool x.un, .int .i64 x.ua, .bool x.ut, .slice a6 n6 c6, .slice a7 n7 c7, .slice a8 n8 c8, .slice a9 n9 c9, .slice a10 n10 c10, .slice a11 n11 c11, .slice a12 n12 c12, .slice a13 n13 c13, .slice a14 n14 c14, .int .i64 x.wk]) ∧ Hid (Below w.heap.size w w2))
  case first =>
    by_cases h0 : n9 = 0
    · have HE : Hid (x.dy.all (nmB x) = true) := Lib.hid (by rw [show x.dy = [] from List.length_eq_zero_iff.1 (H9.out.trans h0)]; rfl)
      subst h0
      go_wp2_with fail
      go_loopw [19] (fun iv wr => iv = .int .i64 0 ∧ wr = w0) (fun _ _ => 0)
      case atStart => exact ⟨rfl, rfl⟩
      case round =>
        obtain ⟨rfl, rfl⟩ := hrel
        go_wp2
        go_meet
        exact ⟨HE, C, B⟩
    · obtain ⟨b1, o1, c1, hv, hb1, k1⟩ := DV.out.form (by rw [H9.out]; omega)
      injection hv with hv1 hv2 hv3
      subst hv1
      have K1 : Hid (∀ (j : Nat) (hj : j < x.dy.length), w.cell? ⟨b1, o1 + j * 2, Option.none⟩ = some (.int .i64 x.dy[j].1) ∧ w.cell? ⟨b1, o1 + j * 2 + 1, Option.none⟩ = some (.int .i64 x.dy[j].2)) := Lib.hid k1
      have HB1 := Lib.hid hb1
      clear k1 hv2 hv3 hb1
      go_wp2_with fail
      go_loopw [19] (fun iv wr => ∃ k : Nat, k ≤ n9 ∧ iv = .int .i64 k ∧ Hid ((x.dy.take k).all (nmB x) = true) ∧ Hid (Cs w.heap.size wr [.int .i64 x.fq, .int .i64 x.iv, .int .i64 x.ct, .bool x.un, .int .i64 x.ua, .bool x.ut, .slice a6 n6 c6, .slice a7 n7 c7, .slice a8 n8 c8, .slice (some ⟨b1, o1, none⟩) n9 c9, .slice a10 n10 c10, .slice a11 n11 c11, .slice a12 n12 c12, .slice a13 n13 c13, .slice a14 n14 c14, .int .i64 x.wk]) ∧ Hid (Below w.heap.size w wr)) (fun iv _ => n9 - (intOf iv).toNat)
      case atStart => exact ⟨0, Nat.zero_le _, rfl, Lib.hid (by simp), C, B⟩
      case round =>
        obtain ⟨k, hk, rfl, HT, C2, B2⟩ := hrel
        obtain ⟨wo, rfl⟩ : ∃ wo : World, wo = wr := ⟨_, rfl⟩
        by_cases hlt : k < n9
        · have h1L : k < x.dy.length := by rw [H9.out]; exact hlt
          have g1 := (B2.out.cell (p := ⟨b1, o1 + k * 2, Option.none⟩) HB1.out).trans (K1.out k h1L).1
          have g2 := (B2.out.cell (p := ⟨b1, o1 + k * 2 + 1, Option.none⟩) HB1.out).trans (K1.out k h1L).2
          obtain ⟨X, hX⟩ : ∃ X, x.dy[k].1 = X := ⟨_, rfl⟩
          obtain ⟨Y, hY⟩ : ∃ Y, x.dy[k].2 = Y := ⟨_, rfl⟩
          have HX := Lib.hid hX
          rw [hX] at g1
          rw [hY] at g2
          clear hX hY
          have l12 := (C2.out.2 12 _ rfl).1
          have r0 := C2.out.1
          by_cases x0 : X = 0
          · have e0 : (X != 0) = false := by rw [x0]; rfl
            have HT2 := Lib.hid (nm_all h1L HT.out (nm_yes (HX.out.trans x0)))
            clear HX h1L x0
            go_wp2
            go_roundw
            case rel => exact ⟨k + 1, by omega, by go_num, HT2, Lib.hid (C2.out.alloc _), Lib.hid (B2.out.alloc B2.out.size _)⟩
            case measure => simp [intOf]; omega
          · have e0 : (X != 0) = true := by rw [bne, beq_eq_false_iff_ne.2 x0]; rfl
            have hn := NM.out x.dy[k] (by rw [HX.out]; exact x0)
            cases lg with
            | false =>
              rw [Bool.false_and] at hn
              have hF : r = false := by have q := G.out; rw [nm_none h1L hn, Bool.false_and] at q; exact q.symm
              subst hF
              clear HX h1L x0 hn
              go_wp2
              go_ret
              exact ⟨rfl, B2.out.alloc B2.out.size _⟩
            | true =>
              by_cases z12 : n12 = 0
              · have HT2 := Lib.hid (nm_all h1L HT.out (by rw [hn, z12]; rfl))
                subst z12
                clear HX h1L x0 hn
                go_wp2
                go_roundw
                case rel => exact ⟨k + 1, by omega, by go_num, HT2, Lib.hid (C2.out.alloc _), Lib.hid (B2.out.alloc B2.out.size _)⟩
                case measure => simp [intOf]; omega
              · have hF : r = false := by have q := G.out; rw [nm_none h1L (by rw [hn, decide_eq_false z12]; rfl), Bool.false_and] at q; exact q.symm
                have p12 : (0 : Int) < (n12 : Int) := by omega
                subst hF
                clear HX h1L x0 hn
                go_wp2
                go_ret
                exact ⟨rfl, B2.out.alloc B2.out.size _⟩
        · have hkn : k = n9 := by omega
          have HE : Hid (x.dy.all (nmB x) = true) := Lib.hid (by have q := HT.out; rwa [List.take_of_length_le (by rw [H9.out]; omega)] at q)
          subst hkn
          go_wp2
          go_meet
          exact ⟨HE, C2, B2⟩
  case rest =>
  obtain ⟨w2, rfl⟩ : ∃ x : World, x = wc := ⟨_, rfl⟩
  obtain ⟨HE, C2, B2⟩ := hcut
  rename_i hK
  exact hK _ _ (gtS x.fq r w w2 w.heap.size _ _ _ _ _ _ a6 a7 a8 a9 a10 a11 a12 a13 a14 n6 n7 n8 n9 n10 n11 n12 n13 n14 c6 c7 c8 c9 c10 c11 c12 c13 c14 C2 B2 HB (Lib.hid (by have q := G.out; rw [HE.out, Bool.true_and] at q; exact q)) _ _ _ _ _ _ _ _ _ _ _ _ _ _ _ _ _ _ _ _ _ _ _ _ _ _ _ _ _ _ _ _ _ _ _ _ _ _ _ _ _ _ _ _ _ _ _ _ _ _ _ _ _ _ _ _ _ _ _ _ _ _ _ _ _ _ _ _ _ _ _ _ _ _ _ _ _ _ _ _ _ _ _ _ _ _ _ _ _ _ _ _ _ _ _ _ _ _ _ _ _ _ _ _ _ _ _ _ _ _ _ _ _ _ _ _ _ _ _ _)
end Rck
end Go.Proofs.YtpbbnkgfheafpaaGreatDoor
/-
  recur.Check: whether a rule is right. (Written by gen/gen_rckh.py.)
-/
namespace Go.Proofs.YtpbbnkgfheafpaaGreatDoor
open Go.RowKit
namespace Rck
open Cel
open Rcv (CV IntV DayV LisV RecV)
open Civ (Ahead dY dM dD dnE)
/-- Whether a rule is right. -/
def ckB (x : CV) : Bool := decide (1 ≤ x.fq) && (decide (x.fq ≤ 7) && (decide (1 ≤ x.iv) && (decide (x.iv ≤ 1000) && (decide (0 ≤ x.ct) && (decide (x.ct ≤ 100000) && (decide (0 ≤ x.wk) && (decide (x.wk ≤ 6) && (endB x.un x.ua x.ut x.ct && (lsB x && (dyB x.dy && gtB x))))))))))
def ckE (x : CV) : Int := if ckB x = true then 0 else 21
set_option maxHeartbeats 12800000 in
set_option maxRecDepth 100000 in
theorem ck_to (s6 s7 s8 s9 s10 s11 s12 s13 s14 : Value) (x : CV) (c : Int) (w : World) (hA : Ahead w) (hu1 : -9223372036854775808 ≤ x.ua) (hu2 : x.ua ≤ 9223372036854775807) (hl : Hid (LisV w x s6 s7 s8 s9 s10 s11 s12 s13 s14)) (hs : Hid (Small x)) (hr : Hid (ckE x = c)) :
    Calls Tryz.prog 9 #[.agg #[.int .i64 x.fq, .int .i64 x.iv, .int .i64 x.ct, .bool x.un, .int .i64 x.ua, .bool x.ut, s6, s7, s8, s9, s10, s11, s12, s13, s14, .int .i64 x.wk]] w fun e w' => e = .returned (.int .i64 c) ∧ Below w.heap.size w w' := by
  have HA := Lib.hid hA
  clear hA
  obtain ⟨r, hb⟩ : ∃ r, ckB x = r := ⟨_, rfl⟩
  have HC : Hid (c = if r = true then 0 else 21) := Lib.hid (by rw [← hr.out, ckE, hb])
  have HR := Lib.hid (by have q := hb; unfold ckB at q; exact q)
  clear hr hb
  go_enter Tryz.func9, Tryz.ntmps9
  go_upto_region 0 with fail
  go_cut [1] (fun p w0 => p = .pointer (some ⟨w.heap.size, 0, none⟩) ∧ Hid (Cs w.heap.size w0 [.int .i64 x.fq, .int .i64 x.iv, .int .i64 x.ct, .bool x.un, .int .i64 x.ua, .bool x.ut, s6, s7, s8, s9, s10, s11, s12, s13, s14, .int .i64 x.wk]) ∧ Hid (Below w.heap.size w w0))
  case first =>
    go_wp2
    go_meet
    exact ⟨rfl, Lib.hid (Cs.new w _ _), Lib.hid ((Below.refl _ _).alloc (Nat.le_refl _) _)⟩
  case rest =>
  obtain ⟨w0, rfl⟩ : ∃ x : World, x = wc := ⟨_, rfl⟩
  obtain ⟨rfl, C, B⟩ := hcut
  have LS := Lib.hid (hl.out.below B.out)
  have HA0 := Lib.hid (HA.out.stays B.out)
  clear hl HA
  go_upto_region 1 with fail
  go_cut [3] (fun b w1 => b = .bool r ∧ Hid (Below w.heap.size w w1))
  case first =>
    have l0 := (C.out.2 0 _ rfl).1
    have l1 := (C.out.2 1 _ rfl).1
    have l2 := (C.out.2 2 _ rfl).1
    have l3 := (C.out.2 3 _ rfl).1
    have l4 := (C.out.2 4 _ rfl).1
    have l5 := (C.out.2 5 _ rfl).1
    have l6 := (C.out.2 6 _ rfl).1
    have l7 := (C.out.2 7 _ rfl).1
    have l8 := (C.out.2 8 _ rfl).1
    have l9 := (C.out.2 9 _ rfl).1
    have l10 := (C.out.2 10 _ rfl).1
    have l11 := (C.out.2 11 _ rfl).1
    have l12 := (C.out.2 12 _ rfl).1
    have l13 := (C.out.2 13 _ rfl).1
    have l14 := (C.out.2 14 _ rfl).1
    have l15 := (C.out.2 15 _ rfl).1
    by_cases t0 : 1 ≤ x.fq
    case neg =>
      have e : r = false := by rw [← HR.out, decide_eq_false t0, Bool.false_and]
      subst e
      clear HR
      go_wp2
      go_meet
      exact ⟨rfl, B⟩
    have HR := Lib.hid (by have q := HR.out; rw [decide_eq_true t0, Bool.true_and] at q; exact q)
    by_cases t1 : x.fq ≤ 7
    case neg =>
      have e : r = false := by rw [← HR.out, decide_eq_false t1, Bool.false_and]
      subst e
      clear HR
      go_wp2
      go_meet
      exact ⟨rfl, B⟩
    have HR := Lib.hid (by have q := HR.out; rw [decide_eq_true t1, Bool.true_and] at q; exact q)
    by_cases t2 : 1 ≤ x.iv
    case neg =>
      have e : r = false := by rw [← HR.out, decide_eq_false t2, Bool.false_and]
      subst e
      clear HR
      go_wp2
      go_meet
      exact ⟨rfl, B⟩
    have HR := Lib.hid (by have q := HR.out; rw [decide_eq_true t2, Bool.true_and] at q; exact q)
    by_cases t3 : x.iv ≤ 1000
    case neg =>
      have e : r = false := by rw [← HR.out, decide_eq_false t3, Bool.false_and]
      subst e
      clear HR
      go_wp2
      go_meet
      exact ⟨rfl, B⟩
    have HR := Lib.hid (by have q := HR.out; rw [decide_eq_true t3, Bool.true_and] at q; exact q)
    by_cases t4 : 0 ≤ x.ct
    case neg =>
      have e : r = false := by rw [← HR.out, decide_eq_false t4, Bool.false_and]
      subst e
      clear HR
      go_wp2
      go_meet
      exact ⟨rfl, B⟩
    have HR := Lib.hid (by have q := HR.out; rw [decide_eq_true t4, Bool.true_and] at q; exact q)
    by_cases t5 : x.ct ≤ 100000
    case neg =>
      have e : r = false := by rw [← HR.out, decide_eq_false t5, Bool.false_and]
      subst e
      clear HR
      go_wp2
      go_meet
      exact ⟨rfl, B⟩
    have HR := Lib.hid (by have q := HR.out; rw [decide_eq_true t5, Bool.true_and] at q; exact q)
    by_cases t6 : 0 ≤ x.wk
    case neg =>
      have e : r = false := by rw [← HR.out, decide_eq_false t6, Bool.false_and]
      subst e
      clear HR
      go_wp2
      go_meet
      exact ⟨rfl, B⟩
    have HR := Lib.hid (by have q := HR.out; rw [decide_eq_true t6, Bool.true_and] at q; exact q)
    by_cases t7 : x.wk ≤ 6
    case neg =>
      have e : r = false := by rw [← HR.out, decide_eq_false t7, Bool.false_and]
      subst e
      clear HR
      go_wp2
      go_meet
      exact ⟨rfl, B⟩
    have HR := Lib.hid (by have q := HR.out; rw [decide_eq_true t7, Bool.true_and] at q; exact q)
    obtain ⟨b0, h0⟩ : ∃ b, endB x.un x.ua x.ut x.ct = b := ⟨_, rfl⟩
    have HR := Lib.hid (by have q := HR.out; rw [h0] at q; exact q)
    have H0 := Lib.hid h0
    clear h0
    go_wp2_with fail
    refine (en_to x.fq x.iv x.ua x.ct x.un x.ut b0 s6 s7 s8 s9 s10 s11 s12 s13 s14 (.int .i64 x.wk) _ HA0.out hu1 hu2 H0).mono ?_
    rintro e w1 ⟨rfl, k1⟩
    have C := Lib.hid (C.out.below k1)
    have LS := Lib.hid (LS.out.below k1)
    have B := Lib.hid (bstep B.out k1)
    clear l0 l1 l2 l3 l4 l5 l6 l7 l8 l9 l10 l11 l12 l13 l14 l15 k1
    cases b0 with
    | false =>
      have e : r = false := by rw [← HR.out, Bool.false_and]
      subst e
      clear HR
      go_wp2
      go_meet
      exact ⟨rfl, B⟩
    | true =>
    have HR := Lib.hid (by have q := HR.out; rw [Bool.true_and] at q; exact q)
    have l0 := (C.out.2 0 _ rfl).1
    have l1 := (C.out.2 1 _ rfl).1
    have l2 := (C.out.2 2 _ rfl).1
    have l3 := (C.out.2 3 _ rfl).1
    have l4 := (C.out.2 4 _ rfl).1
    have l5 := (C.out.2 5 _ rfl).1
    have l6 := (C.out.2 6 _ rfl).1
    have l7 := (C.out.2 7 _ rfl).1
    have l8 := (C.out.2 8 _ rfl).1
    have l9 := (C.out.2 9 _ rfl).1
    have l10 := (C.out.2 10 _ rfl).1
    have l11 := (C.out.2 11 _ rfl).1
    have l12 := (C.out.2 12 _ rfl).1
    have l13 := (C.out.2 13 _ rfl).1
    have l14 := (C.out.2 14 _ rfl).1
    have l15 := (C.out.2 15 _ rfl).1
    obtain ⟨b1, h1⟩ : ∃ b, lsB x = b := ⟨_, rfl⟩
    have HR := Lib.hid (by have q := HR.out; rw [h1] at q; exact q)
    have H1 := Lib.hid h1
    clear h1
    go_wp2_with fail
    refine (ls_to s6 s7 s8 s9 s10 s11 s12 s13 s14 x b1 _ LS hs H1).mono ?_
    rintro e w2 ⟨rfl, k2⟩
    have C := Lib.hid (C.out.below k2)
    have LS := Lib.hid (LS.out.below k2)
    have B := Lib.hid (bstep B.out k2)
    clear l0 l1 l2 l3 l4 l5 l6 l7 l8 l9 l10 l11 l12 l13 l14 l15 k2
    cases b1 with
    | false =>
      have e : r = false := by rw [← HR.out, Bool.false_and]
      subst e
      clear HR
      go_wp2
      go_meet
      exact ⟨rfl, B⟩
    | true =>
    have HR := Lib.hid (by have q := HR.out; rw [Bool.true_and] at q; exact q)
    have l0 := (C.out.2 0 _ rfl).1
    have l1 := (C.out.2 1 _ rfl).1
    have l2 := (C.out.2 2 _ rfl).1
    have l3 := (C.out.2 3 _ rfl).1
    have l4 := (C.out.2 4 _ rfl).1
    have l5 := (C.out.2 5 _ rfl).1
    have l6 := (C.out.2 6 _ rfl).1
    have l7 := (C.out.2 7 _ rfl).1
    have l8 := (C.out.2 8 _ rfl).1
    have l9 := (C.out.2 9 _ rfl).1
    have l10 := (C.out.2 10 _ rfl).1
    have l11 := (C.out.2 11 _ rfl).1
    have l12 := (C.out.2 12 _ rfl).1
    have l13 := (C.out.2 13 _ rfl).1
    have l14 := (C.out.2 14 _ rfl).1
    have l15 := (C.out.2 15 _ rfl).1
    obtain ⟨b2, h2⟩ : ∃ b, dyB x.dy = b := ⟨_, rfl⟩
    have HR := Lib.hid (by have q := HR.out; rw [h2] at q; exact q)
    have H2 := Lib.hid h2
    clear h2
    go_wp2_with fail
    refine (dy_to _ x.dy b2 _ LS.out.h9 hs.out.dy H2).mono ?_
    rintro e w3 ⟨rfl, k3⟩
    have C := Lib.hid (C.out.below k3)
    have LS := Lib.hid (LS.out.below k3)
    have B := Lib.hid (bstep B.out k3)
    clear l0 l1 l2 l3 l4 l5 l6 l7 l8 l9 l10 l11 l12 l13 l14 l15 k3
    cases b2 with
    | false =>
      have e : r = false := by rw [← HR.out, Bool.false_and]
      subst e
      clear HR
      go_wp2
      go_meet
      exact ⟨rfl, B⟩
    | true =>
    have HR := Lib.hid (by have q := HR.out; rw [Bool.true_and] at q; exact q)
    have l0 := (C.out.2 0 _ rfl).1
    have l1 := (C.out.2 1 _ rfl).1
    have l2 := (C.out.2 2 _ rfl).1
    have l3 := (C.out.2 3 _ rfl).1
    have l4 := (C.out.2 4 _ rfl).1
    have l5 := (C.out.2 5 _ rfl).1
    have l6 := (C.out.2 6 _ rfl).1
    have l7 := (C.out.2 7 _ rfl).1
    have l8 := (C.out.2 8 _ rfl).1
    have l9 := (C.out.2 9 _ rfl).1
    have l10 := (C.out.2 10 _ rfl).1
    have l11 := (C.out.2 11 _ rfl).1
    have l12 := (C.out.2 12 _ rfl).1
    have l13 := (C.out.2 13 _ rfl).1
    have l14 := (C.out.2 14 _ rfl).1
    have l15 := (C.out.2 15 _ rfl).1
    go_wp2_with fail
    refine (gt_to s6 s7 s8 s9 s10 s11 s12 s13 s14 x r _ LS hs HR).mono ?_
    rintro e w4 ⟨rfl, k4⟩
    have C := Lib.hid (C.out.below k4)
    have LS := Lib.hid (LS.out.below k4)
    have B := Lib.hid (bstep B.out k4)
    clear l0 l1 l2 l3 l4 l5 l6 l7 l8 l9 l10 l11 l12 l13 l14 l15 k4
    go_wp2
    go_meet
    exact ⟨rfl, B⟩
  case rest =>
  obtain ⟨w1, rfl⟩ : ∃ x : World, x = wc := ⟨_, rfl⟩
  obtain ⟨rfl, B1⟩ := hcut
  cases r with
  | false =>
    have hc : c = 21 := by rw [HC.out]; rfl
    subst hc
    go_wp2
    go_ret
    exact ⟨rfl, B1.out⟩
  | true =>
    have hc : c = 0 := by rw [HC.out]; rfl
    subst hc
    go_wp2
    go_ret
    exact ⟨rfl, B1.out⟩
end Rck
end Go.Proofs.YtpbbnkgfheafpaaGreatDoor
