/-
  Several texts in one (FilM, FilD).
-/
import Derived.Test.YtpbbnkgfheafpaaGreatDoorBdFa
import Derived.Test.YtpbbnkgfheafpaaGreatDoorBdT
import Derived.Test.YtpbbnkgfheafpaaGreatDoorBdK1
/-
  Package filter, plain words: what a rule lets, a time's period, a period's span.
-/
namespace Go.Proofs.YtpbbnkgfheafpaaGreatDoor
open Go.RowKit
namespace Fil
open Rcv (CV)
open Rck (ckE ckB)
open Civ (numV numE dY dM dD dnE ydV)
open Wk (noY noN noE wkV wkE nthV nthB)
/-- How many days a year has. -/
def ylen (y : Int) : Int := if Cal.long y = true then 366 else 365
/-- The first day of a month that is counted from year 0 on; of a year; of a year's first week. -/
def mfV (p : Int) : Int := numV (p / 12) (p - 12 * (p / 12) + 1) 1
def mfO (p : Int) : Bool := decide (numE (p / 12) (p - 12 * (p / 12) + 1) 1 = 0)
def yfV (y : Int) : Int := numV y 1 1
def yfO (y : Int) : Bool := decide (numE y 1 1 = 0)
def wfV (y k : Int) : Int := numV y 1 4 - (Cal.wday (numV y 1 4) - k + 7) % 7
def wfO (y : Int) : Bool := decide (numE y 1 4 = 0)
/-- A day is the so-many-th of its weekday, which a number says. -/
def mthB (x : CV) : Bool := decide (x.fq = 6) || decide (x.mo ≠ [])
def fromV (x : CV) (d : Int) : Int := if mthB x = true then mfV (12 * dY d + dM d - 1) else yfV (dY d)
def behV (x : CV) (d : Int) : Int := if mthB x = true then mfV (12 * dY d + dM d - 1 + 1) else yfV (dY d + 1)
def nthIs (x : CV) (d : Int) (q : Int × Int) : Bool := nthB (fromV x d) (behV x d - 1) q.1 q.2 && decide (nthV (fromV x d) (behV x d - 1) q.1 q.2 = d)
/-- The year whose weeks are counted. -/
def wkY (x : CV) (d : Int) : Int := if 1 ≤ noY d x.wk ∧ noY d x.wk ≤ 9999 then noY d x.wk else 400
def lwB (x : CV) (d : Int) : Bool := ewB x.wn (noN d x.wk) (wkV (wkY x d) x.wk)
def lnB (x : CV) (d : Int) : Bool := (decide (x.mo = []) || x.mo.contains (dM d)) && ((decide (x.md = []) || ewB x.md (dD d) (Cal.mlen (dY d) (dM d))) && ((decide (x.yd = []) || ewB x.yd (ydV d) (ylen (dY d))) && (decide (x.wn = []) || lwB x d)))
def dayB (x : CV) (d : Int) (q : Int × Int) : Bool := decide (q.2 = Cal.wday d) && (decide (q.1 = 0) || nthIs x d q)
def ldB (x : CV) (d : Int) : Bool := decide (x.dy = []) || x.dy.any (dayB x d)
def llB (x : CV) (c d : Int) : Bool := if x.yd ≠ [] ∨ x.md ≠ [] ∨ x.dy ≠ [] then true else if x.wn ≠ [] ∨ x.fq = 5 then decide (Cal.wday d = Cal.wday c) else if x.fq = 7 ∧ x.mo = [] then decide (dD d = dD c ∧ dM d = dM c) else if x.fq = 6 ∨ x.fq = 7 then decide (dD d = dD c) else true
def lcB (x : CV) (s t : Int) : Bool := onB x.sc (decide (1 < x.fq)) (s % 86400 % 60) (t % 86400 % 60) && (onB x.mi (decide (2 < x.fq)) (s % 86400 / 60 % 60) (t % 86400 / 60 % 60) && onB x.hr (decide (3 < x.fq)) (s % 86400 / 3600) (t % 86400 / 3600))
/-- What a right rule lets of two times that count. -/
def letQ (x : CV) (s t : Int) : Bool := lcB x s t && (lnB x (t / 86400) && (ldB x (t / 86400) && llB x (s / 86400) (t / 86400)))
def letP (x : CV) (s t : Int) : Bool := ckB x && (moO s && (moO t && letQ x s t))
/-- A time's period, by the frequency. -/
def perQ (x : CV) (t : Int) : Int := if x.fq = 1 then t else if x.fq = 2 then t / 60 else if x.fq = 3 then t / 3600 else if x.fq = 4 then t / 86400 else if x.fq = 5 then (t / 86400 + 4 - x.wk) / 7 else if x.fq = 6 then 12 * dY (t / 86400) + dM (t / 86400) - 1 else if x.wn = [] then dY (t / 86400) else noY (t / 86400) x.wk
def perV (x : CV) (t : Int) : Int := if ckB x = true ∧ moO t = true then perQ x t else 0
def perE (x : CV) (t : Int) : Int := if ckB x = true then (if moO t = true then 0 else 23) else 21
/-- A period's first time, the one behind its last, and whether both are days of the calendar. -/
def spA (x : CV) (p : Int) : Int := if x.fq = 1 then p else if x.fq = 2 then p * 60 else if x.fq = 3 then p * 3600 else if x.fq = 4 then p * 86400 else if x.fq = 5 then (p * 7 - 4 + x.wk) * 86400 else if x.fq = 6 then mfV p * 86400 else if x.wn = [] then yfV p * 86400 else wfV p x.wk * 86400
def spZ (x : CV) (p : Int) : Int := if x.fq = 1 then p + 1 else if x.fq = 2 then (p + 1) * 60 else if x.fq = 3 then (p + 1) * 3600 else if x.fq = 4 then (p + 1) * 86400 else if x.fq = 5 then (p * 7 - 4 + x.wk + 7) * 86400 else if x.fq = 6 then mfV (p + 1) * 86400 else if x.wn = [] then yfV (p + 1) * 86400 else wfV (p + 1) x.wk * 86400
def spO (x : CV) (p : Int) : Bool := if x.fq ≤ 5 then true else if x.fq = 6 then mfO p && mfO (p + 1) else if x.wn = [] then yfO p && yfO (p + 1) else wfO p && wfO (p + 1)
def farB (p : Int) : Bool := decide (p < -1099511627776 ∨ 1099511627776 < p)
def spQ (x : CV) (p : Int) : Bool := !farB p && (spO x p && (moO (spA x p) && moO (spZ x p - 1)))
def spE (x : CV) (p : Int) : Int := if ckB x = true then (if spQ x p = true then 0 else 23) else 21
def spF (x : CV) (p : Int) : Int := if ckB x = true ∧ spQ x p = true then spA x p else 0
def spT (x : CV) (p : Int) : Int := if ckB x = true ∧ spQ x p = true then spZ x p - 1 else 0
theorem numV_bd (y m d : Int) : -719528 ≤ numV y m d ∧ numV y m d ≤ 2933262 := by
  rw [numV]
  split
  · rename_i h
    have h := of_decide_eq_true h
    have m12 := Cal.mlen_pos (y := y) (m := m) (by omega)
    obtain ⟨_, _, _, _, a, b⟩ := Civ.num_bd h.1 h.2.1 m12.1 m12.2 h.2.2.1 h.2.2.2
    exact ⟨a, b⟩
  · omega
theorem mo_bd {t : Int} (h : moO t = true) : -719162 ≤ t / 86400 ∧ t / 86400 < 2932897 ∧ dnE (t / 86400) = 0 ∧ 1 ≤ dY (t / 86400) ∧ dY (t / 86400) ≤ 9999 := by
  have q := of_decide_eq_true h
  have e : -719528 ≤ t / 86400 ∧ t / 86400 ≤ 2933262 := by
    have := q.1
    rw [dnE] at this
    by_cases c : -719528 ≤ t / 86400 ∧ t / 86400 ≤ 2933262
    · exact c
    · rw [if_neg c] at this; omega
  have y := q.2
  rw [dY, if_pos e] at y
  obtain ⟨a, b, _, _⟩ := Cal.yr_spec e.1 e.2
  have k1 := Cal.ny_mono (a := 1) (b := Cal.yr (t / 86400)) y.1
  have k2 := Cal.ny_mono (a := Cal.yr (t / 86400) + 1) (b := 10000) (by omega)
  have c1 : Cal.ny 1 = -719162 := by decide +kernel
  have c2 : Cal.ny 10000 = 2932897 := by decide +kernel
  exact ⟨by omega, by omega, q.1, q.2⟩
theorem mo_of {t : Int} (h1 : -719162 ≤ t / 86400) (h2 : t / 86400 < 2932897) : moO t = true := by
  have e : -719528 ≤ t / 86400 ∧ t / 86400 ≤ 2933262 := by omega
  obtain ⟨a, b, _, _⟩ := Cal.yr_spec e.1 e.2
  have c1 : Cal.ny 1 = -719162 := by decide +kernel
  have c2 : Cal.ny 10000 = 2932897 := by decide +kernel
  have y1 := Cal.yr_le (n := t / 86400) (y := 1) e.1 e.2 (by omega)
  have y2 := Cal.yr_lt (n := t / 86400) (y := 10000) e.1 e.2 (by omega)
  exact decide_eq_true (by rw [dnE, if_pos e, dY, if_pos e]; omega)
theorem mo_iff (t : Int) : moO t = decide (-719162 ≤ t / 86400 ∧ t / 86400 < 2932897) := by
  by_cases h : -719162 ≤ t / 86400 ∧ t / 86400 < 2932897
  · rw [mo_of h.1 h.2, decide_eq_true h]
  · rw [decide_eq_false h]
    rw [← Bool.not_eq_true]
    intro q
    have := mo_bd q
    omega
end Fil
end Go.Proofs.YtpbbnkgfheafpaaGreatDoor
/-
  Package filter: placeOf, monthDay, yearDay, firstWeek, between.
-/
namespace Go.Proofs.YtpbbnkgfheafpaaGreatDoor
open Go.RowKit
namespace Fil
open Civ (numV numE dY dM dD dnE Ahead)
open Cel
theorem numE_04 (y m d : Int) : numE y m d = 0 ∨ numE y m d = 4 := by rw [numE]; split <;> simp
set_option maxHeartbeats 1600000 in
theorem pl_to (y m d v : Int) (o : Bool) (w : World) (hA : Ahead w) (i1 : -9223372036854775808 ≤ d) (i2 : d ≤ 9223372036854775807) (h1 : Hid (numV y m d = v)) (h2 : Hid (decide (numE y m d = 0) = o)) :
    Calls Tryz.prog 78 #[.int .i64 y, .int .i64 m, .int .i64 d] w fun e w' => e = .returned (.agg #[.int .i64 v, .bool o]) ∧ Below w.heap.size w w' := by
  have HA := Lib.hid hA
  clear hA
  obtain ⟨c, hc⟩ : ∃ c, numE y m d = c := ⟨_, rfl⟩
  have c04 := numE_04 y m d
  rw [hc] at c04
  have HC := Lib.hid hc
  have HO := Lib.hid (show decide (c = 0) = o by rw [← hc]; exact h2.out)
  clear hc h2
  go_enter Tryz.func78, Tryz.ntmps78
  go_upto_region 0 with fail
  go_cut [6] (fun p wz => p = .pointer (some ⟨w.heap.size, 0, none⟩) ∧ Hid (Cs w.heap.size wz [.int .i64 0, .bool false]) ∧ Hid (Below w.heap.size w wz))
  case first =>
    go_wp2
    go_meet
    exact ⟨rfl, Lib.hid (Cs.new w [.int .i64 0, .bool false] _), Lib.hid ((Below.refl _ _).alloc (Nat.le_refl _) _)⟩
  case rest =>
  obtain ⟨w1, rfl⟩ : ∃ x : World, x = wc := ⟨_, rfl⟩
  obtain ⟨rfl, C, B⟩ := hcut
  go_wp2_with fail
  refine (Civ.number_any y m d _ (HA.out.stays B.out) i1 i2).mono ?_
  rintro e w2 ⟨rfl, k⟩
  have C := Lib.hid (C.out.below k)
  have B := Lib.hid (bstep B.out k)
  clear k
  rw [h1.out, HC.out]
  have c0 := (C.out.2 0 _ rfl).1
  have f0 := (C.out.2 0 _ rfl).2
  have c1 := (C.out.2 1 _ rfl).1
  have f1 := (C.out.2 1 _ rfl).2
  rcases c04 with rfl | rfl
  · obtain rfl := HO.out
    go_wp2
    refine bodyPost_ret (v := .agg #[.int .i64 v, .bool true]) (resM ((C.out.set 0 (by simp) (.int .i64 v)).set 1 (by simp) (.bool true)) (fun W h => ?_)) rfl ⟨rfl, (B.out.setCell (Nat.le_refl _) _).setCell (Nat.le_refl _) _⟩
    have t0 := (h.2 0 _ rfl).1
    have t1 := (h.2 1 _ rfl).1
    simp [results, Tryz.results78, go_sem, t0, t1]
  · obtain rfl := HO.out
    go_wp2
    refine bodyPost_ret (v := .agg #[.int .i64 v, .bool false]) (resM ((C.out.set 0 (by simp) (.int .i64 v)).set 1 (by simp) (.bool false)) (fun W h => ?_)) rfl ⟨rfl, (B.out.setCell (Nat.le_refl _) _).setCell (Nat.le_refl _) _⟩
    have t0 := (h.2 0 _ rfl).1
    have t1 := (h.2 1 _ rfl).1
    simp [results, Tryz.results78, go_sem, t0, t1]
theorem mod_eq (p : Int) (_h : -1000000000000 ≤ p) : p - 12 * (p / 12) + 1 = p % 12 + 1 := by omega
set_option maxHeartbeats 1600000 in
theorem md_to (p v : Int) (o : Bool) (w : World) (hA : Ahead w) (i1 : -1000000000000000 ≤ p) (i2 : p ≤ 1000000000000000) (h1 : Hid (mfV p = v)) (h2 : Hid (mfO p = o)) :
    Calls Tryz.prog 65 #[.int .i64 p] w fun e w' => e = .returned (.agg #[.int .i64 v, .bool o]) ∧ Below w.heap.size w w' := by
  have HA := Lib.hid hA
  clear hA
  have H1 := Lib.hid (show numV (p / 12) (p - 12 * (p / 12) + 1) 1 = v from h1.out)
  have H2 := Lib.hid (show decide (numE (p / 12) (p - 12 * (p / 12) + 1) 1 = 0) = o from h2.out)
  clear h1 h2
  obtain ⟨q, hq⟩ : ∃ q, p / 12 = q := ⟨_, rfl⟩
  have qb : -1000000000000000 ≤ q ∧ q ≤ 1000000000000000 ∧ 0 ≤ p - 12 * q ∧ p - 12 * q ≤ 11 := by omega
  rw [hq] at H1 H2
  have HQ := Lib.hid hq
  clear hq
  obtain ⟨qb1, qb2, qb3, qb4⟩ := qb
  go_enter Tryz.func65, Tryz.ntmps65
  go_upto_region 0 with fail
  go_cut [2] (fun p wz => p = .pointer (some ⟨w.heap.size, 0, none⟩) ∧ Hid (Cs w.heap.size wz [.int .i64 0, .bool false]) ∧ Hid (Below w.heap.size w wz))
  case first =>
    go_wp2
    go_meet
    exact ⟨rfl, Lib.hid (Cs.new w [.int .i64 0, .bool false] _), Lib.hid ((Below.refl _ _).alloc (Nat.le_refl _) _)⟩
  case rest =>
  obtain ⟨w1, rfl⟩ : ∃ x : World, x = wc := ⟨_, rfl⟩
  obtain ⟨rfl, C, B⟩ := hcut
  go_wp2_with fail
  refine (quo_to p 12 _ ⟨i1, i2⟩ (by decide)).mono ?_
  rintro e w2 ⟨rfl, rfl⟩
  rw [HQ.out]
  go_wp2_with fail
  refine (quo_to p 12 _ ⟨i1, i2⟩ (by decide)).mono ?_
  rintro e w2 ⟨rfl, rfl⟩
  rw [HQ.out]
  go_wp2_with fail
  refine (pl_to q (p - 12 * q + 1) 1 v o _ (HA.out.stays B.out) (by decide) (by decide) H1 H2).mono ?_
  rintro e w2 ⟨rfl, k⟩
  have C := Lib.hid (C.out.below k)
  have B := Lib.hid (bstep B.out k)
  clear k
  have c0 := (C.out.2 0 _ rfl).1
  have f0 := (C.out.2 0 _ rfl).2
  have c1 := (C.out.2 1 _ rfl).1
  have f1 := (C.out.2 1 _ rfl).2
  go_wp2
  refine bodyPost_ret (v := .agg #[.int .i64 v, .bool o]) (resM ((C.out.set 0 (by simp) (.int .i64 v)).set 1 (by simp) (.bool o)) (fun W h => ?_)) rfl ⟨rfl, (B.out.setCell (Nat.le_refl _) _).setCell (Nat.le_refl _) _⟩
  have t0 := (h.2 0 _ rfl).1
  have t1 := (h.2 1 _ rfl).1
  simp [results, Tryz.results65, go_sem, t0, t1]
set_option maxHeartbeats 1600000 in
theorem yd_to (y v : Int) (o : Bool) (w : World) (hA : Ahead w) (h1 : Hid (yfV y = v)) (h2 : Hid (yfO y = o)) :
    Calls Tryz.prog 66 #[.int .i64 y] w fun e w' => e = .returned (.agg #[.int .i64 v, .bool o]) ∧ Below w.heap.size w w' := by
  have HA := Lib.hid hA
  clear hA
  have H1 := Lib.hid (show numV y 1 1 = v from h1.out)
  have H2 := Lib.hid (show decide (numE y 1 1 = 0) = o from h2.out)
  clear h1 h2
  go_enter Tryz.func66, Tryz.ntmps66
  go_upto_region 0 with fail
  go_cut [2] (fun p wz => p = .pointer (some ⟨w.heap.size, 0, none⟩) ∧ Hid (Cs w.heap.size wz [.int .i64 0, .bool false]) ∧ Hid (Below w.heap.size w wz))
  case first =>
    go_wp2
    go_meet
    exact ⟨rfl, Lib.hid (Cs.new w [.int .i64 0, .bool false] _), Lib.hid ((Below.refl _ _).alloc (Nat.le_refl _) _)⟩
  case rest =>
  obtain ⟨w1, rfl⟩ : ∃ x : World, x = wc := ⟨_, rfl⟩
  obtain ⟨rfl, C, B⟩ := hcut
  go_wp2_with fail
  refine (pl_to y 1 1 v o _ (HA.out.stays B.out) (by decide) (by decide) H1 H2).mono ?_
  rintro e w2 ⟨rfl, k⟩
  have C := Lib.hid (C.out.below k)
  have B := Lib.hid (bstep B.out k)
  clear k
  have c0 := (C.out.2 0 _ rfl).1
  have f0 := (C.out.2 0 _ rfl).2
  have c1 := (C.out.2 1 _ rfl).1
  have f1 := (C.out.2 1 _ rfl).2
  go_wp2
  refine bodyPost_ret (v := .agg #[.int .i64 v, .bool o]) (resM ((C.out.set 0 (by simp) (.int .i64 v)).set 1 (by simp) (.bool o)) (fun W h => ?_)) rfl ⟨rfl, (B.out.setCell (Nat.le_refl _) _).setCell (Nat.le_refl _) _⟩
  have t0 := (h.2 0 _ rfl).1
  have t1 := (h.2 1 _ rfl).1
  simp [results, Tryz.results66, go_sem, t0, t1]
set_option maxHeartbeats 3200000 in
theorem fw_to (y k v : Int) (o : Bool) (w : World) (hA : Ahead w) (hk1 : 0 ≤ k) (hk2 : k ≤ 6) (h1 : Hid (wfV y k = v)) (h2 : Hid (wfO y = o)) :
    Calls Tryz.prog 67 #[.int .i64 y, .int .i64 k] w fun e w' => e = .returned (.agg #[.int .i64 v, .bool o]) ∧ Below w.heap.size w w' := by
  have HA := Lib.hid hA
  clear hA
  obtain ⟨n, hn⟩ : ∃ n, numV y 1 4 = n := ⟨_, rfl⟩
  obtain ⟨d, hd⟩ : ∃ d, Cal.wday n = d := ⟨_, rfl⟩
  have nb := numV_bd y 1 4
  rw [hn] at nb
  have db := Civ.wd_bd n
  have H0 := Lib.hid hn
  have H1 := Lib.hid (show n - (d - k + 7) % 7 = v by rw [← hd, ← hn]; exact h1.out)
  have H2 := Lib.hid (show decide (numE y 1 4 = 0) = o from h2.out)
  have HD := Lib.hid hd
  have b1 : 0 ≤ d ∧ d ≤ 6 := by rw [← hd]; unfold Cal.wday; omega
  clear h1 h2 hn hd db
  obtain ⟨b1, b2⟩ := b1
  obtain ⟨nb1, nb2⟩ := nb
  go_enter Tryz.func67, Tryz.ntmps67
  go_upto_region 0 with fail
  go_cut [4] (fun p wz => p = .pointer (some ⟨w.heap.size, 0, none⟩) ∧ Hid (Cs w.heap.size wz [.int .i64 0, .bool false]) ∧ Hid (Below w.heap.size w wz))
  case first =>
    go_wp2
    go_meet
    exact ⟨rfl, Lib.hid (Cs.new w [.int .i64 0, .bool false] _), Lib.hid ((Below.refl _ _).alloc (Nat.le_refl _) _)⟩
  case rest =>
  obtain ⟨w1, rfl⟩ : ∃ x : World, x = wc := ⟨_, rfl⟩
  obtain ⟨rfl, C, B⟩ := hcut
  go_upto_region 1 with fail
  go_cut [5] (fun p wz => ∃ g, p = .pointer (some ⟨g, 0, none⟩) ∧ w.heap.size < g ∧ Hid (Cs g wz [.int .i64 n, .bool o]) ∧ Hid (Cs w.heap.size wz [.int .i64 0, .bool false]) ∧ Hid (Below w.heap.size w wz))
  case first =>
    go_wp2_with fail
    refine (pl_to y 1 4 n o _ (HA.out.stays B.out) (by decide) (by decide) H0 H2).mono ?_
    rintro e w2 ⟨rfl, k⟩
    have C := Lib.hid (C.out.below k)
    have B := Lib.hid (bstep B.out k)
    clear k
    have lt := C.out.1
    go_wp2
    go_meet
    exact ⟨_, rfl, by omega, Lib.hid (Cs.new w2 [.int .i64 n, .bool o] _), Lib.hid (C.out.alloc _), Lib.hid (B.out.alloc B.out.size _)⟩
  case rest =>
  obtain ⟨w2, rfl⟩ : ∃ x : World, x = wc := ⟨_, rfl⟩
  clear C B
  obtain ⟨g, rfl, hg, G, C, B⟩ := hcut
  have g0 := (G.out.2 0 _ rfl).1
  have g1 := (G.out.2 0 _ rfl).2
  have r1 : (d - k + 7).tmod 7 = (d - k + 7) % 7 := Int.tmod_eq_emod_of_nonneg (by omega)
  have r2 : IntKind.i64.wrap (d - k) = d - k := IntWalk.i64_in _ (by omega)
  have r3 : IntKind.i64.wrap (d - k + 7) = d - k + 7 := IntWalk.i64_in _ (by omega)
  have r5 : (d - k + 7) % 7 = (d - k) % 7 := by omega
  have r6 : n - (d - k) % 7 = v := by rw [← H1.out]; omega
  have r4 : IntKind.i64.wrap v = v := IntWalk.i64_in _ (by omega)
  go_upto_region 2 with fail
  go_cut [5] (fun p wz => p = .pointer (some ⟨g, 0, none⟩) ∧ Hid (Cs g wz [.int .i64 v, .bool o]) ∧ Hid (Cs w.heap.size wz [.int .i64 0, .bool false]) ∧ Hid (Below w.heap.size w wz))
  case first =>
    go_region_with ((go_at_call 42; (refine (Civ.weekday_any _ _).mono ?_); rintro e w5 ⟨rfl, rfl⟩; rw [HD.out]))
    all_goals go_wp2
    all_goals go_meet
    all_goals exact ⟨by trivial, Lib.hid ((G.out.set 0 (by simp) _).drewN 1), Lib.hid ((C.out.other (by omega) _).drewN 1), Lib.hid (bdrew (B.out.setCell (show w.heap.size ≤ g by omega) _) 1)⟩
  case rest =>
  obtain ⟨w3, rfl⟩ : ∃ x : World, x = wc := ⟨_, rfl⟩
  clear C B G g0 g1
  obtain ⟨rfl, G, C, B⟩ := hcut
  have g0 := (G.out.2 0 _ rfl).1
  have g1 := (G.out.2 1 _ rfl).1
  have c0 := (C.out.2 0 _ rfl).1
  have f0 := (C.out.2 0 _ rfl).2
  have c1 := (C.out.2 1 _ rfl).1
  have f1 := (C.out.2 1 _ rfl).2
  go_wp2
  refine bodyPost_ret (v := .agg #[.int .i64 v, .bool o]) (resM ((C.out.set 0 (by simp) (.int .i64 v)).set 1 (by simp) (.bool o)) (fun W h => ?_)) rfl ⟨rfl, (B.out.setCell (Nat.le_refl _) _).setCell (Nat.le_refl _) _⟩
  have t0 := (h.2 0 _ rfl).1
  have t1 := (h.2 1 _ rfl).1
  simp [results, Tryz.results67, go_sem, t0, t1]
set_option maxHeartbeats 1600000 in
theorem bt_to (a b : Int) (p q : Bool) (w : World) (ha : -1000000000 ≤ a ∧ a ≤ 1000000000) (hb : -1000000000 ≤ b ∧ b ≤ 1000000000) :
    Calls Tryz.prog 64 #[.agg #[.int .i64 a, .bool p], .agg #[.int .i64 b, .bool q]] w fun e w' => e = .returned (.tuple #[.int .i64 (a * 86400), .int .i64 (b * 86400), .bool (p && q)]) ∧ Below w.heap.size w w' := by
  obtain ⟨a1, a2⟩ := ha
  obtain ⟨b1, b2⟩ := hb
  cases p with
  | true =>
    go_enter Tryz.func64, Tryz.ntmps64
    go_wp2_with fail
    go_quiet (fail)
    go_wp2
    go_ret3
    refine ⟨by simp, ?_⟩
    repeat (first | exact Below.refl _ _ | refine Below.setCell ?_ (by simp) _ | refine below_drewN ?_ _ | refine Below.drew ?_ | refine Below.alloc ?_ (by simp; try omega) _)
  | false =>
    go_enter Tryz.func64, Tryz.ntmps64
    go_wp2_with fail
    go_quiet (fail)
    go_wp2
    go_ret3
    refine ⟨by simp, ?_⟩
    repeat (first | exact Below.refl _ _ | refine Below.setCell ?_ (by simp) _ | refine below_drewN ?_ _ | refine Below.drew ?_ | refine Below.alloc ?_ (by simp; try omega) _)
end Fil
end Go.Proofs.YtpbbnkgfheafpaaGreatDoor
