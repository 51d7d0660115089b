/-
  Plain words on the so-many-th weekdays of months and years; weeks.
-/
import Derived.Test.YtpcmfgfhdnfmcaaDoorFilT
namespace Go.Proofs.YtpcmfgfhdnfmcaaDoor
open Go.RowKit
namespace Fil
open Rcv (CV LisV IntV DayV)
open Rck (ckE ckB Small)
open Civ (numV numE dY dM dD dnE ydV Ahead)
open Wk (noY noN noE wkV wkE nthV nthB untl since mid fw)
open Cel
theorem mid_mod {n k : Int} (_h : 0 ≤ k ∧ k ≤ 6) : Cal.wday (mid n k) = (k + 3) % 7 := by unfold mid since Cal.wday; omega
theorem fw_mod {y k : Int} (hk : 0 ≤ k ∧ k ≤ 6) : Cal.wday (fw y k + 3) = (k + 3) % 7 := by
  have e : fw y k + 3 = mid (Wk.n4 y) k := by unfold fw mid; omega
  rw [e, mid_mod hk]
theorem fw_in (y k : Int) : Cal.ny y ≤ fw y k + 3 ∧ fw y k + 3 ≤ Cal.ny y + 6 := by
  have s := Wk.since_bd k (Wk.n4 y)
  have e : Wk.n4 y = Cal.ny y + 3 := by unfold Wk.n4 Cal.num; have := Cal.cum_1 y; omega
  unfold fw; omega
theorem quiet_d {P : Program} {f : FuncId} {args : Array Value} {w : World} {n : Nat} {v : Value}
    (h : Calls P f args (w.drewN n) fun e w' => e = .returned v ∧ ∃ q, w' = (w.drewN n).drewN q) : Calls P f args (w.drewN n) fun e w' => e = .returned v ∧ ∃ m, w' = w.drewN m :=
  h.mono fun _ _ ⟨he, q, hm⟩ => ⟨he, n + q, by rw [hm, World.drewN_drewN]⟩
theorem rlen_v (y m l : Int) (w : World) (a1 : -9223372036854775808 ≤ y) (a2 : y ≤ 9223372036854775807) (h : Hid (Cal.mlen y m = l)) : Calls Tryd.prog 24 #[.int .i64 y, .int .i64 m] w fun e w' => e = .returned (.int .i64 l) ∧ ∃ q, w' = w.drewN q := by
  rw [← h.out]
  exact Civ.rlen_any y m w a1 a2
theorem dM_bd (n : Int) : 0 ≤ dM n ∧ dM n ≤ 12 := by
  rw [dM]
  split
  · rename_i e
    obtain ⟨a1, a2, _, _⟩ := Cal.yr_spec e.1 e.2
    have s := Cal.ny_succ (Cal.yr n)
    obtain ⟨m1, m2, _, _⟩ := Cal.mon_spec (y := Cal.yr n) (r := n - Cal.ny (Cal.yr n)) (by omega) (by omega)
    omega
  · omega
theorem nth_fore {f t d k m : Int} (hk : 0 ≤ k ∧ k ≤ 6) (hm : 1 ≤ m ∧ m ≤ 53) (_h1 : f ≤ d) (h2 : d ≤ t) (hw : Cal.wday d = k) : (nthB f t m k && decide (nthV f t m k = d)) = decide ((d - f) / 7 + 1 = m) := by
  rw [Bool.eq_iff_iff]
  simp only [Bool.and_eq_true, decide_eq_true_eq]
  have e : ∀ x, untl f k = x → (x = (k - Cal.wday f + 7) % 7) := fun x h => by rw [← h]; rfl
  obtain ⟨u, hu⟩ : ∃ u, untl f k = u := ⟨_, rfl⟩
  have e := e u hu
  unfold Cal.wday at hw e
  constructor
  · rintro ⟨a, b⟩
    rw [nthV, a] at b
    simp only [if_true] at b
    rw [if_pos (by omega), hu] at b
    omega
  · intro h
    have a : nthB f t m k = true := by
      rw [nthB]
      refine decide_eq_true ⟨by omega, fun _ => ?_, fun _ => by omega⟩
      rw [hu]
      omega
    refine ⟨a, ?_⟩
    rw [nthV, a]
    simp only [if_true]
    rw [if_pos (by omega), hu]
    omega
theorem nth_back {f t d k m : Int} (hk : 0 ≤ k ∧ k ≤ 6) (hm : 1 ≤ m ∧ m ≤ 53) (h1 : f ≤ d) (_h2 : d ≤ t) (hw : Cal.wday d = k) : (nthB f t (-m) k && decide (nthV f t (-m) k = d)) = decide ((t - d) / 7 + 1 = m) := by
  rw [Bool.eq_iff_iff]
  simp only [Bool.and_eq_true, decide_eq_true_eq]
  obtain ⟨u, hu⟩ : ∃ u, since k t = u := ⟨_, rfl⟩
  have e : u = (Cal.wday t - k + 7) % 7 := by rw [← hu]; rfl
  unfold Cal.wday at hw e
  constructor
  · rintro ⟨a, b⟩
    rw [nthV, a] at b
    simp only [if_true] at b
    rw [if_neg (by omega), hu] at b
    omega
  · intro h
    have a : nthB f t (-m) k = true := by
      rw [nthB]
      refine decide_eq_true ⟨by omega, fun _ => by omega, fun _ => ?_⟩
      rw [hu]
      omega
    refine ⟨a, ?_⟩
    rw [nthV, a]
    simp only [if_true]
    rw [if_neg (by omega), hu]
    omega
/-- A rule of one weekday. -/
def dyR (F num k : Int) : CV := ⟨F, 1, 0, false, 0, false, [], [], [], [(num, k)], [], [], [], [], [], 0⟩
theorem dyR_small (F m k : Int) : Small (dyR F m k) := ⟨by simp [dyR], by simp [dyR], by simp [dyR], by simp [dyR], by simp [dyR], by simp [dyR], by simp [dyR], by simp [dyR], by simp [dyR]⟩
theorem dyR_lis {w : World} {g : Nat} {F m k : Int} (h : Cs g w [.int .i64 m, .int .i64 k]) : LisV w (dyR F m k) (.slice none 0 0) (.slice none 0 0) (.slice none 0 0) (.slice (some ⟨g, 0, none⟩) 1 1) (.slice none 0 0) (.slice none 0 0) (.slice none 0 0) (.slice none 0 0) (.slice none 0 0) :=
  ⟨IntV.none w, IntV.none w, IntV.none w, Rcv.day_one h, IntV.none w, IntV.none w, IntV.none w, IntV.none w, IntV.none w⟩
theorem dyR_ck {F m k : Int} (hF : F = 6 ∨ F = 7) (hk : 0 ≤ k ∧ k ≤ 6) (hm : -53 ≤ m ∧ m ≤ 53) : ckB (dyR F m k) = true := by
  obtain ⟨k1, k2⟩ := hk
  obtain ⟨m1, m2⟩ := hm
  rcases hF with rfl | rfl <;> simp [ckB, dyR, Rck.endB, Rck.lsB, Rck.frB, Rck.eiB, Rck.dyB, Rck.gtB, Rck.nmB, k1, k2, m1, m2]
theorem lc_same (x : CV) (h1 : x.sc = []) (h2 : x.mi = []) (h3 : x.hr = []) (t : Int) : lcB x t t = true := by simp [lcB, onB, h1, h2, h3]
theorem dy_let {F m k T d : Int} (hF : F = 6 ∨ F = 7) (hk : 0 ≤ k ∧ k ≤ 6) (hm : m ≠ 0 ∧ -53 ≤ m ∧ m ≤ 53) (ht : moO T = true) (hd : T / 86400 = d) :
    letP (dyR F m k) T T = (decide (Cal.wday d = k) && nthIs (dyR F m k) d (m, k)) := by
  rw [letP, dyR_ck hF hk hm.2, ht, letQ, lc_same _ rfl rfl rfl, hd]
  have e1 : lnB (dyR F m k) d = true := by simp [lnB, dyR]
  have e2 : ldB (dyR F m k) d = (decide (Cal.wday d = k) && nthIs (dyR F m k) d (m, k)) := by
    have e : ldB (dyR F m k) d = dayB (dyR F m k) d (m, k) := by simp [ldB, dyR]
    rw [e, dayB]
    simp [hm.1, eq_comm]
  have e3 : llB (dyR F m k) d d = true := by
    unfold llB dyR
    simp
  rw [e1, e2, e3]
  simp
/-- The bounds of a day's month and year. -/
theorem dy_bounds {d : Int} (h : -719162 ≤ d ∧ d < 2932897) : ∃ Y M D : Int, dY d = Y ∧ dM d = M ∧ dD d = D ∧ (1 ≤ Y ∧ Y ≤ 9999) ∧ (1 ≤ M ∧ M ≤ 12) ∧ (1 ≤ D ∧ D ≤ Cal.mlen Y M) ∧ d = Cal.ny Y + Cal.cum Y M + D - 1 ∧ Cal.ny Y ≤ d ∧ d < Cal.ny (Y + 1) := by
  have e : -719528 ≤ d ∧ d ≤ 2933262 := by omega
  obtain ⟨a1, a2, _, _⟩ := Cal.yr_spec e.1 e.2
  have c1 : Cal.ny 1 = -719162 := by decide +kernel
  have c2 : Cal.ny 10000 = 2932897 := by decide +kernel
  have y1 := Cal.yr_le (n := d) (y := 1) e.1 e.2 (by omega)
  have y2 := Cal.yr_lt (n := d) (y := 10000) e.1 e.2 (by omega)
  have s := Cal.ny_succ (Cal.yr d)
  obtain ⟨m1, m2, m3, m4⟩ := Cal.mon_spec (y := Cal.yr d) (r := d - Cal.ny (Cal.yr d)) (by omega) (by omega)
  refine ⟨Cal.yr d, Cal.mon (Cal.yr d) (d - Cal.ny (Cal.yr d)), d - Cal.ny (Cal.yr d) - Cal.cum (Cal.yr d) (Cal.mon (Cal.yr d) (d - Cal.ny (Cal.yr d))) + 1, by rw [dY, if_pos e], by rw [dM, if_pos e], by rw [dD, if_pos e], ⟨y1, by omega⟩, ⟨m1, m2⟩, ⟨by omega, by omega⟩, by omega, a1, a2⟩
theorem mf_at {Y M : Int} (hy : 0 ≤ Y ∧ Y ≤ 10000) (hm : 1 ≤ M ∧ M ≤ 12) : mfV (12 * Y + M - 1) = Cal.ny Y + Cal.cum Y M := by
  have e1 : (12 * Y + M - 1) / 12 = Y := by omega
  have l := Cal.mlen_28 (y := Y) hm.1 hm.2
  rw [mfV, e1, show 12 * Y + M - 1 - 12 * Y + 1 = M by omega, (Civ.num_bd hy.1 hy.2 hm.1 hm.2 (D := 1) (by decide) (by omega)).2.1, Cal.num]
  omega
theorem yf_at {Y : Int} (hy : 0 ≤ Y ∧ Y ≤ 10000) : yfV Y = Cal.ny Y := by
  have l := Cal.mlen_28 (y := Y) (m := 1) (by decide) (by decide)
  rw [yfV, (Civ.num_bd hy.1 hy.2 (M := 1) (by decide) (by decide) (D := 1) (by decide) (by omega)).2.1, Cal.num, Cal.cum_1]
  omega
theorem mf_next {Y M : Int} (hy : 0 ≤ Y ∧ Y ≤ 9999) (hm : 1 ≤ M ∧ M ≤ 12) : mfV (12 * Y + M - 1 + 1) = Cal.ny Y + Cal.cum Y M + Cal.mlen Y M := by
  by_cases h : M = 12
  · subst h
    rw [show 12 * Y + 12 - 1 + 1 = 12 * (Y + 1) + 1 - 1 by omega, mf_at (by omega) (by decide), Cal.cum_1, Cal.ny_succ]
    have := Cal.cum_12 Y
    omega
  · rw [show 12 * Y + M - 1 + 1 = 12 * Y + (M + 1) - 1 by omega, mf_at (by omega) (by omega), Cal.cum_succ hm.1 (by omega)]
    omega
theorem dy_from {F m k d : Int} {Y M D : Int} (hF : F = 6 ∨ F = 7) (hd : -719162 ≤ d ∧ d < 2932897) (h1 : dY d = Y) (h2 : dM d = M) (h3 : dD d = D) :
    fromV (dyR F m k) d = (if F = 6 then d - (D - 1) else Cal.ny Y) ∧ behV (dyR F m k) d - 1 = (if F = 6 then d + (Cal.mlen Y M - D) else Cal.ny (Y + 1) - 1) := by
  obtain ⟨Y', M', D', e1, e2, e3, y, mm, dd, e, a, b⟩ := dy_bounds hd
  rw [h1] at e1
  rw [h2] at e2
  rw [h3] at e3
  subst e1 e2 e3
  have hb : mthB (dyR F m k) = decide (F = 6) := by
    show (decide (F = 6) || decide (([] : List Int) ≠ [])) = _
    rw [decide_eq_false (show ¬ (([] : List Int) ≠ []) by simp), Bool.or_false]
  rw [fromV, behV, hb, h1, h2, mf_at (by omega) mm, mf_next (by omega) mm, yf_at (by omega), yf_at (by omega)]
  rcases hF with rfl | rfl
  · simp
    omega
  · simp
/-- What the law asks. -/
theorem dy_all {F m k T d Y M D : Int} (hF : F = 6 ∨ F = 7) (hk : 0 ≤ k ∧ k ≤ 6) (hm : 1 ≤ m ∧ m ≤ 53) (ht : moO T = true) (hd : T / 86400 = d) (h1 : dY d = Y) (h2 : dM d = M) (h3 : dD d = D) :
    letP (dyR F m k) T T = (decide (Cal.wday d = k) && decide ((if F = 6 then D - 1 else d - Cal.ny Y) / 7 + 1 = m)) ∧ letP (dyR F (-m) k) T T = (decide (Cal.wday d = k) && decide ((if F = 6 then Cal.mlen Y M - D else Cal.ny (Y + 1) - 1 - d) / 7 + 1 = m)) := by
  have db := mo_bd ht
  rw [hd] at db
  have db' : -719162 ≤ d ∧ d < 2932897 := ⟨db.1, db.2.1⟩
  obtain ⟨Y', M', D', e1, e2, e3, y, mm, dd, e, a, b⟩ := dy_bounds db'
  rw [h1] at e1
  rw [h2] at e2
  rw [h3] at e3
  subst e1 e2 e3
  rw [dy_let hF hk (by omega) ht hd, dy_let hF hk (by omega) ht hd]
  by_cases hw : Cal.wday d = k
  · rw [decide_eq_true hw, Bool.true_and, Bool.true_and, Bool.true_and, Bool.true_and]
    obtain ⟨f1, f2⟩ := dy_from (m := m) (k := k) hF db' h1 h2 h3
    obtain ⟨g1, g2⟩ := dy_from (m := -m) (k := k) hF db' h1 h2 h3
    rw [nthIs, nthIs, f1, f2, g1, g2]
    show (nthB _ _ m k && decide (nthV _ _ m k = d)) = _ ∧ (nthB _ _ (-m) k && decide (nthV _ _ (-m) k = d)) = _
    rcases hF with rfl | rfl
    · rw [if_pos rfl, if_pos rfl, if_pos rfl, if_pos rfl, nth_fore hk hm (by omega) (by omega) hw, nth_back hk hm (by omega) (by omega) hw]
      constructor
      · exact decide_eq_decide.2 (by rw [show d - (d - (D - 1)) = D - 1 by omega])
      · exact decide_eq_decide.2 (by rw [show d + (Cal.mlen Y M - D) - d = Cal.mlen Y M - D by omega])
    · rw [if_neg (by decide), if_neg (by decide), if_neg (by decide), if_neg (by decide), nth_fore hk hm (by omega) (by omega) hw, nth_back hk hm (by omega) (by omega) hw]
      exact ⟨rfl, rfl⟩
  · rw [decide_eq_false hw, Bool.false_and, Bool.false_and, Bool.false_and, Bool.false_and]
    exact ⟨rfl, rfl⟩

end Fil
end Go.Proofs.YtpcmfgfhdnfmcaaDoor
