/-
  Several texts in one (FilX1, FilN, FilP, FilY).
-/
import Derived.Test.YtpbbnkgfheafpaaGreatDoorBdFd
import Derived.Test.YtpbbnkgfheafpaaGreatDoorFilH
/-
  Plain words on the so-many-th weekdays of months and years; weeks.
-/
namespace Go.Proofs.YtpbbnkgfheafpaaGreatDoor
open Go.RowKit
namespace Fil
open Rcv (CV LisV IntV DayV)
open Rck (ckE ckB Small)
open Civ (numV numE dY dM dD dnE ydV Ahead)
open Wk (noY noN noE wkV wkE nthV nthB untl since mid fw)
open Cel
theorem mid_mod {n k : Int} (_h : 0 ≤ k ∧ k ≤ 6) : Cal.wday (mid n k) = (k + 3) % 7 := by unfold mid since Cal.wday; omega
theorem fw_mod {y k : Int} (hk : 0 ≤ k ∧ k ≤ 6) : Cal.wday (fw y k + 3) = (k + 3) % 7 := by
  have e : fw y k + 3 = mid (Wk.n4 y) k := by unfold fw mid; omega
  rw [e, mid_mod hk]
theorem fw_in (y k : Int) : Cal.ny y ≤ fw y k + 3 ∧ fw y k + 3 ≤ Cal.ny y + 6 := by
  have s := Wk.since_bd k (Wk.n4 y)
  have e : Wk.n4 y = Cal.ny y + 3 := by unfold Wk.n4 Cal.num; have := Cal.cum_1 y; omega
  unfold fw; omega
theorem quiet_d {P : Program} {f : FuncId} {args : Array Value} {w : World} {n : Nat} {v : Value}
    (h : Calls P f args (w.drewN n) fun e w' => e = .returned v ∧ ∃ q, w' = (w.drewN n).drewN q) : Calls P f args (w.drewN n) fun e w' => e = .returned v ∧ ∃ m, w' = w.drewN m :=
  h.mono fun _ _ ⟨he, q, hm⟩ => ⟨he, n + q, by rw [hm, World.drewN_drewN]⟩
theorem dM_bd (n : Int) : 0 ≤ dM n ∧ dM n ≤ 12 := by
  rw [dM]
  split
  · rename_i e
    obtain ⟨a1, a2, _, _⟩ := Cal.yr_spec e.1 e.2
    have s := Cal.ny_succ (Cal.yr n)
    obtain ⟨m1, m2, _, _⟩ := Cal.mon_spec (y := Cal.yr n) (r := n - Cal.ny (Cal.yr n)) (by omega) (by omega)
    omega
  · omega
theorem nth_fore {f t d k m : Int} (hk : 0 ≤ k ∧ k ≤ 6) (hm : 1 ≤ m ∧ m ≤ 53) (_h1 : f ≤ d) (h2 : d ≤ t) (hw : Cal.wday d = k) : (nthB f t m k && decide (nthV f t m k = d)) = decide ((d - f) / 7 + 1 = m) := by
  rw [Bool.eq_iff_iff]
  simp only [Bool.and_eq_true, decide_eq_true_eq]
  have e : ∀ x, untl f k = x → (x = (k - Cal.wday f + 7) % 7) := fun x h => by rw [← h]; rfl
  obtain ⟨u, hu⟩ : ∃ u, untl f k = u := ⟨_, rfl⟩
  have e := e u hu
  unfold Cal.wday at hw e
  constructor
  · rintro ⟨a, b⟩
    rw [nthV, a] at b
    simp only [if_true] at b
    rw [if_pos (by omega), hu] at b
    omega
  · intro h
    have a : nthB f t m k = true := by
      rw [nthB]
      refine decide_eq_true ⟨by omega, fun _ => ?_, fun _ => by omega⟩
      rw [hu]
      omega
    refine ⟨a, ?_⟩
    rw [nthV, a]
    simp only [if_true]
    rw [if_pos (by omega), hu]
    omega
theorem nth_back {f t d k m : Int} (hk : 0 ≤ k ∧ k ≤ 6) (hm : 1 ≤ m ∧ m ≤ 53) (h1 : f ≤ d) (_h2 : d ≤ t) (hw : Cal.wday d = k) : (nthB f t (-m) k && decide (nthV f t (-m) k = d)) = decide ((t - d) / 7 + 1 = m) := by
  rw [Bool.eq_iff_iff]
  simp only [Bool.and_eq_true, decide_eq_true_eq]
  obtain ⟨u, hu⟩ : ∃ u, since k t = u := ⟨_, rfl⟩
  have e : u = (Cal.wday t - k + 7) % 7 := by rw [← hu]; rfl
  unfold Cal.wday at hw e
  constructor
  · rintro ⟨a, b⟩
    rw [nthV, a] at b
    simp only [if_true] at b
    rw [if_neg (by omega), hu] at b
    omega
  · intro h
    have a : nthB f t (-m) k = true := by
      rw [nthB]
      refine decide_eq_true ⟨by omega, fun _ => by omega, fun _ => ?_⟩
      rw [hu]
      omega
    refine ⟨a, ?_⟩
    rw [nthV, a]
    simp only [if_true]
    rw [if_neg (by omega), hu]
    omega
/-- A rule of one weekday. -/
def dyR (F num k : Int) : CV := ⟨F, 1, 0, false, 0, false, [], [], [], [(num, k)], [], [], [], [], [], 0⟩
theorem dyR_small (F m k : Int) : Small (dyR F m k) := ⟨by simp [dyR], by simp [dyR], by simp [dyR], by simp [dyR], by simp [dyR], by simp [dyR], by simp [dyR], by simp [dyR], by simp [dyR]⟩
theorem dyR_lis {w : World} {g : Nat} {F m k : Int} (h : Cs g w [.int .i64 m, .int .i64 k]) : LisV w (dyR F m k) (.slice none 0 0) (.slice none 0 0) (.slice none 0 0) (.slice (some ⟨g, 0, none⟩) 1 1) (.slice none 0 0) (.slice none 0 0) (.slice none 0 0) (.slice none 0 0) (.slice none 0 0) :=
  ⟨IntV.none w, IntV.none w, IntV.none w, Rcv.day_one h, IntV.none w, IntV.none w, IntV.none w, IntV.none w, IntV.none w⟩
theorem dyR_ck {F m k : Int} (hF : F = 6 ∨ F = 7) (hk : 0 ≤ k ∧ k ≤ 6) (hm : -53 ≤ m ∧ m ≤ 53) : ckB (dyR F m k) = true := by
  obtain ⟨k1, k2⟩ := hk
  obtain ⟨m1, m2⟩ := hm
  rcases hF with rfl | rfl <;> simp [ckB, dyR, Rck.endB, Rck.lsB, Rck.frB, Rck.eiB, Rck.dyB, Rck.gtB, Rck.nmB, k1, k2, m1, m2]
theorem lc_same (x : CV) (h1 : x.sc = []) (h2 : x.mi = []) (h3 : x.hr = []) (t : Int) : lcB x t t = true := by simp [lcB, onB, h1, h2, h3]
theorem dy_let {F m k T d : Int} (hF : F = 6 ∨ F = 7) (hk : 0 ≤ k ∧ k ≤ 6) (hm : m ≠ 0 ∧ -53 ≤ m ∧ m ≤ 53) (ht : moO T = true) (hd : T / 86400 = d) :
    letP (dyR F m k) T T = (decide (Cal.wday d = k) && nthIs (dyR F m k) d (m, k)) := by
  rw [letP, dyR_ck hF hk hm.2, ht, letQ, lc_same _ rfl rfl rfl, hd]
  have e1 : lnB (dyR F m k) d = true := by simp [lnB, dyR]
  have e2 : ldB (dyR F m k) d = (decide (Cal.wday d = k) && nthIs (dyR F m k) d (m, k)) := by
    have e : ldB (dyR F m k) d = dayB (dyR F m k) d (m, k) := by simp [ldB, dyR]
    rw [e, dayB]
    simp [hm.1, eq_comm]
  have e3 : llB (dyR F m k) d d = true := by
    unfold llB dyR
    simp
  rw [e1, e2, e3]
  simp
/-- The bounds of a day's month and year. -/
theorem dy_bounds {d : Int} (h : -719162 ≤ d ∧ d < 2932897) : ∃ Y M D : Int, dY d = Y ∧ dM d = M ∧ dD d = D ∧ (1 ≤ Y ∧ Y ≤ 9999) ∧ (1 ≤ M ∧ M ≤ 12) ∧ (1 ≤ D ∧ D ≤ Cal.mlen Y M) ∧ d = Cal.ny Y + Cal.cum Y M + D - 1 ∧ Cal.ny Y ≤ d ∧ d < Cal.ny (Y + 1) := by
  have e : -719528 ≤ d ∧ d ≤ 2933262 := by omega
  obtain ⟨a1, a2, _, _⟩ := Cal.yr_spec e.1 e.2
  have c1 : Cal.ny 1 = -719162 := by decide +kernel
  have c2 : Cal.ny 10000 = 2932897 := by decide +kernel
  have y1 := Cal.yr_le (n := d) (y := 1) e.1 e.2 (by omega)
  have y2 := Cal.yr_lt (n := d) (y := 10000) e.1 e.2 (by omega)
  have s := Cal.ny_succ (Cal.yr d)
  obtain ⟨m1, m2, m3, m4⟩ := Cal.mon_spec (y := Cal.yr d) (r := d - Cal.ny (Cal.yr d)) (by omega) (by omega)
  refine ⟨Cal.yr d, Cal.mon (Cal.yr d) (d - Cal.ny (Cal.yr d)), d - Cal.ny (Cal.yr d) - Cal.cum (Cal.yr d) (Cal.mon (Cal.yr d) (d - Cal.ny (Cal.yr d))) + 1, by rw [dY, if_pos e], by rw [dM, if_pos e], by rw [dD, if_pos e], ⟨y1, by omega⟩, ⟨m1, m2⟩, ⟨by omega, by omega⟩, by omega, a1, a2⟩
theorem mf_at {Y M : Int} (hy : 0 ≤ Y ∧ Y ≤ 10000) (hm : 1 ≤ M ∧ M ≤ 12) : mfV (12 * Y + M - 1) = Cal.ny Y + Cal.cum Y M := by
  have e1 : (12 * Y + M - 1) / 12 = Y := by omega
  have l := Cal.mlen_28 (y := Y) hm.1 hm.2
  rw [mfV, e1, show 12 * Y + M - 1 - 12 * Y + 1 = M by omega, (Civ.num_bd hy.1 hy.2 hm.1 hm.2 (D := 1) (by decide) (by omega)).2.1, Cal.num]
  omega
theorem yf_at {Y : Int} (hy : 0 ≤ Y ∧ Y ≤ 10000) : yfV Y = Cal.ny Y := by
  have l := Cal.mlen_28 (y := Y) (m := 1) (by decide) (by decide)
  rw [yfV, (Civ.num_bd hy.1 hy.2 (M := 1) (by decide) (by decide) (D := 1) (by decide) (by omega)).2.1, Cal.num, Cal.cum_1]
  omega
theorem mf_next {Y M : Int} (hy : 0 ≤ Y ∧ Y ≤ 9999) (hm : 1 ≤ M ∧ M ≤ 12) : mfV (12 * Y + M - 1 + 1) = Cal.ny Y + Cal.cum Y M + Cal.mlen Y M := by
  by_cases h : M = 12
  · subst h
    rw [show 12 * Y + 12 - 1 + 1 = 12 * (Y + 1) + 1 - 1 by omega, mf_at (by omega) (by decide), Cal.cum_1, Cal.ny_succ]
    have := Cal.cum_12 Y
    omega
  · rw [show 12 * Y + M - 1 + 1 = 12 * Y + (M + 1) - 1 by omega, mf_at (by omega) (by omega), Cal.cum_succ hm.1 (by omega)]
    omega
theorem dy_from {F m k d : Int} {Y M D : Int} (hF : F = 6 ∨ F = 7) (hd : -719162 ≤ d ∧ d < 2932897) (h1 : dY d = Y) (h2 : dM d = M) (h3 : dD d = D) :
    fromV (dyR F m k) d = (if F = 6 then d - (D - 1) else Cal.ny Y) ∧ behV (dyR F m k) d - 1 = (if F = 6 then d + (Cal.mlen Y M - D) else Cal.ny (Y + 1) - 1) := by
  obtain ⟨Y', M', D', e1, e2, e3, y, mm, dd, e, a, b⟩ := dy_bounds hd
  rw [h1] at e1
  rw [h2] at e2
  rw [h3] at e3
  subst e1 e2 e3
  have hb : mthB (dyR F m k) = decide (F = 6) := by
    show (decide (F = 6) || decide (([] : List Int) ≠ [])) = _
    rw [decide_eq_false (show ¬ (([] : List Int) ≠ []) by simp), Bool.or_false]
  rw [fromV, behV, hb, h1, h2, mf_at (by omega) mm, mf_next (by omega) mm, yf_at (by omega), yf_at (by omega)]
  rcases hF with rfl | rfl
  · simp
    omega
  · simp
/-- What the law asks. -/
theorem dy_all {F m k T d Y M D : Int} (hF : F = 6 ∨ F = 7) (hk : 0 ≤ k ∧ k ≤ 6) (hm : 1 ≤ m ∧ m ≤ 53) (ht : moO T = true) (hd : T / 86400 = d) (h1 : dY d = Y) (h2 : dM d = M) (h3 : dD d = D) :
    letP (dyR F m k) T T = (decide (Cal.wday d = k) && decide ((if F = 6 then D - 1 else d - Cal.ny Y) / 7 + 1 = m)) ∧ letP (dyR F (-m) k) T T = (decide (Cal.wday d = k) && decide ((if F = 6 then Cal.mlen Y M - D else Cal.ny (Y + 1) - 1 - d) / 7 + 1 = m)) := by
  have db := mo_bd ht
  rw [hd] at db
  have db' : -719162 ≤ d ∧ d < 2932897 := ⟨db.1, db.2.1⟩
  obtain ⟨Y', M', D', e1, e2, e3, y, mm, dd, e, a, b⟩ := dy_bounds db'
  rw [h1] at e1
  rw [h2] at e2
  rw [h3] at e3
  subst e1 e2 e3
  rw [dy_let hF hk (by omega) ht hd, dy_let hF hk (by omega) ht hd]
  by_cases hw : Cal.wday d = k
  · rw [decide_eq_true hw, Bool.true_and, Bool.true_and, Bool.true_and, Bool.true_and]
    obtain ⟨f1, f2⟩ := dy_from (m := m) (k := k) hF db' h1 h2 h3
    obtain ⟨g1, g2⟩ := dy_from (m := -m) (k := k) hF db' h1 h2 h3
    rw [nthIs, nthIs, f1, f2, g1, g2]
    show (nthB _ _ m k && decide (nthV _ _ m k = d)) = _ ∧ (nthB _ _ (-m) k && decide (nthV _ _ (-m) k = d)) = _
    rcases hF with rfl | rfl
    · rw [if_pos rfl, if_pos rfl, if_pos rfl, if_pos rfl, nth_fore hk hm (by omega) (by omega) hw, nth_back hk hm (by omega) (by omega) hw]
      constructor
      · exact decide_eq_decide.2 (by rw [show d - (d - (D - 1)) = D - 1 by omega])
      · exact decide_eq_decide.2 (by rw [show d + (Cal.mlen Y M - D) - d = Cal.mlen Y M - D by omega])
    · rw [if_neg (by decide), if_neg (by decide), if_neg (by decide), if_neg (by decide), nth_fore hk hm (by omega) (by omega) hw, nth_back hk hm (by omega) (by omega) hw]
      exact ⟨rfl, rfl⟩
  · rw [decide_eq_false hw, Bool.false_and, Bool.false_and, Bool.false_and, Bool.false_and]
    exact ⟨rfl, rfl⟩

end Fil
end Go.Proofs.YtpbbnkgfheafpaaGreatDoor
/-
  Plain words: a time is within its period's span, each time of a span is of that period, the next one begins right behind.
-/
namespace Go.Proofs.YtpbbnkgfheafpaaGreatDoor
open Go.RowKit
namespace Fil
open Rcv (CV)
open Rck (ckE ckB)
open Civ (numV numE dY dM dD dnE)
open Wk (noY noN noE mid fw since)
/-- The next period begins right behind. -/
theorem sp_next {x : CV} (p : Int) (hf : 1 ≤ x.fq ∧ x.fq ≤ 7) : spA x (p + 1) = spZ x p := by
  unfold spA spZ
  have : x.fq = 1 ∨ x.fq = 2 ∨ x.fq = 3 ∨ x.fq = 4 ∨ x.fq = 5 ∨ x.fq = 6 ∨ x.fq = 7 := by omega
  rcases this with h | h | h | h | h | h | h <;> simp [h]
  omega
theorem mfO_at {p : Int} (h : 0 ≤ p ∧ p < 120012) : mfO p = true := by
  have l := Cal.mlen_28 (y := p / 12) (m := p - 12 * (p / 12) + 1) (by omega) (by omega)
  exact decide_eq_true (Civ.num_bd (Y := p / 12) (M := p - 12 * (p / 12) + 1) (D := 1) (by omega) (by omega) (by omega) (by omega) (by decide) (by omega)).1
theorem yfO_at {y : Int} (h : 0 ≤ y ∧ y ≤ 10000) : yfO y = true := by
  have l := Cal.mlen_28 (y := y) (m := 1) (by decide) (by decide)
  exact decide_eq_true (Civ.num_bd (Y := y) (M := 1) (D := 1) h.1 h.2 (by decide) (by decide) (by decide) (by omega)).1
theorem wf_at {y k : Int} (h : 0 ≤ y ∧ y ≤ 10000) : wfO y = true ∧ wfV y k = fw y k := by
  obtain ⟨a, b, _, _⟩ := Wk.n4_ok h.1 h.2
  refine ⟨decide_eq_true b, ?_⟩
  rw [wfV, a]
  unfold fw since
  omega
/-- A month counted from year 0 on: the days of it, and of it alone. -/
theorem mf_day {d d2 : Int} (h : -719162 ≤ d ∧ d < 2932897) (h2 : mfV (12 * dY d + dM d - 1) ≤ d2) (h3 : d2 < mfV (12 * dY d + dM d - 1 + 1)) : 12 * dY d2 + dM d2 - 1 = 12 * dY d + dM d - 1 := by
  obtain ⟨Y, M, D, e1, e2, e3, y, mm, dd, e, a, b⟩ := dy_bounds h
  rw [e1, e2] at h2 h3 ⊢
  rw [mf_at (by omega) mm] at h2
  rw [mf_next (by omega) mm] at h3
  have c := Cal.cum_bd (y := Y) mm.1 mm.2
  have s := Cal.ny_succ Y
  have n1 := Cal.ny_mono (a := 1) (b := Y) y.1
  have n2 := Cal.ny_mono (a := Y + 1) (b := 10000) (by omega)
  have c1 : Cal.ny 1 = -719162 := by decide +kernel
  have c2 : Cal.ny 10000 = 2932897 := by decide +kernel
  have yr := Cal.yr_of (n := d2) (y := Y) (by omega) (by omega) (by omega) (by omega)
  have mo := Cal.mon_of (y := Y) (r := d2 - Cal.ny Y) mm.1 mm.2 (by omega) (by omega)
  rw [dY, dM, if_pos (by omega), if_pos (by omega), yr, mo]
theorem yf_day {d d2 : Int} (h : -719162 ≤ d ∧ d < 2932897) (h2 : yfV (dY d) ≤ d2) (h3 : d2 < yfV (dY d + 1)) : dY d2 = dY d := by
  obtain ⟨Y, M, D, e1, e2, e3, y, mm, dd, e, a, b⟩ := dy_bounds h
  rw [e1] at h2 h3 ⊢
  rw [yf_at (by omega)] at h2 h3
  have n1 := Cal.ny_mono (a := 1) (b := Y) y.1
  have n2 := Cal.ny_mono (a := Y + 1) (b := 10000) (by omega)
  have c1 : Cal.ny 1 = -719162 := by decide +kernel
  have c2 : Cal.ny 10000 = 2932897 := by decide +kernel
  have yr := Cal.yr_of (n := d2) (y := Y) (by omega) (by omega) (by omega) (by omega)
  rw [dY, if_pos (by omega), yr]
/-- A day's week's year: its weeks begin at or ahead of the day, the next one's behind it. -/
theorem no_span {d k : Int} (hk : 0 ≤ k ∧ k ≤ 6) (h : -719162 ≤ d ∧ d < 2932897) : 0 ≤ noY d k ∧ noY d k ≤ 10000 ∧ fw (noY d k) k ≤ d ∧ d < fw (noY d k + 1) k := by
  have ok := wk_ok hk h
  obtain ⟨z, hz⟩ : ∃ z, mid d k = z := ⟨_, rfl⟩
  have sb := Wk.since_bd k d
  have zb : d - 3 ≤ z ∧ z ≤ d + 3 := by rw [← hz]; unfold mid; omega
  obtain ⟨a1, a2, a3, a4⟩ := Cal.yr_spec (n := z) (by omega) (by omega)
  have e1 : noY d k = Cal.yr z := by rw [noY, if_pos ok, hz]
  rw [e1]
  obtain ⟨y, hy⟩ : ∃ y, Cal.yr z = y := ⟨_, rfl⟩
  rw [hy] at a1 a2 a3 a4 ⊢
  have f1 := fw_in y k
  have f2 := fw_in (y + 1) k
  have m1 := fw_mod (y := y) hk
  have m2 := fw_mod (y := y + 1) hk
  have m3 := mid_mod (n := d) hk
  rw [hz] at m3
  have hm : z = d - since k d + 3 := by rw [← hz]; rfl
  have hs : since k d = (Cal.wday d - k + 7) % 7 := rfl
  unfold Cal.wday at m1 m2 m3 hs
  exact ⟨a3, a4, by omega, by omega⟩
theorem no_of {d d2 k : Int} (hk : 0 ≤ k ∧ k ≤ 6) (h : -719162 ≤ d ∧ d < 2932897) (h0 : -719162 ≤ d2 ∧ d2 < 2932897) (h2 : fw (noY d k) k ≤ d2) (h3 : d2 < fw (noY d k + 1) k) : noY d2 k = noY d k := by
  obtain ⟨a1, a2, a3, a4⟩ := no_span hk h0
  obtain ⟨b1, b2, b3, b4⟩ := no_span hk h
  obtain ⟨p, hp⟩ : ∃ p, noY d k = p := ⟨_, rfl⟩
  obtain ⟨q, hq⟩ : ∃ q, noY d2 k = q := ⟨_, rfl⟩
  rw [hp] at h2 h3 ⊢
  rw [hq] at a3 a4 ⊢
  have mono : ∀ a b : Int, a + 1 ≤ b → fw (a + 1) k ≤ fw b k := fun a b hab => by
    by_cases e : a + 1 = b
    · rw [e]; exact Int.le_refl _
    · have f1 := fw_in (a + 1) k
      have f2 := fw_in b k
      have n := Cal.ny_mono (a := a + 1) (b := b) hab
      omega
  have c1 := mono p q
  have c2 := mono q p
  omega
theorem v1 {x : CV} (h : x.fq = 1) (t p : Int) : perQ x t = t ∧ spA x p = p ∧ spZ x p = p + 1 ∧ spO x p = true := ⟨by rw [perQ, h]; rfl, by rw [spA, h]; rfl, by rw [spZ, h]; rfl, by rw [spO, h]; rfl⟩
theorem v2 {x : CV} (h : x.fq = 2) (t p : Int) : perQ x t = t / 60 ∧ spA x p = p * 60 ∧ spZ x p = (p + 1) * 60 ∧ spO x p = true := ⟨by rw [perQ, h]; rfl, by rw [spA, h]; rfl, by rw [spZ, h]; rfl, by rw [spO, h]; rfl⟩
theorem v3 {x : CV} (h : x.fq = 3) (t p : Int) : perQ x t = t / 3600 ∧ spA x p = p * 3600 ∧ spZ x p = (p + 1) * 3600 ∧ spO x p = true := ⟨by rw [perQ, h]; rfl, by rw [spA, h]; rfl, by rw [spZ, h]; rfl, by rw [spO, h]; rfl⟩
theorem v4 {x : CV} (h : x.fq = 4) (t p : Int) : perQ x t = t / 86400 ∧ spA x p = p * 86400 ∧ spZ x p = (p + 1) * 86400 ∧ spO x p = true := ⟨by rw [perQ, h]; rfl, by rw [spA, h]; rfl, by rw [spZ, h]; rfl, by rw [spO, h]; rfl⟩
theorem v5 {x : CV} (h : x.fq = 5) (t p : Int) : perQ x t = (t / 86400 + 4 - x.wk) / 7 ∧ spA x p = (p * 7 - 4 + x.wk) * 86400 ∧ spZ x p = (p * 7 - 4 + x.wk + 7) * 86400 ∧ spO x p = true := ⟨by rw [perQ, h]; rfl, by rw [spA, h]; rfl, by rw [spZ, h]; rfl, by rw [spO, h]; rfl⟩
theorem v6 {x : CV} (h : x.fq = 6) (t p : Int) : perQ x t = 12 * dY (t / 86400) + dM (t / 86400) - 1 ∧ spA x p = mfV p * 86400 ∧ spZ x p = mfV (p + 1) * 86400 ∧ spO x p = (mfO p && mfO (p + 1)) := ⟨by rw [perQ, h]; rfl, by rw [spA, h]; rfl, by rw [spZ, h]; rfl, by rw [spO, h]; rfl⟩
theorem v7 {x : CV} (h : x.fq = 7) (hn : x.wn = []) (t p : Int) : perQ x t = dY (t / 86400) ∧ spA x p = yfV p * 86400 ∧ spZ x p = yfV (p + 1) * 86400 ∧ spO x p = (yfO p && yfO (p + 1)) := ⟨by rw [perQ, h, hn]; rfl, by rw [spA, h, hn]; rfl, by rw [spZ, h, hn]; rfl, by rw [spO, h, hn]; rfl⟩
theorem v8 {x : CV} (h : x.fq = 7) (hn : x.wn ≠ []) (t p : Int) : perQ x t = noY (t / 86400) x.wk ∧ spA x p = wfV p x.wk * 86400 ∧ spZ x p = wfV (p + 1) x.wk * 86400 ∧ spO x p = (wfO p && wfO (p + 1)) := ⟨by rw [perQ, h, if_neg hn]; rfl, by rw [spA, h, if_neg hn]; rfl, by rw [spZ, h, if_neg hn]; rfl, by rw [spO, h, if_neg hn]; rfl⟩
theorem wfO_in {y : Int} (h : wfO y = true) : 0 ≤ y ∧ y ≤ 10000 := by
  have q := of_decide_eq_true h
  rw [numE] at q
  split at q
  · rename_i v
    have v := of_decide_eq_true v
    omega
  · omega
theorem spQ_iff {x : CV} {p : Int} : spQ x p = true ↔ farB p = false ∧ spO x p = true ∧ moO (spA x p) = true ∧ moO (spZ x p - 1) = true := by
  rw [spQ]
  simp
/-- The span of a time's period, in days and seconds, whatever the frequency. -/
theorem sp_all {x : CV} {t : Int} (hc : ckB x = true) (ht : moO t = true) (ho : spO x (perQ x t) = true) :
    (spA x (perQ x t) ≤ t ∧ t < spZ x (perQ x t)) ∧ (-33000000 ≤ spA x (perQ x t) - t ∧ spZ x (perQ x t) - t ≤ 33000000) ∧
      ∀ u, (-719162 ≤ u / 86400 ∧ u / 86400 < 2932897) → spA x (perQ x t) ≤ u → u < spZ x (perQ x t) → perQ x u = perQ x t := by
  have hf := ck_fq hc
  have hk := ck_wk hc
  have b := mo_bd ht
  have b' : -719162 ≤ t / 86400 ∧ t / 86400 < 2932897 := ⟨b.1, b.2.1⟩
  obtain ⟨p, hp⟩ : ∃ p, perQ x t = p := ⟨_, rfl⟩
  rw [hp] at ho ⊢
  have : x.fq = 1 ∨ x.fq = 2 ∨ x.fq = 3 ∨ x.fq = 4 ∨ x.fq = 5 ∨ x.fq = 6 ∨ x.fq = 7 := by omega
  rcases this with h | h | h | h | h | h | h
  · rw [(v1 h t p).1] at hp
    rw [(v1 h t p).2.1, (v1 h t p).2.2.1]
    exact ⟨by omega, by omega, fun u _ u1 u2 => by rw [(v1 h u p).1]; omega⟩
  · rw [(v2 h t p).1] at hp
    rw [(v2 h t p).2.1, (v2 h t p).2.2.1]
    exact ⟨by omega, by omega, fun u _ u1 u2 => by rw [(v2 h u p).1]; omega⟩
  · rw [(v3 h t p).1] at hp
    rw [(v3 h t p).2.1, (v3 h t p).2.2.1]
    exact ⟨by omega, by omega, fun u _ u1 u2 => by rw [(v3 h u p).1]; omega⟩
  · rw [(v4 h t p).1] at hp
    rw [(v4 h t p).2.1, (v4 h t p).2.2.1]
    exact ⟨by omega, by omega, fun u _ u1 u2 => by rw [(v4 h u p).1]; omega⟩
  · rw [(v5 h t p).1] at hp
    rw [(v5 h t p).2.1, (v5 h t p).2.2.1]
    exact ⟨by omega, by omega, fun u _ u1 u2 => by rw [(v5 h u p).1]; omega⟩
  · rw [(v6 h t p).1] at hp
    rw [(v6 h t p).2.1, (v6 h t p).2.2.1]
    obtain ⟨Y, M, D, e1, e2, e3, y, mm, dd, e, _, _⟩ := dy_bounds b'
    have hp' : 12 * Y + M - 1 = p := by rw [← hp, e1, e2]
    have m1 : mfV p = Cal.ny Y + Cal.cum Y M := by rw [← hp', mf_at (by omega) mm]
    have m2 : mfV (p + 1) = Cal.ny Y + Cal.cum Y M + Cal.mlen Y M := by rw [← hp', mf_next (by omega) mm]
    have l := Cal.mlen_bd Y M
    refine ⟨by rw [m1, m2]; omega, by rw [m1, m2]; omega, fun u ub u1 u2 => ?_⟩
    rw [(v6 h u p).1, ← hp]
    exact mf_day b' (by rw [hp]; omega) (by rw [hp]; omega)
  · by_cases hn : x.wn = []
    · rw [(v7 h hn t p).1] at hp
      rw [(v7 h hn t p).2.1, (v7 h hn t p).2.2.1]
      obtain ⟨Y, M, D, e1, e2, e3, y, mm, dd, e, a1, a2⟩ := dy_bounds b'
      have hp' : Y = p := by rw [← hp, e1]
      have m1 : yfV p = Cal.ny Y := by rw [← hp', yf_at (by omega)]
      have m2 : yfV (p + 1) = Cal.ny (Y + 1) := by rw [← hp', yf_at (by omega)]
      have s := Cal.ny_succ Y
      have l := Cal.lp_01 Y
      refine ⟨by rw [m1, m2]; omega, by rw [m1, m2]; omega, fun u ub u1 u2 => ?_⟩
      rw [(v7 h hn u p).1, ← hp]
      exact yf_day b' (by rw [hp]; omega) (by rw [hp]; omega)
    · rw [(v8 h hn t p).1] at hp
      rw [(v8 h hn t p).2.2.2, Bool.and_eq_true] at ho
      have o1 := wfO_in ho.1
      have o2 := wfO_in ho.2
      rw [(v8 h hn t p).2.1, (v8 h hn t p).2.2.1, (wf_at (k := x.wk) o1).2, (wf_at (k := x.wk) o2).2]
      obtain ⟨a1, a2, a3, a4⟩ := no_span (k := x.wk) hk b'
      have f1 := fw_in p x.wk
      have f2 := fw_in (p + 1) x.wk
      have s := Cal.ny_succ p
      have l := Cal.lp_01 p
      rw [hp] at a3 a4
      refine ⟨by omega, by omega, fun u ub u1 u2 => ?_⟩
      rw [(v8 h hn u p).1, ← hp]
      exact no_of hk b' ub (by rw [hp]; omega) (by rw [hp]; omega)
/-- Far from the ends of the years a time's period has a span. -/
theorem sp_far {x : CV} {t : Int} (hc : ckB x = true) (ht : moO t = true) (hy : 3 ≤ dY (t / 86400) ∧ dY (t / 86400) ≤ 9997) : spQ x (perQ x t) = true := by
  have hf := ck_fq hc
  have hk := ck_wk hc
  have b := mo_bd ht
  have b' : -719162 ≤ t / 86400 ∧ t / 86400 < 2932897 := ⟨b.1, b.2.1⟩
  obtain ⟨Y, M, D, e1, e2, e3, y, mm, dd, e, a1, a2⟩ := dy_bounds b'
  rw [e1] at hy
  have n1 := Cal.ny_mono (a := 3) (b := Y) hy.1
  have n2 := Cal.ny_mono (a := Y + 1) (b := 9998) (by omega)
  have c1 : Cal.ny 3 = -718432 := by decide +kernel
  have c2 : Cal.ny 9998 = 2932167 := by decide +kernel
  have ho : spO x (perQ x t) = true ∧ -300000000000 ≤ perQ x t ∧ perQ x t ≤ 300000000000 := by
    have : x.fq = 1 ∨ x.fq = 2 ∨ x.fq = 3 ∨ x.fq = 4 ∨ x.fq = 5 ∨ x.fq = 6 ∨ x.fq = 7 := by omega
    rcases this with h | h | h | h | h | h | h
    · exact ⟨(v1 h t _).2.2.2, by rw [(v1 h t 0).1]; omega⟩
    · exact ⟨(v2 h t _).2.2.2, by rw [(v2 h t 0).1]; omega⟩
    · exact ⟨(v3 h t _).2.2.2, by rw [(v3 h t 0).1]; omega⟩
    · exact ⟨(v4 h t _).2.2.2, by rw [(v4 h t 0).1]; omega⟩
    · exact ⟨(v5 h t _).2.2.2, by rw [(v5 h t 0).1]; omega⟩
    · rw [(v6 h t _).2.2.2, (v6 h t 0).1, e1, e2, mfO_at (by omega), mfO_at (by omega)]
      exact ⟨rfl, by omega⟩
    · by_cases hn : x.wn = []
      · rw [(v7 h hn t _).2.2.2, (v7 h hn t 0).1, e1, yfO_at (by omega), yfO_at (by omega)]
        exact ⟨rfl, by omega⟩
      · obtain ⟨b1, b2, b3, b4⟩ := no_span (k := x.wk) hk b'
        obtain ⟨q, hq⟩ : ∃ q, noY (t / 86400) x.wk = q := ⟨_, rfl⟩
        have f1 := fw_in q x.wk
        have f2 := fw_in (q + 1) x.wk
        have s := Cal.ny_succ q
        have l := Cal.lp_01 q
        have h9 : q + 1 ≤ 10000 := by
          rw [hq] at b3
          by_cases g : q ≤ 9999
          · omega
          · have n3 := Cal.ny_mono (a := 10000) (b := q) (by omega)
            have c3 : Cal.ny 10000 = 2932897 := by decide +kernel
            omega
        rw [(v8 h hn t _).2.2.2, (v8 h hn t 0).1, hq]
        rw [hq] at b1 b2
        rw [(wf_at (k := x.wk) (y := q) (by omega)).1, (wf_at (k := x.wk) (y := q + 1) (by omega)).1]
        exact ⟨rfl, by omega⟩
  obtain ⟨ho, p1, p2⟩ := ho
  obtain ⟨⟨s1, s2⟩, ⟨s3, s4⟩, _⟩ := sp_all hc ht ho
  refine spQ_iff.2 ⟨decide_eq_false (by omega), ho, mo_of (by omega) (by omega), mo_of (by omega) (by omega)⟩
/-- What the law asks of a time's period that has a span. -/
theorem sp_law {x : CV} {t : Int} (hc : ckB x = true) (ht : moO t = true) (hq : spQ x (perQ x t) = true) :
    (spA x (perQ x t) ≤ t ∧ t < spZ x (perQ x t)) ∧ spZ x (perQ x t) - spA x (perQ x t) ≤ 66000000 ∧ ∀ u, spA x (perQ x t) ≤ u → u < spZ x (perQ x t) → perV x u = perQ x t ∧ perE x u = 0 := by
  obtain ⟨q1, q2, q3, q4⟩ := spQ_iff.1 hq
  obtain ⟨⟨s1, s2⟩, ⟨s3, s4⟩, s5⟩ := sp_all hc ht q2
  have m1 := mo_bd q3
  have m2 := mo_bd q4
  refine ⟨⟨s1, s2⟩, by omega, fun u u1 u2 => ?_⟩
  have hu : moO u = true := mo_of (by omega) (by omega)
  have bu := mo_bd hu
  exact ⟨by rw [perV, if_pos ⟨hc, hu⟩]; exact s5 u ⟨bu.1, bu.2.1⟩ u1 u2, by rw [perE, if_pos hc, if_pos hu]⟩
theorem sp_beyond {x : CV} {p : Int} (hf : 1 ≤ x.fq ∧ x.fq ≤ 7) (hc : ckB x = true) (h : spE x (p + 1) = 0) : spF x (p + 1) = spZ x p := by
  rw [spE, if_pos hc] at h
  by_cases hq : spQ x (p + 1) = true
  · rw [spF, if_pos ⟨hc, hq⟩, sp_next p hf]
  · rw [if_neg hq] at h
    exact absurd h (by decide)
end Fil
end Go.Proofs.YtpbbnkgfheafpaaGreatDoor
/-
  Plain words: a rule with one list more, that has all, lets the same; with a day's number it lets those days alone.
-/
namespace Go.Proofs.YtpbbnkgfheafpaaGreatDoor
open Go.RowKit
namespace Fil
open Rcv (CV)
open Rck (ckE ckB frB eiB lsB gtB nmB)
open Civ (dY dM dD dnE)
def sevL (a : Int) (j : Nat) : List Int := (List.range j).map (fun i : Nat => a + (i : Int))
theorem sev_succ (a : Int) (j : Nat) : sevL a (j + 1) = sevL a j ++ [a + (j : Int)] := by simp [sevL, List.range_succ]
theorem sev_len (a : Int) (j : Nat) : (sevL a j).length = j := by simp [sevL]
theorem sev_has {a n : Int} {j : Nat} (h : a ≤ n ∧ n < a + (j : Int)) : (sevL a j).contains n = true := by
  rw [List.contains_iff_mem]
  refine List.mem_map.2 ⟨(n - a).toNat, List.mem_range.2 (by omega), by omega⟩
def withMo (x : CV) : CV := { x with mo := sevL 1 12 }
def withHr (x : CV) : CV := { x with hr := sevL 0 24 }
def withMd (x : CV) : CV := { x with md := [1] }
theorem mo12 : frB 1 12 (sevL 1 12) = true := by decide +kernel
theorem hr24 : frB 0 23 (sevL 0 24) = true := by decide +kernel
theorem md1 : eiB 31 [1] = true := by decide +kernel
theorem ck_mo {x : CV} (h : ckB x = true) (hd : x.dy = []) : ckB (withMo x) = true := by
  obtain ⟨fq, iv, ct, un, ua, ut, sc, mi, hr, dy, md, yd, wn, mo, sp, wk⟩ := x
  have n : sevL 1 12 ≠ [] := by decide +kernel
  simp only at hd
  subst hd
  simp only [ckB, lsB, gtB, withMo] at h ⊢
  simp only [Bool.and_eq_true, Bool.or_eq_true, decide_eq_true_eq, mo12, List.all_nil, n, and_false, not_false_eq_true, or_true, and_true, true_and] at h ⊢
  obtain ⟨h1, h2, h3, h4, h5, h6, h7, h8, h9, ⟨⟨⟨⟨⟨⟨⟨a1, a2⟩, a3⟩, _⟩, a5⟩, a6⟩, a7⟩, a8⟩, b1, ⟨⟨c2, c3⟩, c4⟩, c5⟩ := h
  exact ⟨(by first | exact h1 | exact decide_eq_true h1 | exact h1.imp decide_eq_true decide_eq_true), (by first | exact h2 | exact decide_eq_true h2 | exact h2.imp decide_eq_true decide_eq_true), (by first | exact h3 | exact decide_eq_true h3 | exact h3.imp decide_eq_true decide_eq_true), (by first | exact h4 | exact decide_eq_true h4 | exact h4.imp decide_eq_true decide_eq_true), (by first | exact h5 | exact decide_eq_true h5 | exact h5.imp decide_eq_true decide_eq_true), (by first | exact h6 | exact decide_eq_true h6 | exact h6.imp decide_eq_true decide_eq_true), (by first | exact h7 | exact decide_eq_true h7 | exact h7.imp decide_eq_true decide_eq_true), (by first | exact h8 | exact decide_eq_true h8 | exact h8.imp decide_eq_true decide_eq_true), (by first | exact h9 | exact decide_eq_true h9 | exact h9.imp decide_eq_true decide_eq_true), ⟨⟨⟨⟨⟨⟨(by first | exact a1 | exact decide_eq_true a1 | exact a1.imp decide_eq_true decide_eq_true), (by first | exact a2 | exact decide_eq_true a2 | exact a2.imp decide_eq_true decide_eq_true)⟩, (by first | exact a3 | exact decide_eq_true a3 | exact a3.imp decide_eq_true decide_eq_true)⟩, (by first | exact a5 | exact decide_eq_true a5 | exact a5.imp decide_eq_true decide_eq_true)⟩, (by first | exact a6 | exact decide_eq_true a6 | exact a6.imp decide_eq_true decide_eq_true)⟩, (by first | exact a7 | exact decide_eq_true a7 | exact a7.imp decide_eq_true decide_eq_true)⟩, (by first | exact a8 | exact decide_eq_true a8 | exact a8.imp decide_eq_true decide_eq_true)⟩, (by first | exact b1 | exact decide_eq_true b1 | exact b1.imp decide_eq_true decide_eq_true), ⟨(by first | exact c2 | exact decide_eq_true c2 | exact c2.imp decide_eq_true decide_eq_true), (by first | exact c3 | exact decide_eq_true c3 | exact c3.imp decide_eq_true decide_eq_true)⟩, (by first | exact c4 | exact decide_eq_true c4 | exact c4.imp decide_eq_true decide_eq_true)⟩
theorem ck_hr {x : CV} (h : ckB x = true) : ckB (withHr x) = true := by
  obtain ⟨fq, iv, ct, un, ua, ut, sc, mi, hr, dy, md, yd, wn, mo, sp, wk⟩ := x
  have n : sevL 0 24 ≠ [] := by decide +kernel
  have e : ∀ d, nmB { fq := fq, iv := iv, ct := ct, un := un, ua := ua, ut := ut, sc := sc, mi := mi, hr := sevL 0 24, dy := dy, md := md, yd := yd, wn := wn, mo := mo, sp := sp, wk := wk : CV } d = nmB { fq := fq, iv := iv, ct := ct, un := un, ua := ua, ut := ut, sc := sc, mi := mi, hr := hr, dy := dy, md := md, yd := yd, wn := wn, mo := mo, sp := sp, wk := wk : CV } d := fun _ => rfl
  simp only [ckB, lsB, gtB, withHr] at h ⊢
  simp only [Bool.and_eq_true, Bool.or_eq_true, decide_eq_true_eq, hr24, n, false_and, and_false, not_false_eq_true, or_true, and_true, funext e] at h ⊢
  obtain ⟨h1, h2, h3, h4, h5, h6, h7, h8, h9, ⟨⟨⟨⟨⟨⟨⟨a1, a2⟩, a3⟩, a4⟩, a5⟩, a6⟩, a7⟩, a8⟩, b1, ⟨⟨⟨c1, c2⟩, c3⟩, c4⟩, c5⟩ := h
  exact ⟨(by first | exact h1 | exact decide_eq_true h1 | exact h1.imp decide_eq_true decide_eq_true), (by first | exact h2 | exact decide_eq_true h2 | exact h2.imp decide_eq_true decide_eq_true), (by first | exact h3 | exact decide_eq_true h3 | exact h3.imp decide_eq_true decide_eq_true), (by first | exact h4 | exact decide_eq_true h4 | exact h4.imp decide_eq_true decide_eq_true), (by first | exact h5 | exact decide_eq_true h5 | exact h5.imp decide_eq_true decide_eq_true), (by first | exact h6 | exact decide_eq_true h6 | exact h6.imp decide_eq_true decide_eq_true), (by first | exact h7 | exact decide_eq_true h7 | exact h7.imp decide_eq_true decide_eq_true), (by first | exact h8 | exact decide_eq_true h8 | exact h8.imp decide_eq_true decide_eq_true), (by first | exact h9 | exact decide_eq_true h9 | exact h9.imp decide_eq_true decide_eq_true), ⟨⟨⟨⟨⟨⟨(by first | exact a1 | exact decide_eq_true a1 | exact a1.imp decide_eq_true decide_eq_true), (by first | exact a2 | exact decide_eq_true a2 | exact a2.imp decide_eq_true decide_eq_true)⟩, (by first | exact a4 | exact decide_eq_true a4 | exact a4.imp decide_eq_true decide_eq_true)⟩, (by first | exact a5 | exact decide_eq_true a5 | exact a5.imp decide_eq_true decide_eq_true)⟩, (by first | exact a6 | exact decide_eq_true a6 | exact a6.imp decide_eq_true decide_eq_true)⟩, (by first | exact a7 | exact decide_eq_true a7 | exact a7.imp decide_eq_true decide_eq_true)⟩, (by first | exact a8 | exact decide_eq_true a8 | exact a8.imp decide_eq_true decide_eq_true)⟩, (by first | exact b1 | exact decide_eq_true b1 | exact b1.imp decide_eq_true decide_eq_true), ⟨⟨(by first | exact c1 | exact decide_eq_true c1 | exact c1.imp decide_eq_true decide_eq_true), (by first | exact c2 | exact decide_eq_true c2 | exact c2.imp decide_eq_true decide_eq_true)⟩, (by first | exact c3 | exact decide_eq_true c3 | exact c3.imp decide_eq_true decide_eq_true)⟩, (by first | exact c4 | exact decide_eq_true c4 | exact c4.imp decide_eq_true decide_eq_true)⟩
theorem ck_md {x : CV} (h : ckB x = true) (hf : x.fq ≠ 5) : ckB (withMd x) = true := by
  obtain ⟨fq, iv, ct, un, ua, ut, sc, mi, hr, dy, md, yd, wn, mo, sp, wk⟩ := x
  simp only at hf
  have e : ∀ d, nmB { fq := fq, iv := iv, ct := ct, un := un, ua := ua, ut := ut, sc := sc, mi := mi, hr := hr, dy := dy, md := [1], yd := yd, wn := wn, mo := mo, sp := sp, wk := wk : CV } d = nmB { fq := fq, iv := iv, ct := ct, un := un, ua := ua, ut := ut, sc := sc, mi := mi, hr := hr, dy := dy, md := md, yd := yd, wn := wn, mo := mo, sp := sp, wk := wk : CV } d := fun _ => rfl
  simp only [ckB, lsB, gtB, withMd] at h ⊢
  simp only [Bool.and_eq_true, Bool.or_eq_true, decide_eq_true_eq, md1, false_and, and_false, not_false_eq_true, or_true, and_true, funext e, List.cons_ne_nil] at h ⊢
  obtain ⟨h1, h2, h3, h4, h5, h6, h7, h8, h9, ⟨⟨⟨⟨⟨⟨⟨a1, a2⟩, a3⟩, a4⟩, a5⟩, a6⟩, a7⟩, a8⟩, b1, ⟨⟨⟨c1, c2⟩, c3⟩, c4⟩, c5⟩ := h
  exact ⟨(by first | exact h1 | exact decide_eq_true h1 | exact h1.imp decide_eq_true decide_eq_true), (by first | exact h2 | exact decide_eq_true h2 | exact h2.imp decide_eq_true decide_eq_true), (by first | exact h3 | exact decide_eq_true h3 | exact h3.imp decide_eq_true decide_eq_true), (by first | exact h4 | exact decide_eq_true h4 | exact h4.imp decide_eq_true decide_eq_true), (by first | exact h5 | exact decide_eq_true h5 | exact h5.imp decide_eq_true decide_eq_true), (by first | exact h6 | exact decide_eq_true h6 | exact h6.imp decide_eq_true decide_eq_true), (by first | exact h7 | exact decide_eq_true h7 | exact h7.imp decide_eq_true decide_eq_true), (by first | exact h8 | exact decide_eq_true h8 | exact h8.imp decide_eq_true decide_eq_true), (by first | exact h9 | exact decide_eq_true h9 | exact h9.imp decide_eq_true decide_eq_true), ⟨⟨⟨⟨⟨⟨(by first | exact a1 | exact decide_eq_true a1 | exact a1.imp decide_eq_true decide_eq_true), (by first | exact a2 | exact decide_eq_true a2 | exact a2.imp decide_eq_true decide_eq_true)⟩, (by first | exact a3 | exact decide_eq_true a3 | exact a3.imp decide_eq_true decide_eq_true)⟩, (by first | exact a4 | exact decide_eq_true a4 | exact a4.imp decide_eq_true decide_eq_true)⟩, (by first | exact a6 | exact decide_eq_true a6 | exact a6.imp decide_eq_true decide_eq_true)⟩, (by first | exact a7 | exact decide_eq_true a7 | exact a7.imp decide_eq_true decide_eq_true)⟩, (by first | exact a8 | exact decide_eq_true a8 | exact a8.imp decide_eq_true decide_eq_true)⟩, (by first | exact b1 | exact decide_eq_true b1 | exact b1.imp decide_eq_true decide_eq_true), ⟨⟨(by first | exact c1 | exact decide_eq_true c1 | exact c1.imp decide_eq_true decide_eq_true), (by first | exact Or.inr hf | exact Or.inr (decide_eq_true hf))⟩, (by first | exact c3 | exact decide_eq_true c3 | exact c3.imp decide_eq_true decide_eq_true)⟩, (by first | exact c4 | exact decide_eq_true c4 | exact c4.imp decide_eq_true decide_eq_true)⟩
theorem ck_wn {x : CV} (h : ckB x = true) (hf : x.fq ≠ 7) : x.wn = [] := by
  obtain ⟨fq, iv, ct, un, ua, ut, sc, mi, hr, dy, md, yd, wn, mo, sp, wk⟩ := x
  simp only at hf
  simp only [ckB, gtB, Bool.and_eq_true, Bool.or_eq_true, decide_eq_true_eq] at h
  obtain ⟨_, _, _, _, _, _, _, _, _, _, _, ⟨⟨⟨c1, c2⟩, c3⟩, c4⟩, c5⟩ := h
  rcases c4 with c | c
  · exact c
  · exact absurd c hf
theorem ll_small {x : CV} (hf : x.fq ≤ 4) (hw : x.wn = []) (c d : Int) : llB x c d = true := by
  have f5 : x.fq ≠ 5 := by omega
  have f6 : x.fq ≠ 6 := by omega
  have f7 : x.fq ≠ 7 := by omega
  unfold llB
  simp [f5, f6, f7, hw]
theorem lets_mo {x : CV} {A T : Int} (h : ckB x = true) (hm : x.mo = []) (hd : x.dy = []) (hf : x.fq ≤ 4) (hT : moO T = true) : letP (withMo x) A T = letP x A T := by
  have hw := ck_wn h (by omega)
  have b := dD_bd hT
  rw [letP, letP, ck_mo h hd, h, letQ, letQ, ll_small (x := withMo x) hf hw, ll_small hf hw]
  have e1 : lcB (withMo x) A T = lcB x A T := rfl
  have e2 : lnB (withMo x) (T / 86400) = lnB x (T / 86400) := by
    have q : (sevL 1 12).contains (dM (T / 86400)) = true := sev_has (by omega)
    have l : lwB (withMo x) (T / 86400) = lwB x (T / 86400) := rfl
    rw [lnB, lnB, l, hm]
    show ((decide (sevL 1 12 = []) || (sevL 1 12).contains (dM (T / 86400))) && _) = _
    rw [q]
    simp [withMo]
    rfl
  have e3 : ldB (withMo x) (T / 86400) = ldB x (T / 86400) := by
    rw [ldB, ldB]
    show (decide (x.dy = []) || _) = _
    rw [hd]
    rfl
  rw [e1, e2, e3]
theorem lets_hr {x : CV} {A T : Int} (h : ckB x = true) (hm : x.hr = []) (hf : x.fq ≤ 3) : letP (withHr x) A T = letP x A T := by
  have hw := ck_wn h (by omega)
  rw [letP, letP, ck_hr h, h, letQ, letQ, ll_small (x := withHr x) (show x.fq ≤ 4 by omega) hw, ll_small (by omega) hw]
  have e1 : lcB (withHr x) A T = lcB x A T := by
    have q : onB (sevL 0 24) (decide (3 < x.fq)) (A % 86400 / 3600) (T % 86400 / 3600) = true := by
      rw [onB, sev_len, if_neg (by decide)]
      exact sev_has (by omega)
    have r : onB x.hr (decide (3 < x.fq)) (A % 86400 / 3600) (T % 86400 / 3600) = true := by
      rw [onB, hm, decide_eq_false (by omega)]
      rfl
    rw [lcB, lcB, r]
    show (_ && (_ && onB (sevL 0 24) (decide (3 < x.fq)) (A % 86400 / 3600) (T % 86400 / 3600))) = _
    rw [q]
    rfl
  have e2 : lnB (withHr x) (T / 86400) = lnB x (T / 86400) := rfl
  have e3 : ldB (withHr x) (T / 86400) = ldB x (T / 86400) := rfl
  rw [e1, e2, e3]
theorem lets_md {x : CV} {A T : Int} (h : ckB x = true) (hm : x.md = []) (hf : x.fq ≤ 4) (hT : moO T = true) : letP (withMd x) A T = (letP x A T && decide (dD (T / 86400) = 1)) := by
  have hw := ck_wn h (by omega)
  have b := mo_bd hT
  obtain ⟨Y, M, D, e1, e2, e3, y, mm, dd, e, _, _⟩ := dy_bounds (d := T / 86400) ⟨b.1, b.2.1⟩
  rw [letP, letP, ck_md h (by omega), h, letQ, letQ, ll_small (x := withMd x) hf hw, ll_small hf hw, e3]
  have q1 : lcB (withMd x) A T = lcB x A T := rfl
  have q3 : ldB (withMd x) (T / 86400) = ldB x (T / 86400) := rfl
  have q2 : lnB (withMd x) (T / 86400) = (lnB x (T / 86400) && decide (D = 1)) := by
    have l : lwB (withMd x) (T / 86400) = lwB x (T / 86400) := rfl
    have w : ewB [1] D (Cal.mlen Y M) = decide (D = 1) := by
      have n : ¬ (D - Cal.mlen Y M - 1 = 1) := by omega
      simp [ewB, n]
    rw [lnB, lnB, l, hm, e1, e2, e3]
    show (_ && ((decide (([1] : List Int) = []) || ewB [1] D (Cal.mlen Y M)) && _)) = _
    rw [w]
    have key : ∀ p1 p2 p3 q : Bool, (p1 && ((false || p3) && p2)) = ((p1 && ((true || q) && p2)) && p3) := by decide
    exact key (decide (x.mo = []) || x.mo.contains M) ((decide (x.yd = []) || ewB x.yd (Civ.ydV (T / 86400)) (ylen Y)) && (decide (x.wn = []) || lwB x (T / 86400))) (decide (D = 1)) (ewB [] D (Cal.mlen Y M))
  rw [q1, q2, q3]
  cases moO A <;> cases moO T <;> cases lcB x A T <;> cases lnB x (T / 86400) <;> cases ldB x (T / 86400) <;> simp
end Fil
end Go.Proofs.YtpbbnkgfheafpaaGreatDoor
/-
  Package filter: isNth of whatever rule, as Lets asks for it.
-/
namespace Go.Proofs.YtpbbnkgfheafpaaGreatDoor
open Go.RowKit
namespace Fil
open Rcv (CV LisV)
open Civ (dY dM Ahead)
theorem nth_all {x : CV} {s6 s7 s8 s9 s10 s11 s12 s13 s14 : Value} {w : World} (hA : Ahead w) (hl : LisV w x s6 s7 s8 s9 s10 s11 s12 s13 s14) : NthC x s6 s7 s8 s9 s10 s11 s12 s13 s14 w := fun q _ _ n0 n1 n2 n3 n4 n5 n6 n7 hy hm hb W hW =>
  nt_to x _ _ _ _ _ _ _ _ _ q.1 q.2 n0 n1 n2 n3 n4 n5 n6 n7 _ W (hA.stays hW) ((hl.below hW).h13) ⟨by omega, by omega⟩ (by rw [← hm]; exact dM_bd n0) (Lib.hid hy) (Lib.hid hm) (Lib.hid rfl)
end Fil
end Go.Proofs.YtpbbnkgfheafpaaGreatDoor
