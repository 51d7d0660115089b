/-
  Plain facts on the calendar: long years, lengths of months, the number of a date and back.
-/
namespace Go.Proofs.YtpcnpacllkiieaaGreatDoor
namespace Cal
def long (y : Int) : Bool := decide (y % 4 = 0 ∧ (y % 100 ≠ 0 ∨ y % 400 = 0))
def lp (y : Int) : Int := if long y then 1 else 0
/-- How many days of a year that is not long stand ahead of a month. -/
def cum0 (m : Int) : Int := if m ≤ 1 then 0 else if m = 2 then 31 else if m = 3 then 59 else if m = 4 then 90 else if m = 5 then 120 else if m = 6 then 151 else if m = 7 then 181 else if m = 8 then 212 else if m = 9 then 243 else if m = 10 then 273 else if m = 11 then 304 else 334
def cum (y m : Int) : Int := cum0 m + (if 2 < m then lp y else 0)
def mlen (y m : Int) : Int := if m = 2 then 28 + lp y else if m = 4 ∨ m = 6 ∨ m = 9 ∨ m = 11 then 30 else if 1 ≤ m ∧ m ≤ 12 then 31 else 0
def ny (y : Int) : Int := 365 * y + ((y + 3) / 4 - (y + 99) / 100 + (y + 399) / 400) - 719528
def valid (y m d : Int) : Bool := decide (0 ≤ y ∧ y ≤ 10000 ∧ 1 ≤ d ∧ d ≤ mlen y m)
def num (y m d : Int) : Int := ny y + cum y m + d - 1
def wday (n : Int) : Int := (n + 4) % 7
/-- The year of a day. -/
def yr (n : Int) : Int := if n < ny ((n + 719528) * 400 / 146097) then (n + 719528) * 400 / 146097 - 1 else if ny ((n + 719528) * 400 / 146097 + 1) ≤ n then (n + 719528) * 400 / 146097 + 1 else (n + 719528) * 400 / 146097
/-- The month of a day of a year. -/
def mon (y r : Int) : Int := if cum y 12 ≤ r then 12 else if cum y 11 ≤ r then 11 else if cum y 10 ≤ r then 10 else if cum y 9 ≤ r then 9 else if cum y 8 ≤ r then 8 else if cum y 7 ≤ r then 7 else if cum y 6 ≤ r then 6 else if cum y 5 ≤ r then 5 else if cum y 4 ≤ r then 4 else if cum y 3 ≤ r then 3 else if cum y 2 ≤ r then 2 else 1

theorem lp_01 (y : Int) : 0 ≤ lp y ∧ lp y ≤ 1 := by unfold lp; split <;> omega
theorem ny_succ (y : Int) : ny (y + 1) = ny y + 365 + lp y := by
  unfold ny lp long
  by_cases h : y % 4 = 0 ∧ (y % 100 ≠ 0 ∨ y % 400 = 0)
  · rw [if_pos (by simpa using h)]; omega
  · rw [if_neg (by simpa using h)]; omega
theorem ny_mono {a b : Int} (h : a ≤ b) : ny a + 365 * (b - a) ≤ ny b := by unfold ny; omega
theorem ny_bd {y : Int} (h0 : 0 ≤ y) (h1 : y ≤ 10001) : -719528 ≤ ny y ∧ ny y ≤ 2933263 := by unfold ny; omega
theorem ny_10001 : ny 10001 = 2933263 := rfl
theorem guess {n : Int} (h0 : -719528 ≤ n) (h1 : n ≤ 2933262) (g : Int) (hg : g = (n + 719528) * 400 / 146097) : 0 ≤ g ∧ g ≤ 10000 + 1 ∧ ny (g - 1) ≤ n ∧ n < ny (g + 2) := by
  subst hg
  unfold ny
  omega
theorem ny_inj {a b n : Int} (a1 : ny a ≤ n) (a2 : n < ny (a + 1)) (b1 : ny b ≤ n) (b2 : n < ny (b + 1)) : a = b := by
  rcases Int.lt_trichotomy a b with h | h | h
  · have := ny_mono (a := a + 1) (b := b) (by omega); omega
  · exact h
  · have := ny_mono (a := b + 1) (b := a) (by omega); omega
theorem yr_spec {n : Int} (h0 : -719528 ≤ n) (h1 : n ≤ 2933262) : ny (yr n) ≤ n ∧ n < ny (yr n + 1) ∧ 0 ≤ yr n ∧ yr n ≤ 10000 := by
  obtain ⟨g0, g1, g2, g3⟩ := guess h0 h1 _ rfl
  have hb : ∀ y : Int, ny y ≤ n → y ≤ 10000 := fun y hy => by
    rcases Int.lt_or_le 10000 y with h | h
    · have := ny_mono (a := 10001) (b := y) (by omega); have := ny_10001; omega
    · exact h
  have hl : ∀ y : Int, n < ny (y + 1) → 0 ≤ y := fun y hy => by
    rcases Int.lt_or_le y 0 with h | h
    · have := ny_mono (a := y + 1) (b := 0) (by omega); have : ny 0 = -719528 := rfl; omega
    · exact h
  unfold yr
  generalize (n + 719528) * 400 / 146097 = g at *
  split
  · rename_i h
    have e : g - 1 + 1 = g := by omega
    refine ⟨g2, by rw [e]; exact h, hl _ (by rw [e]; exact h), hb _ g2⟩
  · split
    · rename_i h1 h2
      have e : g + 1 + 1 = g + 2 := by omega
      exact ⟨h2, by rw [e]; exact g3, hl _ (by rw [e]; exact g3), hb _ h2⟩
    · rename_i h1 h2
      exact ⟨by omega, by omega, hl _ (by omega), hb _ (by omega)⟩
theorem yr_of {n y : Int} (h1 : ny y ≤ n) (h2 : n < ny (y + 1)) (h0 : -719528 ≤ n) (hn : n ≤ 2933262) : yr n = y := by
  obtain ⟨a, b, _, _⟩ := yr_spec h0 hn
  exact ny_inj a b h1 h2
theorem yr_le {n y : Int} (h0 : -719528 ≤ n) (h1 : n ≤ 2933262) (h : ny y ≤ n) : y ≤ yr n := by
  obtain ⟨a, b, _, _⟩ := yr_spec h0 h1
  rcases Int.lt_or_le (yr n) y with k | k
  · have := ny_mono (a := yr n + 1) (b := y) (by omega); omega
  · exact k
theorem yr_lt {n y : Int} (h0 : -719528 ≤ n) (h1 : n ≤ 2933262) (h : n < ny y) : yr n < y := by
  obtain ⟨a, b, _, _⟩ := yr_spec h0 h1
  rcases Int.lt_or_le (yr n) y with k | k
  · exact k
  · have := ny_mono (a := y) (b := yr n) k; omega
theorem mlen_bd (y m : Int) : 0 ≤ mlen y m ∧ mlen y m ≤ 31 := by
  have := lp_01 y
  unfold mlen
  split
  · omega
  · split
    · omega
    · split <;> omega
theorem mlen_pos {y m : Int} (h : 1 ≤ mlen y m) : 1 ≤ m ∧ m ≤ 12 := by
  unfold mlen at h
  split at h
  · omega
  · split at h
    · omega
    · split at h <;> omega
theorem mlen_28 {y m : Int} (h1 : 1 ≤ m) (h2 : m ≤ 12) : 28 ≤ mlen y m := by
  have := lp_01 y
  unfold mlen
  split
  · omega
  · split
    · omega
    · split <;> omega
theorem cum_succ {y m : Int} (h1 : 1 ≤ m) (h2 : m ≤ 11) : cum y (m + 1) = cum y m + mlen y m := by
  have hm : m = 1 ∨ m = 2 ∨ m = 3 ∨ m = 4 ∨ m = 5 ∨ m = 6 ∨ m = 7 ∨ m = 8 ∨ m = 9 ∨ m = 10 ∨ m = 11 := by omega
  rcases hm with h | h | h | h | h | h | h | h | h | h | h <;> subst h <;> simp [cum, cum0, mlen] <;> omega
theorem cum_12 (y : Int) : cum y 12 + mlen y 12 = 365 + lp y := by simp [cum, cum0, mlen]; omega
theorem cum_1 (y : Int) : cum y 1 = 0 := rfl
theorem cum_bd {y m : Int} (h1 : 1 ≤ m) (h2 : m ≤ 12) : 0 ≤ cum y m ∧ cum y m + mlen y m ≤ 365 + lp y := by
  have hl := lp_01 y
  have hm : m = 1 ∨ m = 2 ∨ m = 3 ∨ m = 4 ∨ m = 5 ∨ m = 6 ∨ m = 7 ∨ m = 8 ∨ m = 9 ∨ m = 10 ∨ m = 11 ∨ m = 12 := by omega
  rcases hm with h | h | h | h | h | h | h | h | h | h | h | h <;> subst h <;> simp [cum, cum0, mlen] <;> omega
theorem cum_mono {y a b : Int} (h1 : 1 ≤ a) (h2 : a < b) (h3 : b ≤ 12) : cum y a + mlen y a ≤ cum y b := by
  have hl := lp_01 y
  have hm : a = 1 ∨ a = 2 ∨ a = 3 ∨ a = 4 ∨ a = 5 ∨ a = 6 ∨ a = 7 ∨ a = 8 ∨ a = 9 ∨ a = 10 ∨ a = 11 := by omega
  rcases hm with h | h | h | h | h | h | h | h | h | h | h <;> subst h
  all_goals
    have hb : b = 2 ∨ b = 3 ∨ b = 4 ∨ b = 5 ∨ b = 6 ∨ b = 7 ∨ b = 8 ∨ b = 9 ∨ b = 10 ∨ b = 11 ∨ b = 12 := by omega
    rcases hb with h | h | h | h | h | h | h | h | h | h | h <;> subst h <;> first | omega | (simp [cum, cum0, mlen] <;> omega)
theorem mon_spec {y r : Int} (h0 : 0 ≤ r) (h1 : r < 365 + lp y) : 1 ≤ mon y r ∧ mon y r ≤ 12 ∧ cum y (mon y r) ≤ r ∧ r < cum y (mon y r) + mlen y (mon y r) := by
  have c1 := cum_1 y
  have s12 := cum_12 y
  unfold mon
  by_cases h12 : cum y 12 ≤ r
  · rw [if_pos h12]; omega
  rw [if_neg h12]
  by_cases h11 : cum y 11 ≤ r
  · have s11 : cum y 12 = cum y 11 + mlen y 11 := cum_succ (m := 11) (by decide) (by decide)
    rw [if_pos h11]; omega
  rw [if_neg h11]
  by_cases h10 : cum y 10 ≤ r
  · have s10 : cum y 11 = cum y 10 + mlen y 10 := cum_succ (m := 10) (by decide) (by decide)
    rw [if_pos h10]; omega
  rw [if_neg h10]
  by_cases h9 : cum y 9 ≤ r
  · have s9 : cum y 10 = cum y 9 + mlen y 9 := cum_succ (m := 9) (by decide) (by decide)
    rw [if_pos h9]; omega
  rw [if_neg h9]
  by_cases h8 : cum y 8 ≤ r
  · have s8 : cum y 9 = cum y 8 + mlen y 8 := cum_succ (m := 8) (by decide) (by decide)
    rw [if_pos h8]; omega
  rw [if_neg h8]
  by_cases h7 : cum y 7 ≤ r
  · have s7 : cum y 8 = cum y 7 + mlen y 7 := cum_succ (m := 7) (by decide) (by decide)
    rw [if_pos h7]; omega
  rw [if_neg h7]
  by_cases h6 : cum y 6 ≤ r
  · have s6 : cum y 7 = cum y 6 + mlen y 6 := cum_succ (m := 6) (by decide) (by decide)
    rw [if_pos h6]; omega
  rw [if_neg h6]
  by_cases h5 : cum y 5 ≤ r
  · have s5 : cum y 6 = cum y 5 + mlen y 5 := cum_succ (m := 5) (by decide) (by decide)
    rw [if_pos h5]; omega
  rw [if_neg h5]
  by_cases h4 : cum y 4 ≤ r
  · have s4 : cum y 5 = cum y 4 + mlen y 4 := cum_succ (m := 4) (by decide) (by decide)
    rw [if_pos h4]; omega
  rw [if_neg h4]
  by_cases h3 : cum y 3 ≤ r
  · have s3 : cum y 4 = cum y 3 + mlen y 3 := cum_succ (m := 3) (by decide) (by decide)
    rw [if_pos h3]; omega
  rw [if_neg h3]
  by_cases h2 : cum y 2 ≤ r
  · have s2 : cum y 3 = cum y 2 + mlen y 2 := cum_succ (m := 2) (by decide) (by decide)
    rw [if_pos h2]; omega
  rw [if_neg h2]
  have s1 : cum y 2 = cum y 1 + mlen y 1 := cum_succ (m := 1) (by decide) (by decide)
  omega
theorem mon_of {y r m : Int} (h1 : 1 ≤ m) (h2 : m ≤ 12) (h3 : cum y m ≤ r) (h4 : r < cum y m + mlen y m) : mon y r = m := by
  have b := cum_bd (y := y) h1 h2
  obtain ⟨a1, a2, a3, a4⟩ := mon_spec (y := y) (r := r) (by omega) (by omega)
  rcases Int.lt_trichotomy (mon y r) m with h | h | h
  · have := cum_mono (y := y) a1 h h2; omega
  · exact h
  · have := cum_mono (y := y) h1 h a2; omega
end Cal
end Go.Proofs.YtpcnpacllkiieaaGreatDoor
