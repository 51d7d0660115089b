/-
  Package encode: On without a move: whether it is encoded; in which month its day falls.
-/
import Derived.Test.YtklanblifjgppaaDoorEncDay
import Derived.Test.YtklanblifjgppaaDoorEncNum
import Derived.Test.YtklanblifjgppaaDoorEncSevA
import Derived.Test.YtklanblifjgppaaDoorEncSevB
namespace Go.Proofs.YtklanblifjgppaaDoor
open Go.RowKit
namespace Enc
open Wk Civ
def enE (month k _v d : Int) : Int := if k = 2 then 0 else if d ≤ Cal.mlen 2001 month ∧ 1 ≤ fromV k d 0 ∧ toV k d 0 ≤ Cal.mlen 2001 month then 0 else 17
theorem on0_to (month k v d c : Int) (w : World) (hmo : 1 ≤ month ∧ month ≤ 12) (ho : onOk k v d = true) (h : Hid (enE month k v d = c)) :
    Calls Tryd.prog 13 #[.int .i64 month, .agg #[.int .i64 k, .int .i64 v, .int .i64 d], .int .i64 0] w (fun e w' => ∃ r, RecQ r ∧ e = .returned (.tuple #[r, .int .i64 c]) ∧ Below w.heap.size w w') := by
  have HH := h.out
  obtain ⟨hv, hk4, hd⟩ := onOk_v ho
  by_cases k2 : k = 2
  · subst k2
    have : c = 0 := by rw [enE, if_pos rfl] at HH; exact HH.symm
    subst this
    exact (on_last month v d w hmo ho).mono fun e w' ⟨gd, gm, he, hb, _⟩ => ⟨_, ⟨_, _, _, _, _, _, _, _, _, _, _, _, rfl⟩, he, hb⟩
  · rw [enE, if_neg k2] at HH
    have hk2 : (k == 2) = false := beq_eq_false_iff_ne.2 k2
    by_cases hok : d ≤ Cal.mlen 2001 month ∧ 1 ≤ fromV k d 0 ∧ toV k d 0 ≤ Cal.mlen 2001 month
    · rw [if_pos hok] at HH
      subst HH
      obtain ⟨h1, h2, h3⟩ := hok
      by_cases k1 : k = 1
      · subst k1
        have e1 : fromV 1 d 0 = d := by unfold fromV; rw [if_neg (by decide)]; omega
        have e2 : toV 1 d 0 = d := by unfold toV; rw [if_neg (by decide)]; omega
        rw [e1] at h2
        rw [e2] at h3
        exact (on_day month v d 0 _ d w hmo (by omega) ho (Lib.hid rfl) (Lib.hid ⟨e1, e2⟩) h1 h2 h3).mono fun e w' ⟨gd, gm, he, hb, _⟩ => ⟨_, ⟨_, _, _, _, _, _, _, _, _, _, _, _, rfl⟩, he, hb⟩
      · have hk1 : (k == 1) = false := beq_eq_false_iff_ne.2 k1
        have e2 : toV k d 0 = fromV k d 0 + 6 := by
          have : k = 3 ∨ k = 4 := by omega
          rcases this with rfl | rfl
          · unfold fromV toV; rw [if_pos rfl, if_neg (by decide)]
          · unfold fromV toV; rw [if_neg (by decide), if_pos rfl]; omega
        rw [e2] at h3
        by_cases h4 : fromV k d 0 % 7 = 1 ∧ fromV k d 0 ≤ 22
        · exact (on_num month k v d 0 _ _ w hmo (by omega) ho ⟨hk1, hk2⟩ (Lib.hid rfl) (Lib.hid ⟨rfl, e2⟩) h2 h3 h1 h4.1 h4.2).mono fun e w' ⟨gd, gm, he, hb, _⟩ => ⟨_, ⟨_, _, _, _, _, _, _, _, _, _, _, _, rfl⟩, he, hb⟩
        · by_cases h5 : fromV k d 0 % 7 = 1
          · exact on_seven_b month k v d 0 _ _ w hmo (by omega) ho ⟨hk1, hk2⟩ (Lib.hid rfl) (Lib.hid ⟨rfl, e2⟩) h2 h3 h1 (by rw [h5]; rfl) (by omega)
          · exact on_seven_a month k v d 0 _ _ w hmo (by omega) ho ⟨hk1, hk2⟩ (Lib.hid rfl) (Lib.hid ⟨rfl, e2⟩) h2 h3 h1 (beq_eq_false_iff_ne.2 h5)
    · rw [if_neg hok] at HH
      subst HH
      exact (on_no month k v d 0 _ _ _ w hmo (by omega) ho hk2 (Lib.hid rfl) (Lib.hid ⟨rfl, rfl⟩) (by omega)).mono fun e w' ⟨he, hb⟩ => ⟨_, ⟨_, _, _, _, _, _, _, _, _, _, _, _, rfl⟩, he, hb⟩
theorem sdate_back {Y M D : Int} (h0 : 0 ≤ Y) (h1 : Y ≤ 10000) (m1 : 1 ≤ M) (m2 : M ≤ 12) (d1 : 1 ≤ D) (d2 : D ≤ Cal.mlen Y M) :
    dM (Cal.num Y M D) = M ∧ -719528 ≤ Cal.num Y M D ∧ Cal.num Y M D ≤ 2933262 := by
  obtain ⟨_, _, a3, a4, a5, a6⟩ := num_bd h0 h1 m1 m2 d1 d2
  have hy := Cal.yr_of a3 a4 a5 a6
  obtain ⟨b1, b2, b3⟩ := dd_yes (n := Cal.num Y M D) ⟨a5, a6⟩
  rw [hy] at b1 b2 b3
  have hr : Cal.num Y M D - Cal.ny Y = Cal.cum Y M + D - 1 := by unfold Cal.num; omega
  have hm : Cal.mon Y (Cal.num Y M D - Cal.ny Y) = M := Cal.mon_of m1 m2 (by omega) (by omega)
  exact ⟨by rw [b2]; exact hm, a5, a6⟩
theorem mlen_least (y m : Int) : Cal.mlen 2001 m ≤ Cal.mlen y m := by
  have h := Cal.lp_01 y
  have e : Cal.lp 2001 = 0 := by decide
  unfold Cal.mlen
  rw [e]
  split
  · omega
  · exact Int.le_refl _
/-- What is encoded falls in its month in each year. -/
theorem en_in {y month k v d : Int} (hy : 1 ≤ y ∧ y ≤ 9999) (hmo : 1 ≤ month ∧ month ≤ 12) (ho : onOk k v d = true) (k2 : k ≠ 2) (h : enE month k v d = 0) :
    resE y month k v d = 0 ∧ dM (resV y month k v d) = month ∧ -719528 ≤ resV y month k v d ∧ resV y month k v d ≤ 2933262 := by
  rw [enE, if_neg k2] at h
  by_cases hok : d ≤ Cal.mlen 2001 month ∧ 1 ≤ fromV k d 0 ∧ toV k d 0 ≤ Cal.mlen 2001 month
  · obtain ⟨h1, h2, h3⟩ := hok
    obtain ⟨hv, hk4, hd⟩ := onOk_v ho
    have ml := mlen_least y month
    have d1 : 1 ≤ d := by
      have := of_decide_eq_true ho
      omega
    have er : rday y month k d = d := by rw [rday, if_neg k2]
    obtain ⟨n1, _⟩ := numE_yes (y := y) (m := month) (d := d) ⟨by omega, by omega, d1, by omega⟩
    obtain ⟨r1, r2⟩ := res_0 (y := y) (m := month) (k := k) (v := v) (d := d) ho hy (by rw [er]; exact n1)
    rw [er] at r2
    have sb := since_bd v (Cal.num y month d)
    have ub := untl_bd (Cal.num y month d) v
    have hx : ∃ x, 1 ≤ x ∧ x ≤ Cal.mlen y month ∧ resV y month k v d = Cal.num y month x := by
      have : k = 1 ∨ k = 3 ∨ k = 4 := by omega
      rcases this with rfl | rfl | rfl
      · rw [if_neg (by omega), if_neg (by decide)] at r2
        exact ⟨d, d1, by omega, r2⟩
      · rw [if_neg (by omega), if_pos rfl] at r2
        unfold toV at h3
        rw [if_pos rfl] at h3
        exact ⟨d + untl (Cal.num y month d) v, by omega, by omega, by rw [r2]; unfold Cal.num; omega⟩
      · rw [if_pos (Or.inr rfl)] at r2
        unfold fromV at h2
        rw [if_pos rfl] at h2
        exact ⟨d - since v (Cal.num y month d), by omega, by omega, by rw [r2]; unfold Cal.num; omega⟩
    obtain ⟨x, x1, x2, e⟩ := hx
    obtain ⟨p1, p2, p3⟩ := sdate_back (Y := y) (M := month) (D := x) (by omega) (by omega) hmo.1 hmo.2 x1 x2
    rw [e]
    exact ⟨r1, p1, p2, p3⟩
  · rw [if_neg hok] at h; exact absurd h (by decide)
/-- Whether a year's day falls elsewhere, or there is none, or it is the 29th of a long February. -/
def smB (month k v d : Int) (i : Nat) : Bool := !(resE (2000 + i) month k v d == 0) || (!(dM (resV (2000 + i) month k v d) == month) || (month == 2 && dD (resV (2000 + i) month k v d) == 29))
theorem en_tab : ((List.range 12).all fun mo => (List.range 5).all fun k => (List.range 7).all fun v => (List.range 32).all fun d =>
    !(onOk (k : Int) (v : Int) (d : Int)) || ((enE ((mo : Int) + 1) (k : Int) (v : Int) (d : Int) == 0) || (List.range 40).any (smB ((mo : Int) + 1) (k : Int) (v : Int) (d : Int)))) = true := by decide +kernel
theorem en_out {month k v d : Int} (hmo : 1 ≤ month ∧ month ≤ 12) (ho : onOk k v d = true) (h : enE month k v d ≠ 0) : (List.range 40).any (smB month k v d) = true := by
  obtain ⟨h1, h2, h3⟩ := onOk_v ho
  obtain ⟨mo, rfl⟩ : ∃ n : Nat, month = (n : Int) + 1 := ⟨(month - 1).toNat, by omega⟩
  obtain ⟨k, rfl⟩ : ∃ n : Nat, k = n := ⟨k.toNat, by omega⟩
  obtain ⟨v, rfl⟩ : ∃ n : Nat, v = n := ⟨v.toNat, by omega⟩
  obtain ⟨d, rfl⟩ : ∃ n : Nat, d = n := ⟨d.toNat, by omega⟩
  have a := List.all_eq_true.1 en_tab mo (List.mem_range.2 (by omega))
  have b := List.all_eq_true.1 a k (List.mem_range.2 (by omega))
  have c := List.all_eq_true.1 b v (List.mem_range.2 (by omega))
  have e := List.all_eq_true.1 c d (List.mem_range.2 (by omega))
  rw [ho, beq_eq_false_iff_ne.2 h] at e
  simpa using e
/-- A resolved day of a year from 1 to 9990 is a day of the years. -/
theorem res_bd {y m k v d : Int} (hy : 1 ≤ y ∧ y ≤ 9990) : -719528 ≤ resV y m k v d ∧ resV y m k v d ≤ 2933262 := by
  unfold resV
  split
  · rename_i h
    have hn : numE y m (rday y m k d) = 0 := by
      unfold resE at h
      split at h
      · split at h
        · exact h
        · exact absurd h (by decide)
      · exact absurd h (by decide)
    have hv : 0 ≤ y ∧ y ≤ 10000 ∧ 1 ≤ rday y m k d ∧ rday y m k d ≤ Cal.mlen y m := by
      by_cases hv : 0 ≤ y ∧ y ≤ 10000 ∧ 1 ≤ rday y m k d ∧ rday y m k d ≤ Cal.mlen y m
      · exact hv
      · rw [(numE_no hv).1] at hn; exact absurd hn (by decide)
    obtain ⟨m1, m2⟩ := Cal.mlen_pos (y := y) (m := m) (by omega)
    obtain ⟨_, _, n1, n2, _, _⟩ := num_bd hv.1 hv.2.1 m1 m2 hv.2.2.1 hv.2.2.2
    have a1 := Cal.ny_mono (a := 1) (b := y) hy.1
    have a2 := Cal.ny_mono (a := y + 1) (b := 9991) (by omega)
    have a3 : Cal.ny 1 = -719162 := by decide
    have a4 : Cal.ny 9991 = 2929610 := by decide
    have sb := since_bd v (Cal.num y m (rday y m k d))
    have ub := untl_bd (Cal.num y m (rday y m k d)) v
    split
    · omega
    · split <;> omega
  · omega
end Enc
end Go.Proofs.YtklanblifjgppaaDoor
