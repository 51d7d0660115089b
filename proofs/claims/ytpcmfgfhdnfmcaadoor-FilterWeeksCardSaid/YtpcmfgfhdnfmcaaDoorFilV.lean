/-
  FilterWeeks: the law answers true at every three integers, in whatever world that holds the table of the months.
-/
import Derived.Test.YtpcmfgfhdnfmcaaDoorFilT
namespace Go.Proofs.YtpcmfgfhdnfmcaaDoor
open Go.RowKit
namespace Fil
open Rcv (CV LisV IntV DayV)
open Rck (ckE ckB Small)
open Civ (numV numE dY dM dD dnE ydV Ahead)
open Wk (noY noN noE wkV wkE mid fw since)
open Cel
theorem mid_mod {n k : Int} (_h : 0 ≤ k ∧ k ≤ 6) : Cal.wday (mid n k) = (k + 3) % 7 := by unfold mid since Cal.wday; omega
theorem fw_mod {y k : Int} (hk : 0 ≤ k ∧ k ≤ 6) : Cal.wday (fw y k + 3) = (k + 3) % 7 := by
  have e : fw y k + 3 = mid (Wk.n4 y) k := by unfold fw mid; omega
  rw [e, mid_mod hk]
theorem fw_in (y k : Int) : Cal.ny y ≤ fw y k + 3 ∧ fw y k + 3 ≤ Cal.ny y + 6 := by
  have s := Wk.since_bd k (Wk.n4 y)
  have e : Wk.n4 y = Cal.ny y + 3 := by unfold Wk.n4 Cal.num; have := Cal.cum_1 y; omega
  unfold fw; omega
/-- A day's week is one of its year's weeks. -/
theorem no_in {n k : Int} (hk : 0 ≤ k ∧ k ≤ 6) (hn : -719100 ≤ n ∧ n < 2932800) : (1 ≤ noY n k ∧ noY n k ≤ 9999) ∧ 1 ≤ noN n k ∧ noN n k ≤ wkV (noY n k) k ∧ noN n k ≤ 53 ∧ noE n k = 0 ∧ wkE (noY n k) k = 0 := by
  have ok := wk_ok (n := n) (k := k) hk (by omega)
  have sb := Wk.since_bd k n
  obtain ⟨z, hz⟩ : ∃ z, mid n k = z := ⟨_, rfl⟩
  have zb : n - 3 ≤ z ∧ z ≤ n + 3 := by rw [← hz]; unfold mid; omega
  obtain ⟨a1, a2, _, _⟩ := Cal.yr_spec (n := z) (by omega) (by omega)
  have c1 : Cal.ny 1 = -719162 := by decide +kernel
  have c2 : Cal.ny 10000 = 2932897 := by decide +kernel
  have y1 := Cal.yr_le (n := z) (y := 1) (by omega) (by omega) (by omega)
  have y2 := Cal.yr_lt (n := z) (y := 10000) (by omega) (by omega) (by omega)
  have e1 : noY n k = Cal.yr z := by rw [noY, if_pos ok, hz]
  have e2 : noN n k = (z - Cal.ny (Cal.yr z)) / 7 + 1 := by rw [noN, if_pos ok, hz]
  have e3 : noE n k = 0 := by rw [noE, if_pos hk, if_pos ok]
  rw [e1, e2, e3]
  obtain ⟨y, hy⟩ : ∃ y, Cal.yr z = y := ⟨_, rfl⟩
  rw [hy] at a1 a2 y1 y2 ⊢
  have e4 : wkV y k = (fw (y + 1) k - fw y k) / 7 := by rw [wkV, if_pos ⟨hk, by omega⟩]
  have e5 : wkE y k = 0 := by rw [wkE, if_pos hk, if_pos (by omega)]
  rw [e4, e5]
  have f1 := fw_in y k
  have f2 := fw_in (y + 1) k
  have m1 := fw_mod (y := y) hk
  have m2 := fw_mod (y := y + 1) hk
  have m3 := mid_mod (n := n) hk
  rw [hz] at m3
  have s1 := Cal.ny_succ y
  have s2 := Cal.lp_01 y
  unfold Cal.wday at m1 m2 m3
  refine ⟨⟨y1, by omega⟩, by omega, by omega, by omega, rfl, rfl⟩
/-- A rule of one week's number. -/
def wnR (wk m : Int) : CV := ⟨7, 1, 0, false, 0, false, [], [], [], [], [], [], [m], [], [], wk⟩
theorem wnR_small (wk m : Int) : Small (wnR wk m) := ⟨by simp [wnR], by simp [wnR], by simp [wnR], by simp [wnR], by simp [wnR], by simp [wnR], by simp [wnR], by simp [wnR], by simp [wnR]⟩
theorem wnR_lis {w : World} {g : Nat} {wk m : Int} (h : Cs g w [.int .i64 m]) : LisV w (wnR wk m) (.slice none 0 0) (.slice none 0 0) (.slice none 0 0) (.slice none 0 0) (.slice none 0 0) (.slice none 0 0) (.slice (some ⟨g, 0, none⟩) 1 1) (.slice none 0 0) (.slice none 0 0) :=
  ⟨IntV.none w, IntV.none w, IntV.none w, DayV.none w, IntV.none w, IntV.none w, Rcv.int_one h, IntV.none w, IntV.none w⟩
theorem wnR_nth {wk m : Int} {w : World} {s6 s7 s8 s9 s10 s11 s12 s13 s14 : Value} : NthC (wnR wk m) s6 s7 s8 s9 s10 s11 s12 s13 s14 w := NthC.none (fun q hq => by simp [wnR] at hq)
theorem wnR_ck {wk m : Int} (hk : 0 ≤ wk ∧ wk ≤ 6) (hm : m ≠ 0 ∧ -53 ≤ m ∧ m ≤ 53) : ckB (wnR wk m) = true := by
  obtain ⟨k1, k2⟩ := hk
  obtain ⟨m0, m1, m2⟩ := hm
  simp [ckB, wnR, Rck.endB, Rck.lsB, Rck.frB, Rck.eiB, Rck.dyB, Rck.gtB, k1, k2, m0, m1, m2]
theorem wn_ew {m k n : Int} : ewB [m] k n = (decide (k = m) || decide (k - n - 1 = m)) := by
  simp [ewB]
theorem lc_same (x : CV) (h1 : x.sc = []) (h2 : x.mi = []) (h3 : x.hr = []) (t : Int) : lcB x t t = true := by simp [lcB, onB, h1, h2, h3]
/-- The three rules, as the law asks of them. -/
theorem wn_let {wk m T k n : Int} (hk : 0 ≤ wk ∧ wk ≤ 6) (hm : m ≠ 0 ∧ -53 ≤ m ∧ m ≤ 53) (ht : moO T = true) (hy : 1 ≤ noY (T / 86400) wk ∧ noY (T / 86400) wk ≤ 9999) (h1 : noN (T / 86400) wk = k) (h2 : wkV (noY (T / 86400) wk) wk = n) :
    letP (wnR wk m) T T = (decide (k = m) || decide (k - n - 1 = m)) := by
  rw [letP, wnR_ck hk hm, ht, letQ, lc_same _ rfl rfl rfl]
  have e1 : lnB (wnR wk m) (T / 86400) = ewB [m] k n := by
    have e : lwB (wnR wk m) (T / 86400) = ewB [m] k n := by
      rw [lwB, wkY]
      show ewB [m] (noN (T / 86400) wk) (wkV (if 1 ≤ noY (T / 86400) wk ∧ noY (T / 86400) wk ≤ 9999 then noY (T / 86400) wk else 400) wk) = _
      rw [if_pos hy, h1, h2]
    rw [lnB, e]
    simp [wnR]
  have e2 : ldB (wnR wk m) (T / 86400) = true := by simp [ldB, wnR]
  have e3 : llB (wnR wk m) (T / 86400) (T / 86400) = true := by
    unfold llB wnR
    simp
  rw [e1, e2, e3, wn_ew]
  simp
theorem wn_no {wk m T : Int} : letP (wnR wk m) (T - 86400) T = false := by
  have e : llB (wnR wk m) ((T - 86400) / 86400) (T / 86400) = false := by
    have h : Cal.wday (T / 86400) ≠ Cal.wday ((T - 86400) / 86400) := by unfold Cal.wday; omega
    unfold llB wnR
    simp [h]
  rw [letP, letQ, e]
  simp

set_option maxHeartbeats 25600000 in
set_option maxRecDepth 100000 in
theorem weeks22_any (t no wkst : Int) (w : World) (hA : Ahead w) :
    Calls Tryd.prog 8 #[.int .i64 t, .int .i64 no, .int .i64 wkst] w fun e w' => e = .returned (.bool true) ∧ Below w.heap.size w w' := by
  have HA := Lib.hid hA
  clear hA
  obtain ⟨T, hT⟩ : ∃ a, vsm t = a := ⟨_, rfl⟩
  have mT : moO T = true := by rw [← hT]; exact vsm_mo t
  have tb := vsm_bd t
  rw [hT] at tb
  have V1 := Lib.hid hT
  have MT := Lib.hid mT
  have TB := Lib.hid tb
  obtain ⟨U, hU⟩ : ∃ u, IntKind.u64.wrap no = u := ⟨_, rfl⟩
  have u0 : 0 ≤ U := by rw [← hU, IntKind.wrap_u64]; omega
  have r1 : U.tmod 53 = U % 53 := Int.tmod_eq_emod_of_nonneg u0
  obtain ⟨X, hX⟩ : ∃ u, IntKind.u64.wrap wkst = u := ⟨_, rfl⟩
  have x0 : 0 ≤ X := by rw [← hX, IntKind.wrap_u64]; omega
  have r2 : X.tmod 7 = X % 7 := Int.tmod_eq_emod_of_nonneg x0
  obtain ⟨m, hm⟩ : ∃ f, 1 + U % 53 = f := ⟨_, rfl⟩
  obtain ⟨K, hK⟩ : ∃ f, X % 7 = f := ⟨_, rfl⟩
  have mb : 1 ≤ m ∧ m ≤ 53 := by omega
  have kb : 0 ≤ K ∧ K ≤ 6 := by omega
  have b1 : 0 ≤ U % 53 ∧ U % 53 < 53 := by omega
  clear hT mT
  go_enter Tryd.func8, Tryd.ntmps8
  go_upto_region 1 with fail
  go_cut [0, 1, 2] (fun a b c wz => a = .int .i64 T ∧ b = .int .i64 m ∧ c = .int .i64 K ∧ Hid (Below w.heap.size w wz))
  case first =>
    go_wp2_with fail
    refine (vsome_to t T _ V1).mono ?_
    rintro e w1 ⟨rfl, k1⟩
    go_wp2
    go_meet
    refine ⟨rfl, ?_, ?_, Lib.hid k1⟩
    · first | (rw [← hm]; done) | (simp [hU, r1, ← hm]; done) | omega
    · first | (rw [← hK]; done) | (simp [hX, r2, ← hK]; done) | omega
  case rest =>
  obtain ⟨w1, rfl⟩ : ∃ x : World, x = wc := ⟨_, rfl⟩
  obtain ⟨rfl, rfl, rfl, B⟩ := hcut
  clear r1 hm u0 hU r2 hX x0 hK b1 tb
  obtain ⟨d, hd⟩ : ∃ d, T / 86400 = d := ⟨_, rfl⟩
  have E1 := (mo_bd MT.out).2.2.1
  have db := mo_bd MT.out
  rw [hd] at E1 db
  obtain ⟨Y, hY⟩ : ∃ z, dY d = z := ⟨_, rfl⟩
  obtain ⟨M, hM⟩ : ∃ z, dM d = z := ⟨_, rfl⟩
  obtain ⟨D, hD⟩ : ∃ z, dD d = z := ⟨_, rfl⟩
  have HD := Lib.hid hd
  have P1 := Lib.hid (And.intro hY (And.intro hM (And.intro hD E1)))
  have DB := Lib.hid (And.intro db.1 db.2.1)
  have KB := Lib.hid kb
  have MB := Lib.hid mb
  clear hd hY hM hD E1 db kb
  obtain ⟨mb1, mb2⟩ := mb
  go_upto_region 2 with fail
  go_cut [7] (fun a wz => a = .int .i64 d ∧ Hid (Below w.heap.size w wz))
  case first =>
    go_wp2_with fail
    refine (Civ.rdiv_any T 86400 _ (by decide) (by decide) (by have := TB.out; omega) (by have := TB.out; omega)).mono ?_
    rintro e w3 ⟨rfl, n, rfl⟩
    rw [HD.out]
    go_wp2
    go_meet
    exact ⟨rfl, Lib.hid (bdrew B.out n)⟩
  case rest =>
  obtain ⟨w5, rfl⟩ : ∃ x : World, x = wc := ⟨_, rfl⟩
  clear B
  obtain ⟨rfl, B⟩ := hcut
  go_upto_region 3 with fail
  go_cut [9, 10] (fun a b wz => ∃ g, a = .pointer (some ⟨g, 0, none⟩) ∧ b = .int .i64 0 ∧ Hid (Cs g wz [.int .i64 Y, .int .i64 M, .int .i64 D]) ∧ Hid (Below w.heap.size w wz))
  case first =>
    go_wp2_with fail
    refine (Civ.date_w d _ (HA.out.stays B.out)).mono ?_
    rintro e w7 ⟨rfl, hw⟩
    have k : Below w5.heap.size w5 w7 := by rw [← hw]; exact (Below.refl _ _).alloc (Nat.le_refl _) _
    have B := Lib.hid (bstep B.out k)
    clear hw k
    rw [P1.out.1, P1.out.2.1, P1.out.2.2.1, P1.out.2.2.2]
    go_wp2
    go_meet
    exact ⟨_, rfl, rfl, Lib.hid (Cs.new w7 [.int .i64 Y, .int .i64 M, .int .i64 D] _), Lib.hid (B.out.alloc B.out.size _)⟩
  case rest =>
  obtain ⟨w8, rfl⟩ : ∃ x : World, x = wc := ⟨_, rfl⟩
  clear B
  obtain ⟨g1, rfl, rfl, C1, B⟩ := hcut
  have y0 := (C1.out.2 0 _ rfl).1
  by_cases q1 : Y < 2
  · go_wp2_with fail
    refine (wakes22_any _ (HA.out.stays B.out)).mono ?_
    rintro e w13 ⟨rfl, k⟩
    go_wp2
    go_ret
    exact ⟨ret_b rfl, bstep B.out k⟩
  by_cases q2 : 9997 < Y
  · go_wp2_with fail
    refine (wakes22_any _ (HA.out.stays B.out)).mono ?_
    rintro e w13 ⟨rfl, k⟩
    go_wp2
    go_ret
    exact ⟨ret_b rfl, bstep B.out k⟩
  have dd : -719100 ≤ d ∧ d < 2932800 := by
    have e := P1.out.1
    have db := DB.out
    have e' : -719528 ≤ d ∧ d ≤ 2933262 := by omega
    rw [dY, if_pos e'] at e
    obtain ⟨a, b, _, _⟩ := Cal.yr_spec e'.1 e'.2
    rw [e] at a b
    have k1 := Cal.ny_mono (a := 2) (b := Y) (by omega)
    have k2 := Cal.ny_mono (a := Y + 1) (b := 9998) (by omega)
    have c1 : Cal.ny 2 = -718797 := by decide +kernel
    have c2 : Cal.ny 9998 = 2932167 := by decide +kernel
    omega
  obtain ⟨ny, nn, nw, n53, ne, we⟩ := no_in KB.out dd
  obtain ⟨YY, hYY⟩ : ∃ z, noY d K = z := ⟨_, rfl⟩
  obtain ⟨k, hk⟩ : ∃ z, noN d K = z := ⟨_, rfl⟩
  rw [hYY] at ny nw we
  rw [hk] at nn nw n53
  obtain ⟨n, hn⟩ : ∃ z, wkV YY K = z := ⟨_, rfl⟩
  rw [hn] at nw
  have vb := wkV_bd YY K
  rw [hn] at vb
  have NO := Lib.hid (And.intro hYY (And.intro hk ne))
  have WK := Lib.hid (And.intro hn we)
  have L1 : Hid (letP (wnR K m) T T = (k == m)) := Lib.hid (by
    rw [wn_let (k := k) (n := n) KB.out (by omega) MT.out (by rw [HD.out, hYY]; exact ny) (by rw [HD.out]; exact hk) (by rw [HD.out, hYY]; exact hn), decide_eq_false (show ¬ k - n - 1 = m by omega), Bool.or_false]
    rfl)
  have L2 : Hid (letP (wnR K (-m)) T T = (n - k + 1 == m)) := Lib.hid (by
    rw [wn_let (k := k) (n := n) KB.out (by omega) MT.out (by rw [HD.out, hYY]; exact ny) (by rw [HD.out]; exact hk) (by rw [HD.out, hYY]; exact hn), decide_eq_false (show ¬ k = -m by omega), Bool.false_or]
    exact decide_eq_decide.2 (by omega))
  have L3 : Hid (letP (wnR K k) (T - 86400) T = false) := Lib.hid wn_no
  obtain ⟨v1, hv1⟩ : ∃ v, (k == m) = v := ⟨_, rfl⟩
  obtain ⟨v2, hv2⟩ : ∃ v, (n - k + 1 == m) = v := ⟨_, rfl⟩
  rw [hv1] at L1
  rw [hv2] at L2
  have H1 := Lib.hid hv1
  have H2 := Lib.hid hv2
  obtain ⟨vb1, vb2⟩ := vb
  have tb := TB.out
  clear hYY hk hn ne we ny hv1 hv2 C1 dd
  go_upto_region 6 with fail
  go_cut [11, 12, 13] (fun a b c wz => a = .int .i64 YY ∧ b = .int .i64 k ∧ c = .int .i64 0 ∧ Hid (Below w.heap.size w wz))
  case first =>
    go_wp2_with fail
    refine (Wk.no_any d K _ (HA.out.stays B.out)).mono ?_
    rintro e w9 ⟨rfl, kk⟩
    rw [NO.out.1, NO.out.2.1, NO.out.2.2]
    go_wp2
    go_meet
    exact ⟨rfl, rfl, rfl, Lib.hid (bstep B.out kk)⟩
  case rest =>
  clear y0
  obtain ⟨w9, rfl⟩ : ∃ x : World, x = wc := ⟨_, rfl⟩
  clear B
  obtain ⟨rfl, rfl, rfl, B⟩ := hcut
  go_upto_region 7 with fail
  go_cut [14, 15] (fun a b wz => a = .int .i64 n ∧ b = .int .i64 0 ∧ Hid (Below w.heap.size w wz))
  case first =>
    go_wp2_with fail
    refine (Wk.weeks_any YY K _ (HA.out.stays B.out)).mono ?_
    rintro e w9 ⟨rfl, kk⟩
    rw [WK.out.1, WK.out.2]
    go_wp2
    go_meet
    exact ⟨rfl, rfl, Lib.hid (bstep B.out kk)⟩
  case rest =>
  obtain ⟨w10, rfl⟩ : ∃ x : World, x = wc := ⟨_, rfl⟩
  clear B
  obtain ⟨rfl, rfl, B⟩ := hcut
  go_upto_region 8 with fail
  go_cut [16] (fun v wz => v = .bool v1 ∧ Hid (Below w.heap.size w wz))
  case first =>
    go_wp2_with fail
    refine (lets_to (wnR K m) _ _ _ _ _ _ _ _ _ T T v1 _ (HA.out.stays ?_) (show (-9223372036854775808 : Int) ≤ 0 by decide) (show (0 : Int) ≤ 9223372036854775807 by decide) (wnR_lis (cs_at (by simp) [.int .i64 m] _)) (wnR_small _ _) wnR_nth (by have := TB.out; omega) (by have := TB.out; omega) (by have := TB.out; omega) (by have := TB.out; omega) L1).mono ?_
    · exact B.out.alloc B.out.size _
    rintro e w9 ⟨rfl, k⟩
    have B := Lib.hid (bstep (B.out.alloc B.out.size _) k)
    clear k
    go_wp2
    go_meet
    exact ⟨rfl, B⟩
  case rest =>
  obtain ⟨w8, rfl⟩ : ∃ x : World, x = wc := ⟨_, rfl⟩
  clear B
  obtain ⟨rfl, B⟩ := hcut
  go_upto_region 9 with fail
  go_cut [17] (fun v wz => v = .bool v2 ∧ Hid (Below w.heap.size w wz))
  case first =>
    go_wp2_with fail
    refine (lets_to (wnR K (-m)) _ _ _ _ _ _ _ _ _ T T v2 _ (HA.out.stays ?_) (show (-9223372036854775808 : Int) ≤ 0 by decide) (show (0 : Int) ≤ 9223372036854775807 by decide) (wnR_lis (cs_at (by simp) [.int .i64 (-m)] _)) (wnR_small _ _) wnR_nth (by have := TB.out; omega) (by have := TB.out; omega) (by have := TB.out; omega) (by have := TB.out; omega) L2).mono ?_
    · exact B.out.alloc B.out.size _
    rintro e w9 ⟨rfl, k⟩
    have B := Lib.hid (bstep (B.out.alloc B.out.size _) k)
    clear k
    go_wp2
    go_meet
    exact ⟨rfl, B⟩
  case rest =>
  obtain ⟨w8, rfl⟩ : ∃ x : World, x = wc := ⟨_, rfl⟩
  clear B
  obtain ⟨rfl, B⟩ := hcut
  go_upto_region 10 with fail
  go_cut [18] (fun v wz => v = .bool false ∧ Hid (Below w.heap.size w wz))
  case first =>
    go_wp2_with fail
    refine (lets_to (wnR K k) _ _ _ _ _ _ _ _ _ (T - 86400) T false _ (HA.out.stays ?_) (show (-9223372036854775808 : Int) ≤ 0 by decide) (show (0 : Int) ≤ 9223372036854775807 by decide) (wnR_lis (cs_at (by simp) [.int .i64 k] _)) (wnR_small _ _) wnR_nth (by have := TB.out; omega) (by have := TB.out; omega) (by have := TB.out; omega) (by have := TB.out; omega) L3).mono ?_
    · exact B.out.alloc B.out.size _
    rintro e w9 ⟨rfl, k⟩
    have B := Lib.hid (bstep (B.out.alloc B.out.size _) k)
    clear k
    go_wp2
    go_meet
    exact ⟨rfl, B⟩
  case rest =>
  obtain ⟨w8, rfl⟩ : ∃ x : World, x = wc := ⟨_, rfl⟩
  clear B
  obtain ⟨rfl, B⟩ := hcut
  have h1 := H1.out
  have h2 := H2.out
  cases v1 with
  | _ => cases v2 with
    | _ =>
      go_wp2_with fail
      refine (wakes22_any _ (HA.out.stays B.out)).mono ?_
      rintro e w13 ⟨rfl, k⟩
      go_wp2
      go_ret
      exact ⟨ret_b rfl, bstep B.out k⟩
end Fil
end Go.Proofs.YtpcmfgfhdnfmcaaDoor
