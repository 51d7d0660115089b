/-
  recur in plain words: what is written of a right rule is read as it.
-/
import Derived.Test.YtbeefhmnoihmcaaGreatDoorRcpJ
import Derived.Test.YtbeefhmnoihmcaaGreatDoorRctF
import Derived.Test.YtbeefhmnoihmcaaGreatDoorValM
import Derived.Lib.IndexLaws
namespace Go.Proofs.YtbeefhmnoihmcaaGreatDoor
open Go.RowKit
namespace Rcb
open Rcp Spc Rct
open Wrd (smL)
open Rcv (CV)
open Rck (ckE ckB frB eiB dyB lsB gtB endB frB_iff dyB_iff)
open Sol (isDig parseB parseV)
open Civ (dnE dY dd_yes)
/-! ### Numbers -/
theorem dd_rn {u : Nat} (h : u < 1000000) : rnP (Lib.decDigits u) = ((u : Int), true) := by
  have l1 := Sol.decDigits_len (k := 5) (u := u) (by omega)
  have l0 := Sol.decDigits_pos u
  have ha := Sol.decDigits_all u
  have hb : parseB (Lib.decDigits u) = true := by
    rw [parseB, Bool.and_eq_true]
    exact ⟨decide_eq_true ⟨l0, by omega⟩, ha⟩
  rw [rnP, if_pos (by omega), Sol.parseV_yes hb, hb, Sol.decDigits_val]
theorem it_rn {n : Int} (h0 : 0 ≤ n) (h1 : n ≤ 999999) : rnP (Lib.itoa n) = (n, true) := by
  obtain ⟨u, rfl⟩ := Int.eq_ofNat_of_zero_le h0
  rw [Lib.itoa_nonneg]; exact dd_rn (by omega)
theorem tl_rn {n : Int} (h0 : 0 ≤ n) (h1 : n ≤ 999999) : rnP (Sol.textL n 0) = (n, true) := by
  obtain ⟨u, rfl⟩ := Int.eq_ofNat_of_zero_le h0
  rw [textL_in h0 (by decide) (by decide), padL_short (by simp)]
  exact dd_rn (by omega)
theorem tl_all {n : Int} (h0 : 0 ≤ n) : (Sol.textL n 0).all isDig = true := by
  obtain ⟨u, rfl⟩ := Int.eq_ofNat_of_zero_le h0
  rw [textL_in h0 (by decide) (by decide), padL_short (by simp)]
  exact Sol.decDigits_all _
theorem tl_l7 {n : Int} (h0 : 0 ≤ n) (h1 : n ≤ 999999) : (Sol.textL n 0).length ≤ 6 := by
  obtain ⟨u, rfl⟩ := Int.eq_ofNat_of_zero_le h0
  rw [textL_in h0 (by decide) (by decide), padL_short (by simp)]
  exact Sol.decDigits_len (k := 5) (by simp; omega)
theorem pre_n {c d : UInt8} (h : c ≠ d) (X : List UInt8) : Lib.hasPrefix (c :: X) [d] = false ∧ Lib.trimPrefix (c :: X) [d] = c :: X := by
  have e : Lib.hasPrefix (c :: X) [d] = false := by
    show (d == c && ([] : List UInt8).isPrefixOf X) = false
    rw [beq_eq_false_iff_ne.2 (fun e => h e.symm)]; rfl
  exact ⟨e, by rw [Lib.trimPrefix, e]; rfl⟩
theorem dig_ne {c : UInt8} (h : isDig c = true) : c ≠ 43 ∧ c ≠ 44 ∧ c ≠ 45 ∧ c ≠ 59 ∧ c ≠ 61 := by
  rw [isDig, decide_eq_true_eq] at h
  refine ⟨?_, ?_, ?_, ?_, ?_⟩ <;> (rintro rfl; revert h; decide)
theorem dd_head (u : Nat) : ∃ c r, Lib.decDigits u = c :: r ∧ isDig c = true := by
  have l0 := Sol.decDigits_pos u
  have ha := Sol.decDigits_all u
  cases h : Lib.decDigits u with
  | nil => rw [h] at l0; simp at l0
  | cons c r =>
    rw [h, List.all_cons, Bool.and_eq_true] at ha
    exact ⟨c, r, rfl, ha.1⟩
theorem it_rs {n : Int} (h0 : -999999 ≤ n) (h1 : n ≤ 999999) : rsP (Lib.itoa n) = (n, true) := by
  rcases (show n < 0 ∨ 0 ≤ n by omega) with h | h
  · obtain ⟨u, rfl⟩ : ∃ u : Nat, n = -(u : Int) := ⟨n.natAbs, by omega⟩
    rw [Lib.itoa_neg u (by omega)]
    have hp := Val.pre_yes 45 (Lib.decDigits u)
    have hx : rsX (45 :: Lib.decDigits u) = Lib.decDigits u := by rw [rsX, if_pos hp.1, hp.2]
    rw [rsP, if_pos hp.1, hx, dd_rn (by omega)]
  · obtain ⟨u, rfl⟩ := Int.eq_ofNat_of_zero_le h
    rw [Lib.itoa_nonneg]
    obtain ⟨c, r, e, hc⟩ := dd_head u
    have n1 := pre_n (dig_ne hc).2.2.1 r
    have n2 := pre_n (dig_ne hc).1 r
    have hx : rsX (Lib.decDigits u) = Lib.decDigits u := by rw [e, rsX, if_neg (by rw [n1.1]; decide), n2.2]
    have hn : ¬ Lib.hasPrefix (Lib.decDigits u) [45] = true := by rw [e, n1.1]; decide
    rw [rsP, if_neg hn, hx, dd_rn (by omega)]
theorem it_ch (n : Int) : ∀ c ∈ Lib.itoa n, c = 45 ∨ isDig c = true := by
  intro c hc
  rcases (show n < 0 ∨ 0 ≤ n by omega) with h | h
  · obtain ⟨u, rfl⟩ : ∃ u : Nat, n = -(u : Int) := ⟨n.natAbs, by omega⟩
    rw [Lib.itoa_neg u (by omega)] at hc
    rcases List.mem_cons.1 hc with e | e
    · exact Or.inl e
    · exact Or.inr (List.all_eq_true.1 (Sol.decDigits_all u) c e)
  · obtain ⟨u, rfl⟩ := Int.eq_ofNat_of_zero_le h
    rw [Lib.itoa_nonneg] at hc
    exact Or.inr (List.all_eq_true.1 (Sol.decDigits_all u) c hc)
theorem it_ne {n : Int} {c : UInt8} (hc : c ∈ Lib.itoa n) : c ≠ 44 ∧ c ≠ 59 ∧ c ≠ 61 := by
  rcases it_ch n c hc with rfl | h
  · decide
  · exact ⟨(dig_ne h).2.1, (dig_ne h).2.2.2.1, (dig_ne h).2.2.2.2⟩
theorem it_len {n : Int} (h0 : -999 ≤ n) (h1 : n ≤ 999) : 1 ≤ (Lib.itoa n).length ∧ (Lib.itoa n).length ≤ 4 := by
  rcases (show n < 0 ∨ 0 ≤ n by omega) with h | h
  · obtain ⟨u, rfl⟩ : ∃ u : Nat, n = -(u : Int) := ⟨n.natAbs, by omega⟩
    rw [Lib.itoa_neg u (by omega), List.length_cons]
    have := Sol.decDigits_len (k := 2) (u := u) (by omega)
    omega
  · obtain ⟨u, rfl⟩ := Int.eq_ofNat_of_zero_le h
    rw [Lib.itoa_nonneg]
    have := Sol.decDigits_len (k := 2) (u := u) (by omega)
    have := Sol.decDigits_pos u
    omega
/-! ### Pieces -/
theorem sp_joined {d : UInt8} : ∀ Ts : List (List UInt8), Ts ≠ [] → (∀ t ∈ Ts, ∀ c ∈ t, c ≠ d) → spG d [] (Lib.join Ts [d]) = Ts
  | [], h, _ => absurd rfl h
  | [t], _, h => by rw [Lib.join_one, sp_last t [] (h t List.mem_cons_self)]; rfl
  | t :: u :: r, _, h => by
    have e : Lib.join (t :: u :: r) [d] = t ++ d :: Lib.join (u :: r) [d] := by
      rw [Lib.join_cons, Lib.join_cons]; simp [Lib.joinTail]
    rw [e, sp_app t [] _ (h t List.mem_cons_self), sp_joined (u :: r) (by simp) (fun x hx => h x (List.mem_cons_of_mem _ hx))]
    rfl
theorem mem_join {d : UInt8} {c : UInt8} : ∀ Ts : List (List UInt8), c ∈ Lib.join Ts [d] → c = d ∨ ∃ t ∈ Ts, c ∈ t
  | [], h => by simp [Lib.join] at h
  | [t], h => by rw [Lib.join_one] at h; exact Or.inr ⟨t, List.mem_cons_self, h⟩
  | t :: u :: r, h => by
    have e : Lib.join (t :: u :: r) [d] = t ++ d :: Lib.join (u :: r) [d] := by
      rw [Lib.join_cons, Lib.join_cons]; simp [Lib.joinTail]
    rw [e, List.mem_append, List.mem_cons] at h
    rcases h with h | h | h
    · exact Or.inr ⟨t, List.mem_cons_self, h⟩
    · exact Or.inl h
    · rcases mem_join (u :: r) h with h | ⟨x, hx, h⟩
      · exact Or.inl h
      · exact Or.inr ⟨x, List.mem_cons_of_mem _ hx, h⟩
theorem rl_map {α : Type} {f : List UInt8 → α × Bool} {t : α → List UInt8} : ∀ L : List α, (∀ x ∈ L, f (t x) = (x, true)) → rlG f (L.map t) = some L
  | [], _ => by rw [List.map_nil, rlG]
  | x :: r, h => by rw [List.map_cons, rlG, h x List.mem_cons_self, rl_map r (fun y hy => h y (List.mem_cons_of_mem _ hy))]; rfl
theorem rl_back {α : Type} {f : List UInt8 → α × Bool} {t : α → List UInt8} {L : List α} (h0 : L ≠ []) (h : ∀ x ∈ L, f (t x) = (x, true)) (hc : ∀ x ∈ L, ∀ c ∈ t x, c ≠ 44) : rlP f (Lib.join (L.map t) [44]) = (L, true) := by
  rw [rlP, sp_joined _ (by simpa using h0) (by simpa using hc), rl_map L h]
theorem idx_app1 (p : UInt8) (R : List UInt8) : ∀ A : List UInt8, (∀ x ∈ A, x ≠ p) → Lib.indexByte (A ++ p :: R) p = A.length
  | [], _ => by rw [List.nil_append, Lib.indexByte]; simp
  | b :: A, h => by
    have ih := idx_app1 p R A (fun x hx => h x (List.mem_cons_of_mem _ hx))
    have hb : (b == p) = false := beq_eq_false_iff_ne.2 (h b (List.mem_cons_self ..))
    have hn : ((A.length : Int) == -1) = false := beq_eq_false_iff_ne.2 (by omega)
    rw [List.cons_append, Lib.indexByte, hb, ih, hn]
    simp
theorem cut_eq {A R : List UInt8} (h : ∀ x ∈ A, x ≠ 61) : Lib.cut (A ++ 61 :: R) [61] = (A, R, true) := by
  unfold Lib.cut
  rw [Lib.index_one, idx_app1 61 R A h, if_pos (by omega)]
  simp
/-! ### Days -/
theorem day_two (k : Nat) (h : k < 7) : (dayL.getD k []).length = 2 ∧ rwP (dayL.getD k []) = ((k : Int), true) ∧ ∀ c ∈ dayL.getD k [], c ≠ 44 ∧ c ≠ 59 ∧ c ≠ 61 := by
  have hv : k = 0 ∨ k = 1 ∨ k = 2 ∨ k = 3 ∨ k = 4 ∨ k = 5 ∨ k = 6 := by omega
  rcases hv with rfl | rfl | rfl | rfl | rfl | rfl | rfl <;> decide +kernel
theorem freq_back (k : Nat) (h : k < 7) : rfP (freqL.getD k []) = (1 + (k : Int), true) ∧ ∀ c ∈ freqL.getD k [], c ≠ 59 ∧ c ≠ 61 := by
  have hv : k = 0 ∨ k = 1 ∨ k = 2 ∨ k = 3 ∨ k = 4 ∨ k = 5 ∨ k = 6 := by omega
  rcases hv with rfl | rfl | rfl | rfl | rfl | rfl | rfl <;> decide +kernel
theorem rd_back {d : Int × Int} (h : 0 ≤ d.2 ∧ d.2 ≤ 6 ∧ -53 ≤ d.1 ∧ d.1 ≤ 53) : rdP (dyT d) = (d, true) := by
  obtain ⟨a, b⟩ := d
  obtain ⟨h1, h2, h3, h4⟩ := h
  simp only at h1 h2 h3 h4
  obtain ⟨k, rfl⟩ := Int.eq_ofNat_of_zero_le h1
  obtain ⟨l2, e2, _⟩ := day_two k (by omega)
  by_cases h0 : a = 0
  · subst h0
    have e : dyT (0, (k : Int)) = dayL.getD k [] := by rw [dyT]; simp
    rw [e, rdP, l2, if_neg (by omega), if_pos (Or.inr rfl), List.drop_zero, e2]
  · have e : dyT (a, (k : Int)) = Lib.itoa a ++ dayL.getD k [] := by rw [dyT]; simp [h0]
    have li := it_len (n := a) (by omega) (by omega)
    have hl : (Lib.itoa a ++ dayL.getD k []).length - 2 = (Lib.itoa a).length := by rw [List.length_append, l2]; omega
    have hll : (Lib.itoa a ++ dayL.getD k []).length = (Lib.itoa a).length + 2 := by rw [List.length_append, l2]
    rw [e, rdP, if_neg (by omega), hl, List.drop_left, List.take_left, e2, if_neg (by rintro (q | q) <;> first | cases q | omega), it_rs (by omega) (by omega)]
    simp [h0]
theorem dy_ch (d : Int × Int) (h : 0 ≤ d.2 ∧ d.2 ≤ 6) : ∀ c ∈ dyT d, c ≠ 44 ∧ c ≠ 59 ∧ c ≠ 61 := by
  intro c hc
  obtain ⟨k, hk⟩ := Int.eq_ofNat_of_zero_le h.1
  have q := day_two d.2.toNat (by omega)
  rw [dyT, List.mem_append] at hc
  rcases hc with hc | hc
  · split at hc
    · simp at hc
    · exact it_ne hc
  · exact q.2.2 c hc
theorem dy_len (d : Int × Int) (h : 0 ≤ d.2 ∧ d.2 ≤ 6 ∧ -53 ≤ d.1 ∧ d.1 ≤ 53) : (dyT d).length ≤ 6 := by
  have q := day_two d.2.toNat (by omega)
  have li := it_len (n := d.1) (by omega) (by omega)
  rw [dyT, List.length_append, q.1]
  split
  · simp
  · omega
/-! ### Parts -/
theorem pa_opt {P : Prop} [Decidable P] {N n V : List UInt8} {Ns R seen : List (List UInt8)} {y y' : CV} (hsub : ∀ q ∈ seen, q ∈ Ns) (hN : ∀ c ∈ N, c ≠ 61) (hs : smL N = n) (hn : n ∉ Ns) (hr : P → rpP n V y = (y', true)) (hno : ¬ P → y = y') :
    ∃ s', (∀ q ∈ s', q ∈ n :: Ns) ∧ paG ((if P then [N ++ 61 :: V] else []) ++ R) seen y = paG R s' y' := by
  by_cases hP : P
  · refine ⟨seen ++ [n], fun q hq => ?_, ?_⟩
    · rcases List.mem_append.1 hq with h | h
      · exact List.mem_cons_of_mem _ (hsub q h)
      · rw [List.mem_singleton.1 h]; exact List.mem_cons_self
    · rw [if_pos hP, List.singleton_append, paG, cut_eq hN]
      simp only
      rw [hs, hr hP, if_pos ⟨by trivial, fun h => hn (hsub n h), by trivial⟩]
  · exact ⟨seen, fun q hq => List.mem_cons_of_mem _ (hsub q hq), by rw [if_neg hP, List.nil_append, hno hP]⟩
theorem al_eq (Ls : List (List UInt8)) (N : List UInt8) (L : List Int) : alX Ls N L = Ls ++ (if L ≠ [] then [N ++ 61 :: Lib.join (L.map Lib.itoa) [44]] else []) := by
  rw [alX]
  by_cases h : L = []
  · rw [if_pos h, if_neg (fun k => k h), List.append_nil]
  · rw [if_neg h, if_pos h]; simp
theorem ad_eq (Ls : List (List UInt8)) (L : List (Int × Int)) : adX Ls L = Ls ++ (if L ≠ [] then [[66, 89, 68, 65, 89] ++ 61 :: Lib.join (L.map dyT) [44]] else []) := by
  rw [adX]
  by_cases h : L = []
  · rw [if_pos h, if_neg (fun k => k h), List.append_nil]
  · rw [if_neg h, if_pos h]; simp
/-- The parts of a rule's text. -/
def prt (x : CV) : List (List UInt8) :=
  (if True then [[70, 82, 69, 81] ++ 61 :: freqL.getD (x.fq - 1).toNat []] else []) ++
  ((if 1 < x.iv then [[73, 78, 84, 69, 82, 86, 65, 76] ++ 61 :: Sol.textL x.iv 0] else []) ++
  ((if 0 < x.ct then [[67, 79, 85, 78, 84] ++ 61 :: Sol.textL x.ct 0] else []) ++
  ((if x.un = true then [[85, 78, 84, 73, 76] ++ 61 :: Val.tmS x.ua x.ut] else []) ++
  ((if x.mo ≠ [] then [[66, 89, 77, 79, 78, 84, 72] ++ 61 :: Lib.join (x.mo.map Lib.itoa) [44]] else []) ++
  ((if x.wn ≠ [] then [[66, 89, 87, 69, 69, 75, 78, 79] ++ 61 :: Lib.join (x.wn.map Lib.itoa) [44]] else []) ++
  ((if x.yd ≠ [] then [[66, 89, 89, 69, 65, 82, 68, 65, 89] ++ 61 :: Lib.join (x.yd.map Lib.itoa) [44]] else []) ++
  ((if x.md ≠ [] then [[66, 89, 77, 79, 78, 84, 72, 68, 65, 89] ++ 61 :: Lib.join (x.md.map Lib.itoa) [44]] else []) ++
  ((if x.dy ≠ [] then [[66, 89, 68, 65, 89] ++ 61 :: Lib.join (x.dy.map dyT) [44]] else []) ++
  ((if x.hr ≠ [] then [[66, 89, 72, 79, 85, 82] ++ 61 :: Lib.join (x.hr.map Lib.itoa) [44]] else []) ++
  ((if x.mi ≠ [] then [[66, 89, 77, 73, 78, 85, 84, 69] ++ 61 :: Lib.join (x.mi.map Lib.itoa) [44]] else []) ++
  ((if x.sc ≠ [] then [[66, 89, 83, 69, 67, 79, 78, 68] ++ 61 :: Lib.join (x.sc.map Lib.itoa) [44]] else []) ++
  ((if x.sp ≠ [] then [[66, 89, 83, 69, 84, 80, 79, 83] ++ 61 :: Lib.join (x.sp.map Lib.itoa) [44]] else []) ++
  ((if x.wk ≠ 1 then [[87, 75, 83, 84] ++ 61 :: dayL.getD x.wk.toNat []] else []) ++ [])))))))))))))
theorem prt_eq (x : CV) : txW (txL (txH x) x) x = prt x := by
  have e : ∀ Ls : List (List UInt8), txW Ls x = Ls ++ (if x.wk ≠ 1 then [[87, 75, 83, 84] ++ 61 :: dayL.getD x.wk.toNat []] else []) := by
    intro Ls
    rw [txW]
    by_cases h : x.wk ≠ 1
    · rw [if_pos h, if_pos h]; rfl
    · rw [if_neg h, if_neg h, List.append_nil]
  rw [e, txL]
  simp only [al_eq, ad_eq]
  rw [txH, prt]
  simp only [List.append_assoc, List.append_nil, if_true]
  rfl
theorem ck_un {x : CV} (h : ckE x = 0) : ckB x = true := by
  cases hc : ckB x with
  | true => rfl
  | false => rw [ckE, hc] at h; exact absurd h (by decide)
/-- What is known of a right rule. -/
structure Rgt (x : CV) : Prop where
  f1 : 1 ≤ x.fq
  f2 : x.fq ≤ 7
  i1 : 1 ≤ x.iv
  i2 : x.iv ≤ 1000
  c1 : 0 ≤ x.ct
  c2 : x.ct ≤ 100000
  k1 : 0 ≤ x.wk
  k2 : x.wk ≤ 6
  en : endB x.un x.ua x.ut x.ct = true
  sc : ∀ n ∈ x.sc, 0 ≤ n ∧ n ≤ 59
  mi : ∀ n ∈ x.mi, 0 ≤ n ∧ n ≤ 59
  hr : ∀ n ∈ x.hr, 0 ≤ n ∧ n ≤ 23
  mo : ∀ n ∈ x.mo, 1 ≤ n ∧ n ≤ 12
  md : ∀ n ∈ x.md, -31 ≤ n ∧ n ≤ 31
  yd : ∀ n ∈ x.yd, -366 ≤ n ∧ n ≤ 366
  wn : ∀ n ∈ x.wn, -53 ≤ n ∧ n ≤ 53
  sp : ∀ n ∈ x.sp, -366 ≤ n ∧ n ≤ 366
  dy : ∀ d ∈ x.dy, 0 ≤ d.2 ∧ d.2 ≤ 6 ∧ -53 ≤ d.1 ∧ d.1 ≤ 53
theorem Rgt.of {x : CV} (h : ckE x = 0) : Rgt x := by
  have hb := ck_un h
  unfold ckB at hb
  simp only [Bool.and_eq_true, decide_eq_true_eq] at hb
  obtain ⟨f1, f2, i1, i2, c1, c2, k1, k2, en, hls, hdy, _⟩ := hb
  unfold lsB at hls
  simp only [Bool.and_eq_true] at hls
  obtain ⟨⟨⟨⟨⟨⟨⟨hsc, hmi⟩, hhr⟩, hmo⟩, hmd⟩, hyd⟩, hwn⟩, hsp⟩ := hls
  exact ⟨f1, f2, i1, i2, c1, c2, k1, k2, en, (frB_iff.1 hsc).1, (frB_iff.1 hmi).1, (frB_iff.1 hhr).1, (frB_iff.1 hmo).1, (frB_iff.1 (ei_fr hmd)).1, (frB_iff.1 (ei_fr hyd)).1, (frB_iff.1 (ei_fr hwn)).1, (frB_iff.1 (ei_fr hsp)).1, (dyB_iff.1 hdy).1⟩
/-- A right end is of the years. -/
theorem end_bd {ua : Int} (h : dnE (ua / 86400) = 0) (h1 : 1 ≤ dY (ua / 86400)) (h2 : dY (ua / 86400) ≤ 9999) : -62135596800 ≤ ua ∧ ua < 253402300800 ∧ Val.tmE ua = 0 := by
  have hr : -719528 ≤ ua / 86400 ∧ ua / 86400 ≤ 2933262 := by
    by_cases q : -719528 ≤ ua / 86400 ∧ ua / 86400 ≤ 2933262
    · exact q
    · rw [dnE, if_neg q] at h; exact absurd h (by decide)
  have e := (dd_yes hr).1
  obtain ⟨s1, s2, s3, s4⟩ := Cal.yr_spec hr.1 hr.2
  rw [← e] at s1 s2
  have m1 := Cal.ny_mono h1
  have m2 := Cal.ny_mono (show dY (ua / 86400) + 1 ≤ 10000 by omega)
  have n1 : Cal.ny 1 = -719162 := rfl
  have n2 : Cal.ny 10000 = 2932897 := rfl
  exact ⟨by omega, by omega, by rw [Val.tmE, if_pos ⟨h, h1, h2⟩]⟩
theorem end_yes {x : CV} (h : Rgt x) (hu : x.un = true) : -62135596800 ≤ x.ua ∧ x.ua < 253402300800 ∧ Val.tmE x.ua = 0 := by
  have e := h.en
  rw [endB, if_pos hu] at e
  simp only [Bool.and_eq_true, decide_eq_true_eq] at e
  exact end_bd e.1.1.1 e.1.1.2 e.1.2
theorem end_no {x : CV} (h : Rgt x) (hu : ¬ x.un = true) : x.ua = 0 ∧ x.ut = false := by
  have e := h.en
  rw [endB, if_neg hu] at e
  simpa using e
theorem rln {L : List Int} (h0 : L ≠ []) (h : ∀ n ∈ L, 0 ≤ n ∧ n ≤ 999) : rlP rnP (Lib.join (L.map Lib.itoa) [44]) = (L, true) :=
  rl_back h0 (fun n hn => it_rn (h n hn).1 (by have := (h n hn).2; omega)) (fun _ _ _ hc => (it_ne hc).1)
theorem rls {L : List Int} (h0 : L ≠ []) (h : ∀ n ∈ L, -999 ≤ n ∧ n ≤ 999) : rlP rsP (Lib.join (L.map Lib.itoa) [44]) = (L, true) :=
  rl_back h0 (fun n hn => it_rs (by have := (h n hn).1; omega) (by have := (h n hn).2; omega)) (fun _ _ _ hc => (it_ne hc).1)
theorem rld {L : List (Int × Int)} (h0 : L ≠ []) (h : ∀ d ∈ L, 0 ≤ d.2 ∧ d.2 ≤ 6 ∧ -53 ≤ d.1 ∧ d.1 ≤ 53) : rlP rdP (Lib.join (L.map dyT) [44]) = (L, true) :=
  rl_back h0 (fun d hd => rd_back (h d hd)) (fun d hd _ hc => (dy_ch d ⟨(h d hd).1, (h d hd).2.1⟩ _ hc).1)
theorem bd_w {a b : Int} {L : List Int} (h : ∀ n ∈ L, a ≤ n ∧ n ≤ b) {c d : Int} (hc : c ≤ a) (hd : b ≤ d) : ∀ n ∈ L, c ≤ n ∧ n ≤ d := fun n hn => by have := h n hn; omega
theorem notnot {α : Type} {L : List α} (h : ¬ L ≠ []) : L = [] := Classical.byContradiction h
/-- What is written of a right rule, part by part, is read as it. -/
theorem prt_back {x : CV} (h : Rgt x) : paG (prt x) [] r0 = some x := by
  obtain ⟨fq, iv, ct, un, ua, ut, sc, mi, hr, dy, md, yd, wn, mo, sp, wk⟩ := x
  have hb := h
  obtain ⟨f1, f2, i1, i2, c1, c2, k1, k2, en, hsc, hmi, hhr, hmo, hmd, hyd, hwn, hsp, hdy⟩ := h
  simp only at f1 f2 i1 i2 c1 c2 k1 k2 hsc hmi hhr hmo hmd hyd hwn hsp hdy
  unfold prt
  simp only
  obtain ⟨s1, u1, e1⟩ := pa_opt (P := True) (N := [70, 82, 69, 81]) (n := [102, 114, 101, 113]) (V := freqL.getD (fq - 1).toNat []) (Ns := []) (R := _) (seen := []) (y := r0) (y' := ⟨fq, 1, 0, false, 0, false, [], [], [], [], [], [], [], [], [], 1⟩) (by simp) (by decide) (by decide) (by decide)
    (fun _ => by
      have q := (freq_back (fq - 1).toNat (by omega)).1
      rw [show (1 + ((fq - 1).toNat : Int)) = fq by omega] at q
      generalize freqL.getD (fq - 1).toNat [] = D at q ⊢
      simp [rpP, q, r0]) (fun q => absurd trivial q)
  rw [e1]
  obtain ⟨s2, u2, e2⟩ := pa_opt (P := 1 < iv) (N := [73, 78, 84, 69, 82, 86, 65, 76]) (n := [105, 110, 116, 101, 114, 118, 97, 108]) (V := Sol.textL iv 0) (R := _) (y := ⟨fq, 1, 0, false, 0, false, [], [], [], [], [], [], [], [], [], 1⟩) (y' := ⟨fq, iv, 0, false, 0, false, [], [], [], [], [], [], [], [], [], 1⟩) u1 (by decide) (by decide) (by decide)
    (fun _ => by simp [rpP, tl_rn (n := iv) (by omega) (by omega)]) (fun q => by rw [show iv = 1 by omega])
  rw [e2]
  obtain ⟨s3, u3, e3⟩ := pa_opt (P := 0 < ct) (N := [67, 79, 85, 78, 84]) (n := [99, 111, 117, 110, 116]) (V := Sol.textL ct 0) (R := _) (y := ⟨fq, iv, 0, false, 0, false, [], [], [], [], [], [], [], [], [], 1⟩) (y' := ⟨fq, iv, ct, false, 0, false, [], [], [], [], [], [], [], [], [], 1⟩) u2 (by decide) (by decide) (by decide)
    (fun q => by simp [rpP, tl_rn (n := ct) (by omega) (by omega), q]) (fun q => by rw [show ct = 0 by omega])
  rw [e3]
  obtain ⟨s4, u4, e4⟩ := pa_opt (P := un = true) (N := [85, 78, 84, 73, 76]) (n := [117, 110, 116, 105, 108]) (V := Val.tmS ua ut) (R := _) (y := ⟨fq, iv, ct, false, 0, false, [], [], [], [], [], [], [], [], [], 1⟩) (y' := ⟨fq, iv, ct, un, ua, ut, [], [], [], [], [], [], [], [], [], 1⟩) u3 (by decide) (by decide) (by decide)
    (fun q => by
      have t := end_yes hb q
      have p := (Val.pt_back ut t.1 t.2.1).1
      simp [rpP, p, q]) (fun q => by
      have t := end_no hb q
      simp only at t
      rw [t.1, t.2, Bool.eq_false_iff.2 q])
  rw [e4]
  obtain ⟨s5, u5, e5⟩ := pa_opt (P := mo ≠ []) (N := [66, 89, 77, 79, 78, 84, 72]) (n := [98, 121, 109, 111, 110, 116, 104]) (V := Lib.join (mo.map Lib.itoa) [44]) (R := _) (y := ⟨fq, iv, ct, un, ua, ut, [], [], [], [], [], [], [], [], [], 1⟩) (y' := ⟨fq, iv, ct, un, ua, ut, [], [], [], [], [], [], [], mo, [], 1⟩) u4 (by decide) (by decide) (by decide)
    (fun q => by simp [rpP, rln q (bd_w hmo (by decide) (by decide))]) (fun q => by rw [notnot q])
  rw [e5]
  obtain ⟨s6, u6, e6⟩ := pa_opt (P := wn ≠ []) (N := [66, 89, 87, 69, 69, 75, 78, 79]) (n := [98, 121, 119, 101, 101, 107, 110, 111]) (V := Lib.join (wn.map Lib.itoa) [44]) (R := _) (y := ⟨fq, iv, ct, un, ua, ut, [], [], [], [], [], [], [], mo, [], 1⟩) (y' := ⟨fq, iv, ct, un, ua, ut, [], [], [], [], [], [], wn, mo, [], 1⟩) u5 (by decide) (by decide) (by decide)
    (fun q => by simp [rpP, rls q (bd_w hwn (by decide) (by decide))]) (fun q => by rw [notnot q])
  rw [e6]
  obtain ⟨s7, u7, e7⟩ := pa_opt (P := yd ≠ []) (N := [66, 89, 89, 69, 65, 82, 68, 65, 89]) (n := [98, 121, 121, 101, 97, 114, 100, 97, 121]) (V := Lib.join (yd.map Lib.itoa) [44]) (R := _) (y := ⟨fq, iv, ct, un, ua, ut, [], [], [], [], [], [], wn, mo, [], 1⟩) (y' := ⟨fq, iv, ct, un, ua, ut, [], [], [], [], [], yd, wn, mo, [], 1⟩) u6 (by decide) (by decide) (by decide)
    (fun q => by simp [rpP, rls q (bd_w hyd (by decide) (by decide))]) (fun q => by rw [notnot q])
  rw [e7]
  obtain ⟨s8, u8, e8⟩ := pa_opt (P := md ≠ []) (N := [66, 89, 77, 79, 78, 84, 72, 68, 65, 89]) (n := [98, 121, 109, 111, 110, 116, 104, 100, 97, 121]) (V := Lib.join (md.map Lib.itoa) [44]) (R := _) (y := ⟨fq, iv, ct, un, ua, ut, [], [], [], [], [], yd, wn, mo, [], 1⟩) (y' := ⟨fq, iv, ct, un, ua, ut, [], [], [], [], md, yd, wn, mo, [], 1⟩) u7 (by decide) (by decide) (by decide)
    (fun q => by simp [rpP, rls q (bd_w hmd (by decide) (by decide))]) (fun q => by rw [notnot q])
  rw [e8]
  obtain ⟨s9, u9, e9⟩ := pa_opt (P := dy ≠ []) (N := [66, 89, 68, 65, 89]) (n := [98, 121, 100, 97, 121]) (V := Lib.join (dy.map dyT) [44]) (R := _) (y := ⟨fq, iv, ct, un, ua, ut, [], [], [], [], md, yd, wn, mo, [], 1⟩) (y' := ⟨fq, iv, ct, un, ua, ut, [], [], [], dy, md, yd, wn, mo, [], 1⟩) u8 (by decide) (by decide) (by decide)
    (fun q => by simp [rpP, rld q hdy]) (fun q => by rw [notnot q])
  rw [e9]
  obtain ⟨s10, u10, e10⟩ := pa_opt (P := hr ≠ []) (N := [66, 89, 72, 79, 85, 82]) (n := [98, 121, 104, 111, 117, 114]) (V := Lib.join (hr.map Lib.itoa) [44]) (R := _) (y := ⟨fq, iv, ct, un, ua, ut, [], [], [], dy, md, yd, wn, mo, [], 1⟩) (y' := ⟨fq, iv, ct, un, ua, ut, [], [], hr, dy, md, yd, wn, mo, [], 1⟩) u9 (by decide) (by decide) (by decide)
    (fun q => by simp [rpP, rln q (bd_w hhr (by decide) (by decide))]) (fun q => by rw [notnot q])
  rw [e10]
  obtain ⟨s11, u11, e11⟩ := pa_opt (P := mi ≠ []) (N := [66, 89, 77, 73, 78, 85, 84, 69]) (n := [98, 121, 109, 105, 110, 117, 116, 101]) (V := Lib.join (mi.map Lib.itoa) [44]) (R := _) (y := ⟨fq, iv, ct, un, ua, ut, [], [], hr, dy, md, yd, wn, mo, [], 1⟩) (y' := ⟨fq, iv, ct, un, ua, ut, [], mi, hr, dy, md, yd, wn, mo, [], 1⟩) u10 (by decide) (by decide) (by decide)
    (fun q => by simp [rpP, rln q (bd_w hmi (by decide) (by decide))]) (fun q => by rw [notnot q])
  rw [e11]
  obtain ⟨s12, u12, e12⟩ := pa_opt (P := sc ≠ []) (N := [66, 89, 83, 69, 67, 79, 78, 68]) (n := [98, 121, 115, 101, 99, 111, 110, 100]) (V := Lib.join (sc.map Lib.itoa) [44]) (R := _) (y := ⟨fq, iv, ct, un, ua, ut, [], mi, hr, dy, md, yd, wn, mo, [], 1⟩) (y' := ⟨fq, iv, ct, un, ua, ut, sc, mi, hr, dy, md, yd, wn, mo, [], 1⟩) u11 (by decide) (by decide) (by decide)
    (fun q => by simp [rpP, rln q (bd_w hsc (by decide) (by decide))]) (fun q => by rw [notnot q])
  rw [e12]
  obtain ⟨s13, u13, e13⟩ := pa_opt (P := sp ≠ []) (N := [66, 89, 83, 69, 84, 80, 79, 83]) (n := [98, 121, 115, 101, 116, 112, 111, 115]) (V := Lib.join (sp.map Lib.itoa) [44]) (R := _) (y := ⟨fq, iv, ct, un, ua, ut, sc, mi, hr, dy, md, yd, wn, mo, [], 1⟩) (y' := ⟨fq, iv, ct, un, ua, ut, sc, mi, hr, dy, md, yd, wn, mo, sp, 1⟩) u12 (by decide) (by decide) (by decide)
    (fun q => by simp [rpP, rls q (bd_w hsp (by decide) (by decide))]) (fun q => by rw [notnot q])
  rw [e13]
  obtain ⟨s14, _, e14⟩ := pa_opt (P := wk ≠ 1) (N := [87, 75, 83, 84]) (n := [119, 107, 115, 116]) (V := dayL.getD wk.toNat []) (R := []) (y := ⟨fq, iv, ct, un, ua, ut, sc, mi, hr, dy, md, yd, wn, mo, sp, 1⟩) (y' := ⟨fq, iv, ct, un, ua, ut, sc, mi, hr, dy, md, yd, wn, mo, sp, wk⟩) u13 (by decide) (by decide) (by decide)
    (fun q => by
      have t := (day_two wk.toNat (by omega)).2.1
      rw [show (wk.toNat : Int) = wk by omega] at t
      generalize dayL.getD wk.toNat [] = D at t ⊢
      simp [rpP, t]) (fun q => by rw [show wk = 1 from Classical.byContradiction q])
  rw [e14, paG]
/-! ### The whole text -/
theorem tm_ch {t : Int} {u : Bool} (h0 : -62135596800 ≤ t) (h1 : t < 253402300800) : ∀ c ∈ Val.tmS t u, c ≠ 59 := by
  obtain ⟨e, y1, y2, m1, m2, d1, d2, _⟩ := Val.tm_parts h0 h1
  have hd : ∀ {l : List UInt8} {c : UInt8}, l.all isDig = true → c ∈ l → c ≠ 59 := fun hl hc => (dig_ne (List.all_eq_true.1 hl _ hc)).2.2.2.1
  intro c hc
  rw [Val.tmS, if_pos e, Val.tmL, Val.tmT] at hc
  have s0 := Int.emod_nonneg t (show (86400 : Int) ≠ 0 by decide)
  simp only [List.mem_append] at hc
  rcases hc with ((((((hc | hc) | hc) | hc) | hc) | hc) | hc) | hc
  · exact hd (Val.tx_all (d := 4) (by omega) (by decide)).1 hc
  · exact hd (Val.a2 (by omega)) hc
  · exact hd (Val.a2 (by omega)) hc
  · rw [List.mem_singleton.1 hc]; decide
  · exact hd (Val.a2 (by omega)) hc
  · exact hd (Val.a2 (by omega)) hc
  · exact hd (Val.a2 (by omega)) hc
  · split at hc
    · rw [List.mem_singleton.1 hc]; decide
    · simp at hc
/-- Of the parts: no semicolon, and none too long. -/
def Fit (t : List UInt8) : Prop := (∀ c ∈ t, c ≠ 59) ∧ t.length ≤ 7100
theorem fit_app {P : Prop} [Decidable P] {t : List UInt8} {R : List (List UInt8)} (h : P → Fit t) (hR : ∀ q ∈ R, Fit q) : ∀ q ∈ (if P then [t] else []) ++ R, Fit q := by
  intro q hq
  rcases List.mem_append.1 hq with hq | hq
  · split at hq
    · rename_i hP; rw [List.mem_singleton.1 hq]; exact h hP
    · simp at hq
  · exact hR q hq
theorem fit_mk {N V : List UInt8} (hN : (∀ c ∈ N, c ≠ 59) ∧ N.length ≤ 20) (hV : (∀ c ∈ V, c ≠ 59) ∧ V.length ≤ 7000) : Fit (N ++ 61 :: V) := by
  refine ⟨fun c hc => ?_, by rw [List.length_append, List.length_cons]; have := hN.2; have := hV.2; omega⟩
  rw [List.mem_append, List.mem_cons] at hc
  rcases hc with hc | rfl | hc
  · exact hN.1 c hc
  · decide
  · exact hV.1 c hc
theorem fit_ints {L : List Int} (hl : L.length ≤ 1000) (h : ∀ n ∈ L, -999 ≤ n ∧ n ≤ 999) : (∀ c ∈ Lib.join (L.map Lib.itoa) [44], c ≠ 59) ∧ (Lib.join (L.map Lib.itoa) [44]).length ≤ 7000 := by
  refine ⟨fun c hc => ?_, ?_⟩
  · rcases mem_join _ hc with rfl | ⟨t, ht, hc⟩
    · decide
    · obtain ⟨n, _, rfl⟩ := List.mem_map.1 ht
      exact (it_ne hc).2.1
  · have q := join_le 44 4 (L.map Lib.itoa) (fun t ht => by obtain ⟨n, hn, rfl⟩ := List.mem_map.1 ht; exact (it_len (h n hn).1 (h n hn).2).2)
    rw [List.length_map] at q
    omega
theorem fit_days {L : List (Int × Int)} (hl : L.length ≤ 1000) (h : ∀ d ∈ L, 0 ≤ d.2 ∧ d.2 ≤ 6 ∧ -53 ≤ d.1 ∧ d.1 ≤ 53) : (∀ c ∈ Lib.join (L.map dyT) [44], c ≠ 59) ∧ (Lib.join (L.map dyT) [44]).length ≤ 7000 := by
  refine ⟨fun c hc => ?_, ?_⟩
  · rcases mem_join _ hc with rfl | ⟨t, ht, hc⟩
    · decide
    · obtain ⟨d, hd, rfl⟩ := List.mem_map.1 ht
      exact (dy_ch d ⟨(h d hd).1, (h d hd).2.1⟩ c hc).2.1
  · have q := join_le 44 6 (L.map dyT) (fun t ht => by obtain ⟨d, hd, rfl⟩ := List.mem_map.1 ht; exact dy_len d (h d hd))
    rw [List.length_map] at q
    omega
theorem fit_num {n : Int} (h0 : 0 ≤ n) (h1 : n ≤ 999999) : (∀ c ∈ Sol.textL n 0, c ≠ 59) ∧ (Sol.textL n 0).length ≤ 7000 :=
  ⟨fun c hc => (dig_ne (List.all_eq_true.1 (tl_all h0) c hc)).2.2.2.1, by have := tl_l7 h0 h1; omega⟩
theorem prt_fit {x : CV} (h : Rgt x) (hl : Len3 x) : ∀ q ∈ prt x, Fit q := by
  unfold prt
  refine fit_app (fun _ => fit_mk (by decide) ⟨fun c hc => ((freq_back (x.fq - 1).toNat (by have := h.f1; have := h.f2; omega)).2 c hc).1, by have := freq_bd (x.fq - 1).toNat; omega⟩) ?_
  refine fit_app (fun _ => fit_mk (by decide) (fit_num (by have := h.i1; omega) (by have := h.i2; omega))) ?_
  refine fit_app (fun _ => fit_mk (by decide) (fit_num h.c1 (by have := h.c2; omega))) ?_
  refine fit_app (fun q => fit_mk (by decide) ⟨tm_ch (end_yes h q).1 (end_yes h q).2.1, by have := (Val.pt_back x.ut (end_yes h q).1 (end_yes h q).2.1).2; omega⟩) ?_
  refine fit_app (fun _ => fit_mk (by decide) (fit_ints hl.mo (bd_w h.mo (by decide) (by decide)))) ?_
  refine fit_app (fun _ => fit_mk (by decide) (fit_ints hl.wn (bd_w h.wn (by decide) (by decide)))) ?_
  refine fit_app (fun _ => fit_mk (by decide) (fit_ints hl.yd (bd_w h.yd (by decide) (by decide)))) ?_
  refine fit_app (fun _ => fit_mk (by decide) (fit_ints hl.md (bd_w h.md (by decide) (by decide)))) ?_
  refine fit_app (fun _ => fit_mk (by decide) (fit_days hl.dy h.dy)) ?_
  refine fit_app (fun _ => fit_mk (by decide) (fit_ints hl.hr (bd_w h.hr (by decide) (by decide)))) ?_
  refine fit_app (fun _ => fit_mk (by decide) (fit_ints hl.mi (bd_w h.mi (by decide) (by decide)))) ?_
  refine fit_app (fun _ => fit_mk (by decide) (fit_ints hl.sc (bd_w h.sc (by decide) (by decide)))) ?_
  refine fit_app (fun _ => fit_mk (by decide) (fit_ints hl.sp (bd_w h.sp (by decide) (by decide)))) ?_
  refine fit_app (fun _ => fit_mk (by decide) ?_) (by simp)
  have t := day_two x.wk.toNat (by have := h.k1; have := h.k2; omega)
  exact ⟨fun c hc => (t.2.2 c hc).2.1, by rw [t.1]; decide⟩
theorem len_if {P : Prop} [Decidable P] {t : List UInt8} {R : List (List UInt8)} {n : Nat} (h : R.length ≤ n) : ((if P then [t] else []) ++ R).length ≤ n + 1 := by
  rw [List.length_append]
  split
  · simp; omega
  · simp; omega
theorem prt_len (x : CV) : (prt x).length ≤ 14 := by
  unfold prt
  exact len_if (len_if (len_if (len_if (len_if (len_if (len_if (len_if (len_if (len_if (len_if (len_if (len_if (len_if (Nat.le_refl 0))))))))))))))
theorem prt_ne (x : CV) : prt x ≠ [] := by unfold prt; rw [if_pos trivial]; simp
theorem tx_eq {x : CV} (h : ckE x = 0) : txP x = (Lib.join (prt x) [59], 0) := by
  have hr := Rgt.of h
  rw [txP, if_neg (fun k => k h), if_neg (fun k => k.2 (end_yes hr k.1).2.2), prt_eq]
/-- What is written of a right rule is read as it. -/
theorem tx_back {x : CV} (h : ckE x = 0) (hl : Len3 x) : ∃ T, txP x = (T, 0) ∧ pxP T = (x, 0) ∧ T.length ≤ 100000 ∧ ∀ q ∈ spG 59 [] T, q.length ≤ 10000 := by
  have hr := Rgt.of h
  have hf := prt_fit hr hl
  have hs : spG 59 [] (Lib.join (prt x) [59]) = prt x := sp_joined _ (prt_ne x) (fun t ht => (hf t ht).1)
  refine ⟨_, tx_eq h, ?_, ?_, ?_⟩
  · rw [pxP, hs, prt_back hr]
    simp only
    rw [if_pos h]
  · have q := join_le 59 7100 (prt x) (fun t ht => (hf t ht).2)
    have := prt_len x
    have := Nat.mul_le_mul this (Nat.le_refl (7100 + 1))
    omega
  · rw [hs]; exact fun q hq => by have := (hf q hq).2; omega
theorem tx_inj {x y : CV} (hx : ckE x = 0) (hy : ckE y = 0) (lx : Len3 x) (ly : Len3 y) (h : (txP x).1 = (txP y).1) : x = y := by
  obtain ⟨T, e, p, _⟩ := tx_back hx lx
  obtain ⟨U, f, q, _⟩ := tx_back hy ly
  rw [e, f] at h
  simp only at h
  subst h
  rw [p] at q
  exact congrArg Prod.fst q
/-- What is read is right. -/
theorem px_ck {S : List UInt8} {x : CV} (h : pxP S = (x, 0)) : ckE x = 0 := by
  rw [pxP] at h
  split at h
  · exact absurd (show (21 : Int) = 0 from congrArg Prod.snd h) (by decide)
  · rename_i y _
    split at h
    · rename_i q
      have e : y = x := congrArg Prod.fst h
      rw [← e]; exact q
    · rename_i q; exact absurd (congrArg Prod.snd h) q
theorem px_zero {S : List UInt8} {x : CV} {c : Int} (h : pxP S = (x, c)) (hc : c ≠ 0) : x = CV.zero := by
  rw [pxP] at h
  split at h
  · exact (congrArg Prod.fst h).symm
  · rename_i y _
    split at h
    · exact absurd (congrArg Prod.snd h).symm hc
    · exact (congrArg Prod.fst h).symm
/-! ### Sizes of what is read -/
theorem len3_step {x : CV} (h : Len3 x) (N S : List UInt8) (hS : S.length ≤ 999) : Len3 (rpP N S x).1 := by
  obtain ⟨h1, h2, h3, h4, h5, h6, h7, h8, h9⟩ := h
  have a := rlP_len rnP S
  have b := rlP_len rsP S
  have c := rlP_len rdP S
  unfold rpP
  by_cases n0 : N = [102, 114, 101, 113]
  · rw [if_pos n0]; constructor <;> dsimp only <;> omega
  rw [if_neg n0]
  by_cases n1 : N = [105, 110, 116, 101, 114, 118, 97, 108]
  · rw [if_pos n1]; constructor <;> dsimp only <;> omega
  rw [if_neg n1]
  by_cases n2 : N = [99, 111, 117, 110, 116]
  · rw [if_pos n2]; constructor <;> dsimp only <;> omega
  rw [if_neg n2]
  by_cases n3 : N = [117, 110, 116, 105, 108]
  · rw [if_pos n3]; constructor <;> dsimp only <;> omega
  rw [if_neg n3]
  by_cases n4 : N = [98, 121, 109, 111, 110, 116, 104]
  · rw [if_pos n4]; constructor <;> dsimp only <;> omega
  rw [if_neg n4]
  by_cases n5 : N = [98, 121, 119, 101, 101, 107, 110, 111]
  · rw [if_pos n5]; constructor <;> dsimp only <;> omega
  rw [if_neg n5]
  by_cases n6 : N = [98, 121, 121, 101, 97, 114, 100, 97, 121]
  · rw [if_pos n6]; constructor <;> dsimp only <;> omega
  rw [if_neg n6]
  by_cases n7 : N = [98, 121, 109, 111, 110, 116, 104, 100, 97, 121]
  · rw [if_pos n7]; constructor <;> dsimp only <;> omega
  rw [if_neg n7]
  by_cases n8 : N = [98, 121, 100, 97, 121]
  · rw [if_pos n8]; constructor <;> dsimp only <;> omega
  rw [if_neg n8]
  by_cases n9 : N = [98, 121, 104, 111, 117, 114]
  · rw [if_pos n9]; constructor <;> dsimp only <;> omega
  rw [if_neg n9]
  by_cases n10 : N = [98, 121, 109, 105, 110, 117, 116, 101]
  · rw [if_pos n10]; constructor <;> dsimp only <;> omega
  rw [if_neg n10]
  by_cases n11 : N = [98, 121, 115, 101, 99, 111, 110, 100]
  · rw [if_pos n11]; constructor <;> dsimp only <;> omega
  rw [if_neg n11]
  by_cases n12 : N = [98, 121, 115, 101, 116, 112, 111, 115]
  · rw [if_pos n12]; constructor <;> dsimp only <;> omega
  rw [if_neg n12]
  by_cases n13 : N = [119, 107, 115, 116]
  · rw [if_pos n13]; constructor <;> dsimp only <;> omega
  rw [if_neg n13]
  constructor <;> dsimp only <;> omega
theorem cut_short {q : List UInt8} (h : (Lib.cut q [61]).2.2 = true) : (Lib.cut q [61]).2.1.length + 1 ≤ q.length := by
  unfold Lib.cut at h ⊢
  split at h
  · rename_i hi
    rw [if_pos hi]
    have e : Lib.index q [61] = ((Lib.index q [61]).toNat : Int) := by omega
    have hlt := (List.getElem?_eq_some_iff.1 (Lib.indexByte_some (l := q) (c := 61) (o := (Lib.index q [61]).toNat) (by rw [← Lib.index_one]; exact e)).1).1
    show (q.drop ((Lib.index q [61]).toNat + 1)).length + 1 ≤ _
    rw [List.length_drop]
    omega
  · cases h
theorem pa_len3 : ∀ (Q seen : List (List UInt8)) (x y : CV), Len3 x → (∀ q ∈ Q, q.length ≤ 1000) → paG Q seen x = some y → Len3 y
  | [], _, x, y, hx, _, h => by rw [paG] at h; cases h; exact hx
  | q :: r, seen, x, y, hx, hq, h => by
    rw [paG] at h
    split at h
    · rename_i c
      have l := cut_short c.1
      have l2 := hq q List.mem_cons_self
      exact pa_len3 r _ _ y (len3_step hx _ _ (by omega)) (fun z hz => hq z (List.mem_cons_of_mem _ hz)) h
    · cases h
theorem px_len3 {S : List UInt8} {x : CV} (hS : S.length ≤ 1000) (h : pxP S = (x, 0)) : Len3 x := by
  rw [pxP] at h
  split at h
  · exact absurd (show (21 : Int) = 0 from congrArg Prod.snd h) (by decide)
  · rename_i y hy
    have l := pa_len3 _ _ _ y ⟨by decide, by decide, by decide, by decide, by decide, by decide, by decide, by decide, by decide⟩ (fun q hq => by have := sp_sz S [] q hq; simp at this; omega) hy
    split at h
    · have e : y = x := congrArg Prod.fst h
      rw [← e]; exact l
    · rename_i q; exact absurd (congrArg Prod.snd h) q
theorem len3_zero : Len3 CV.zero := ⟨by decide, by decide, by decide, by decide, by decide, by decide, by decide, by decide, by decide⟩
theorem len3_sml {x : CV} (h : Len3 x) : Rcv.SmlC x := by
  obtain ⟨h1, h2, h3, h4, h5, h6, h7, h8, h9⟩ := h
  exact ⟨by omega, by omega, by omega, by omega, by omega, by omega, by omega, by omega, by omega⟩
end Rcb
end Go.Proofs.YtbeefhmnoihmcaaGreatDoor
