/-
  Plain facts on the texts of times and offsets: what is written is read; the later time's text comes behind; unlike offsets have unlike texts.
-/
import Derived.Test.YtbeefhmnoihmcaaGreatDoorVal5
namespace Go.Proofs.YtbeefhmnoihmcaaGreatDoor
open Go.RowKit
namespace Val
open Sol Civ Wk
theorem foldl_dig (l : List UInt8) : ∀ a : Int, l.foldl (fun n c => 10 * n + ((c.toNat : Int) - 48)) a = a * 10 ^ l.length + digVal l := by
  induction l with
  | nil => intro a; simp [digVal]
  | cons c r ih =>
    intro a
    have h1 := ih (10 * a + ((c.toNat : Int) - 48))
    have h2 := ih (10 * 0 + ((c.toNat : Int) - 48))
    have h3 : digVal (c :: r) = r.foldl (fun n c => 10 * n + ((c.toNat : Int) - 48)) (10 * 0 + ((c.toNat : Int) - 48)) := rfl
    rw [List.foldl_cons, h1, h3, h2, List.length_cons, Int.pow_succ, Int.add_mul, Int.add_mul, Int.mul_comm (10 : Int) a, Int.mul_assoc a 10, Int.mul_comm (10 : Int) (10 ^ r.length)]
    simp [Int.add_assoc]
theorem digVal_cons (c : UInt8) (r : List UInt8) : digVal (c :: r) = ((c.toNat : Int) - 48) * 10 ^ r.length + digVal r := by
  have h := foldl_dig r (10 * 0 + ((c.toNat : Int) - 48))
  have h3 : digVal (c :: r) = r.foldl (fun n c => 10 * n + ((c.toNat : Int) - 48)) (10 * 0 + ((c.toNat : Int) - 48)) := rfl
  rw [h3, h]; simp
theorem less_irr : ∀ l : List UInt8, Op.bytesLess l l = false
  | [] => rfl
  | c :: r => by rw [Op.bytesLess, less_irr r]; simp
theorem less_asym : ∀ l k : List UInt8, Op.bytesLess l k = true → Op.bytesLess k l = false
  | _, [], h => by rw [Op.bytesLess] at h; cases h
  | [], _ :: _, _ => by rw [Op.bytesLess]
  | a :: x, b :: y, h => by
    rw [Op.bytesLess] at h ⊢
    rw [Bool.or_eq_true, Bool.and_eq_true, decide_eq_true_eq, beq_iff_eq] at h
    rcases h with h | ⟨rfl, h⟩
    · have h1 : ¬ b < a := UInt8.lt_asymm h
      have h2 : ¬ b = a := fun e => by subst e; exact UInt8.lt_irrefl _ h
      rw [decide_eq_false h1, beq_eq_false_iff_ne.2 h2]; rfl
    · rw [less_asym x y h]; simp
theorem less_app : ∀ (a b x y : List UInt8), a.length = b.length → Op.bytesLess a b = true → Op.bytesLess (a ++ x) (b ++ y) = true
  | _, [], _, _, _, h => by rw [Op.bytesLess] at h; cases h
  | [], _ :: _, _, _, l, _ => by simp at l
  | a :: p, b :: q, x, y, l, h => by
    rw [List.cons_append, List.cons_append, Op.bytesLess]
    rw [Op.bytesLess, Bool.or_eq_true, Bool.and_eq_true] at h
    rw [Bool.or_eq_true, Bool.and_eq_true]
    exact h.imp id (fun h => ⟨h.1, less_app p q x y (by simpa using l) h.2⟩)
theorem less_same : ∀ (a x y : List UInt8), Op.bytesLess x y = true → Op.bytesLess (a ++ x) (a ++ y) = true
  | [], _, _, h => h
  | a :: p, x, y, h => by
    rw [List.cons_append, List.cons_append, Op.bytesLess, less_same p x y h]; simp
theorem dig_less : ∀ (x y : List UInt8), x.length = y.length → x.all isDig = true → y.all isDig = true → digVal x < digVal y → Op.bytesLess x y = true
  | [], [], _, _, _, h => by rw [digVal_nil] at h; omega
  | [], _ :: _, l, _, _, _ => by simp at l
  | _ :: _, [], l, _, _, _ => by simp at l
  | a :: p, b :: q, l, ha, hb, h => by
    rw [List.all_cons, Bool.and_eq_true] at ha hb
    have hl : p.length = q.length := by simpa using l
    rw [digVal_cons, digVal_cons, hl] at h
    have d1 := digVal_bd p ha.2
    have d2 := digVal_bd q hb.2
    rw [hl] at d1
    rw [Op.bytesLess, Bool.or_eq_true, Bool.and_eq_true, decide_eq_true_eq, beq_iff_eq]
    rcases Nat.lt_trichotomy a.toNat b.toNat with k | k | k
    · exact Or.inl (UInt8.lt_iff_toNat_lt.2 k)
    · have e : a = b := UInt8.toNat_inj.1 k
      subst e
      exact Or.inr ⟨rfl, dig_less p q hl ha.2 hb.2 (by omega)⟩
    · exfalso
      have k2 : (b.toNat : Int) - 48 + 1 ≤ (a.toNat : Int) - 48 := by omega
      have k3 := Int.mul_le_mul_of_nonneg_right k2 (show (0 : Int) ≤ 10 ^ q.length by omega)
      rw [Int.add_mul] at k3
      omega
/-- A text of so many digits: its signs, its length, its number. -/
theorem tx_all {h : Int} {d : Nat} (h0 : 0 ≤ h) (d2 : d ≤ 20) : (textL h d).all isDig = true ∧ digVal (textL h d) = h := by
  have e : textL h d = padL d (Lib.decDigits h.toNat) := by rw [textL, if_neg (by omega), if_pos (by omega)]; rfl
  rw [e]
  exact ⟨padL_all _ _, by rw [padL_val]; omega⟩
theorem tx_parse {h : Int} {d : Nat} (h0 : 0 ≤ h) (d1 : 1 ≤ d) (d2 : d ≤ 18) (h1 : h < 10 ^ d) : parseB (textL h d) = true ∧ parseV (textL h d) = h := by
  obtain ⟨a, b⟩ := tx_all (d := d) h0 (by omega)
  have l := tx_len h d h0 d1 (by omega) h1
  have p : parseB (textL h d) = true := parseB_yes (by omega) (by omega) a
  exact ⟨p, by rw [parseV_yes p, b]⟩
theorem tx_less {a b : Int} {d : Nat} (h0 : 0 ≤ a) (h : a < b) (d1 : 1 ≤ d) (d2 : d ≤ 20) (h1 : b < 10 ^ d) : Op.bytesLess (textL a d) (textL b d) = true := by
  obtain ⟨a1, a2⟩ := tx_all (h := a) (d := d) h0 d2
  obtain ⟨b1, b2⟩ := tx_all (h := b) (d := d) (by omega) d2
  exact dig_less _ _ (by rw [tx_len a d h0 d1 d2 (by omega), tx_len b d (by omega) d1 d2 h1]) a1 b1 (by omega)
theorem l4 {h : Int} (h0 : 0 ≤ h) (h1 : h ≤ 9999) : (textL h 4).length = 4 := tx_len h 4 h0 (by decide) (by decide) (by omega)
theorem l2 {h : Int} (h0 : 0 ≤ h) (h1 : h ≤ 99) : (textL h 2).length = 2 := tx_len h 2 h0 (by decide) (by decide) (by omega)
theorem s4 {a b : Int} (h0 : 0 ≤ a) (h : a < b) (h1 : b ≤ 9999) : (textL a 4).length = (textL b 4).length ∧ Op.bytesLess (textL a 4) (textL b 4) = true :=
  ⟨by rw [l4 h0 (by omega), l4 (by omega) h1], tx_less (d := 4) h0 h (by decide) (by decide) (by omega)⟩
theorem s2 {a b : Int} (h0 : 0 ≤ a) (h : a < b) (h1 : b ≤ 99) : (textL a 2).length = (textL b 2).length ∧ Op.bytesLess (textL a 2) (textL b 2) = true :=
  ⟨by rw [l2 h0 (by omega), l2 (by omega) h1], tx_less (d := 2) h0 h (by decide) (by decide) (by omega)⟩
theorem p4 {h : Int} (h0 : 0 ≤ h) (h1 : h ≤ 9999) : parseB (textL h 4) = true ∧ parseV (textL h 4) = h := tx_parse (d := 4) h0 (by decide) (by decide) (by omega)
theorem p2 {h : Int} (h0 : 0 ≤ h) (h1 : h ≤ 99) : parseB (textL h 2) = true ∧ parseV (textL h 2) = h := tx_parse (d := 2) h0 (by decide) (by decide) (by omega)
theorem a2 {h : Int} (h0 : 0 ≤ h) : (textL h 2).all isDig = true := (tx_all (d := 2) h0 (by decide)).1
/-- The parts of a time of a year from 1 to 9999. -/
theorem tm_parts {t : Int} (h0 : -62135596800 ≤ t) (h1 : t < 253402300800) :
    tmE t = 0 ∧ 1 ≤ dY (t / 86400) ∧ dY (t / 86400) ≤ 9999 ∧ 1 ≤ dM (t / 86400) ∧ dM (t / 86400) ≤ 12 ∧ 1 ≤ dD (t / 86400) ∧ dD (t / 86400) ≤ 31 ∧
      numE (dY (t / 86400)) (dM (t / 86400)) (dD (t / 86400)) = 0 ∧ numV (dY (t / 86400)) (dM (t / 86400)) (dD (t / 86400)) = t / 86400 ∧ dD (t / 86400) ≤ Cal.mlen (dY (t / 86400)) (dM (t / 86400)) ∧ Cal.num (dY (t / 86400)) (dM (t / 86400)) (dD (t / 86400)) = t / 86400 := by
  have n0 : -719162 ≤ t / 86400 := by omega
  have n1 : t / 86400 < 2932897 := by omega
  generalize ht : t / 86400 = n at *
  have hr : -719528 ≤ n ∧ n ≤ 2933262 := by omega
  obtain ⟨k1, k2, k3⟩ := dd_yes hr
  obtain ⟨s1, s2, s3, s4⟩ := Cal.yr_spec hr.1 hr.2
  have ns := Cal.ny_succ (Cal.yr n)
  obtain ⟨m1, m2, m3, m4⟩ := Cal.mon_spec (y := Cal.yr n) (r := n - Cal.ny (Cal.yr n)) (by omega) (by omega)
  obtain ⟨p1, p2⟩ := Cal.mlen_bd (Cal.yr n) (Cal.mon (Cal.yr n) (n - Cal.ny (Cal.yr n)))
  have y1 : 1 ≤ Cal.yr n := Cal.yr_le hr.1 hr.2 (show Cal.ny 1 ≤ n from n0)
  have y2 : Cal.yr n < 10000 := Cal.yr_lt hr.1 hr.2 (show n < Cal.ny 10000 from n1)
  have e0 := (dn_yes hr).1
  rw [k1, k2, k3]
  obtain ⟨q1, q2, _⟩ := num_bd (Y := Cal.yr n) (M := Cal.mon (Cal.yr n) (n - Cal.ny (Cal.yr n))) (D := n - Cal.ny (Cal.yr n) - Cal.cum (Cal.yr n) (Cal.mon (Cal.yr n) (n - Cal.ny (Cal.yr n))) + 1) (by omega) (by omega) m1 m2 (by omega) (by omega)
  have e1 : Cal.num (Cal.yr n) (Cal.mon (Cal.yr n) (n - Cal.ny (Cal.yr n))) (n - Cal.ny (Cal.yr n) - Cal.cum (Cal.yr n) (Cal.mon (Cal.yr n) (n - Cal.ny (Cal.yr n))) + 1) = n := by
    unfold Cal.num; omega
  refine ⟨?_, y1, by omega, m1, m2, by omega, by omega, q1, by rw [q2, e1], by omega, e1⟩
  rw [tmE, ht, if_pos ⟨e0, by rw [k1]; exact y1, by rw [k1]; omega⟩]
theorem vlex_lt {Y M D Y2 M2 D2 : Int} (m1 : 1 ≤ M) (m2 : M ≤ 12) (_d1 : 1 ≤ D) (d2 : D ≤ Cal.mlen Y M) (n1 : 1 ≤ M2) (n2 : M2 ≤ 12) (e1 : 1 ≤ D2) (_e2 : D2 ≤ Cal.mlen Y2 M2)
    (h : Y < Y2 ∨ (Y = Y2 ∧ (M < M2 ∨ (M = M2 ∧ D ≤ D2)))) : Cal.num Y M D ≤ Cal.num Y2 M2 D2 := by
  obtain ⟨c1, c2⟩ := Cal.cum_bd (y := Y) m1 m2
  obtain ⟨c3, c4⟩ := Cal.cum_bd (y := Y2) n1 n2
  have l := Cal.lp_01 Y
  have s := Cal.ny_succ Y
  rcases h with h | ⟨rfl, h | ⟨rfl, h⟩⟩
  · have := Cal.ny_mono (a := Y + 1) (b := Y2) (by omega)
    unfold Cal.num; omega
  · have := Cal.cum_mono (y := Y) m1 h n2
    unfold Cal.num; omega
  · unfold Cal.num; omega
theorem tmT_less {Y M D s Y2 M2 D2 s2 : Int} (y0 : 0 ≤ Y) (y1 : Y2 ≤ 9999) (m0 : 0 ≤ M) (n1 : M2 ≤ 99) (d0 : 0 ≤ D) (e1 : D2 ≤ 99) (s0 : 0 ≤ s) (s1 : s < 86400) (z1 : s2 < 86400) (n0 : 0 ≤ M2) (e0 : 0 ≤ D2) (z0 : 0 ≤ s2) (Z0 : 0 ≤ Y2) (x x2 : List UInt8)
    (h : Y < Y2 ∨ (Y = Y2 ∧ (M < M2 ∨ (M = M2 ∧ (D < D2 ∨ (D = D2 ∧ s < s2)))))) : Op.bytesLess (tmT Y M D s ++ x) (tmT Y2 M2 D2 s2 ++ x2) = true := by
  unfold tmT
  simp only [List.append_assoc]
  rcases h with h | ⟨rfl, h | ⟨rfl, h | ⟨rfl, h⟩⟩⟩
  · obtain ⟨a, b⟩ := s4 y0 h y1
    exact less_app _ _ _ _ a b
  · obtain ⟨a, b⟩ := Val.s2 m0 h n1
    exact less_same _ _ _ (less_app _ _ _ _ a b)
  · obtain ⟨a, b⟩ := Val.s2 d0 h e1
    exact less_same _ _ _ (less_same _ _ _ (less_app _ _ _ _ a b))
  · refine less_same _ _ _ (less_same _ _ _ (less_same _ _ _ (less_same _ _ _ ?_)))
    have hh : s / 3600 < s2 / 3600 ∨ (s / 3600 = s2 / 3600 ∧ (s / 60 % 60 < s2 / 60 % 60 ∨ (s / 60 % 60 = s2 / 60 % 60 ∧ s % 60 < s2 % 60))) := by omega
    rcases hh with h | ⟨e, h | ⟨e2, h⟩⟩
    · obtain ⟨a, b⟩ := Val.s2 (a := s / 3600) (b := s2 / 3600) (by omega) h (by omega)
      exact less_app _ _ _ _ a b
    · obtain ⟨a, b⟩ := Val.s2 (a := s / 60 % 60) (b := s2 / 60 % 60) (by omega) h (by omega)
      rw [e]
      exact less_same _ _ _ (less_app _ _ _ _ a b)
    · obtain ⟨a, b⟩ := Val.s2 (a := s % 60) (b := s2 % 60) (by omega) h (by omega)
      rw [e, e2]
      exact less_same _ _ _ (less_same _ _ _ (less_app _ _ _ _ a b))
theorem tm_less {t t2 : Int} (u : Bool) (h0 : -62135596800 ≤ t) (h1 : t2 < 253402300800) (h : t < t2) : Op.bytesLess (tmS t u) (tmS t2 u) = true := by
  obtain ⟨a0, a1, a2, a3, a4, a5, a6, _, _, a7, a8⟩ := tm_parts (t := t) h0 (by omega)
  obtain ⟨b0, b1, b2, b3, b4, b5, b6, _, _, b7, b8⟩ := tm_parts (t := t2) (by omega) h1
  rw [tmS, tmS, if_pos a0, if_pos b0, tmL, tmL]
  have q0 := Int.emod_nonneg t (show (86400 : Int) ≠ 0 by decide)
  have q1 := Int.emod_lt_of_pos t (show (0 : Int) < 86400 by decide)
  have r0 := Int.emod_nonneg t2 (show (86400 : Int) ≠ 0 by decide)
  have r1 := Int.emod_lt_of_pos t2 (show (0 : Int) < 86400 by decide)
  refine tmT_less (by omega) b2 (by omega) (by omega) (by omega) (by omega) q0 q1 r1 (by omega) (by omega) r0 (by omega) _ _ ?_
  have hd : t / 86400 < t2 / 86400 ∨ (t / 86400 = t2 / 86400 ∧ t % 86400 < t2 % 86400) := by omega
  rcases hd with hd | ⟨hd, hs⟩
  · rcases Int.lt_trichotomy (dY (t / 86400)) (dY (t2 / 86400)) with k | k | k
    · exact Or.inl k
    · refine Or.inr ⟨k, ?_⟩
      rcases Int.lt_trichotomy (dM (t / 86400)) (dM (t2 / 86400)) with k2 | k2 | k2
      · exact Or.inl k2
      · refine Or.inr ⟨k2, ?_⟩
        rcases Int.lt_or_le (dD (t / 86400)) (dD (t2 / 86400)) with k3 | k3
        · exact Or.inl k3
        · have := vlex_lt b3 b4 b5 b7 a3 a4 a5 a7 (Or.inr ⟨k.symm, Or.inr ⟨k2.symm, k3⟩⟩)
          omega
      · have := vlex_lt b3 b4 b5 b7 a3 a4 a5 a7 (Or.inr ⟨k.symm, Or.inl k2⟩)
        omega
    · have := vlex_lt b3 b4 b5 b7 a3 a4 a5 a7 (Or.inl k)
      omega
  · rw [hd]; exact Or.inr ⟨rfl, Or.inr ⟨rfl, Or.inr ⟨rfl, hs⟩⟩⟩
theorem len2 {l : List UInt8} (h : l.length = 2) : ∃ a b, l = [a, b] := by
  match l, h with
  | [a, b], _ => exact ⟨a, b, rfl⟩
theorem len4 {l : List UInt8} (h : l.length = 4) : ∃ a b c d, l = [a, b, c, d] := by
  match l, h with
  | [a, b, c, d], _ => exact ⟨a, b, c, d, rfl⟩
/-- What the parts of a text of a day's seconds say. -/
theorem sx_back {T4 T5 T6 : List UInt8} {a b c : Int} (l4 : T4.length = 2) (l5 : T5.length = 2) (l6 : T6.length = 2) (p4 : parseB T4 = true ∧ parseV T4 = a) (p5 : parseB T5 = true ∧ parseV T5 = b) (p6 : parseB T6 = true ∧ parseV T6 = c) (ha : a < 24) (hb : b < 60) (hc : c < 60) :
    sxB (T4 ++ T5 ++ T6) = true ∧ sxV (T4 ++ T5 ++ T6) = a * 3600 + b * 60 + c := by
  obtain ⟨x1, x2, rfl⟩ := len2 l4
  obtain ⟨y1, y2, rfl⟩ := len2 l5
  obtain ⟨z1, z2, rfl⟩ := len2 l6
  have hB : sxB ([x1, x2] ++ [y1, y2] ++ [z1, z2]) = true := by
    show (parseB [x1, x2] && parseB [y1, y2] && parseB [z1, z2] && decide (parseV [x1, x2] < 24 ∧ parseV [y1, y2] < 60 ∧ parseV [z1, z2] < 60)) = true
    rw [p4.1, p5.1, p6.1, p4.2, p5.2, p6.2, decide_eq_true ⟨ha, hb, hc⟩]; rfl
  refine ⟨hB, ?_⟩
  rw [sxV, if_pos hB]
  show parseV [x1, x2] * 3600 + parseV [y1, y2] * 60 + parseV [z1, z2] = _
  rw [p4.2, p5.2, p6.2]
theorem suf_z (l : List UInt8) : Lib.hasSuffix (l ++ [90]) [90] = true ∧ Lib.trimSuffix (l ++ [90]) [90] = l := by
  have h : Lib.hasSuffix (l ++ [90]) [90] = true := List.isSuffixOf_iff_suffix.2 (List.suffix_append _ _)
  exact ⟨h, by rw [Lib.trimSuffix, if_pos h]; simp⟩
theorem suf_no {l : List UInt8} {c : UInt8} (hc : isDig c = true) : Lib.hasSuffix (l ++ [c]) [90] = false ∧ Lib.trimSuffix (l ++ [c]) [90] = l ++ [c] := by
  have h : Lib.hasSuffix (l ++ [c]) [90] = false := by
    cases e : Lib.hasSuffix (l ++ [c]) [90] with
    | false => rfl
    | true =>
      obtain ⟨p, hp⟩ := List.isSuffixOf_iff_suffix.1 e
      have : (90 : UInt8) = c := by
        have := congrArg List.getLast? hp
        simpa using this
      rw [← this] at hc; exact absurd hc (by decide)
  exact ⟨h, by rw [Lib.trimSuffix, h]; rfl⟩
theorem suf_dig {l d : List UInt8} (hl : 1 ≤ d.length) (hd : d.all isDig = true) : Lib.hasSuffix (l ++ d) [90] = false ∧ Lib.trimSuffix (l ++ d) [90] = l ++ d := by
  obtain ⟨c, r, e⟩ : ∃ c r, d.reverse = c :: r := by
    cases h : d.reverse with
    | nil => have := congrArg List.length h; simp at this; rw [this] at hl; simp at hl
    | cons c r => exact ⟨c, r, rfl⟩
  have e2 : d = r.reverse ++ [c] := by
    have := congrArg List.reverse e
    simpa using this
  have hc : isDig c = true := List.all_eq_true.1 hd c (by rw [e2]; simp)
  rw [e2, ← List.append_assoc]
  exact suf_no hc
theorem pt_mk {B S : List UInt8} {u : Bool} {Y M D n s : Int} {T1 T2 T3 T4 T5 T6 : List UInt8} (hB : B = T1 ++ T2 ++ T3 ++ [84] ++ T4 ++ T5 ++ T6) (h1 : Lib.trimSuffix S [90] = B) (h2 : Lib.hasSuffix S [90] = u)
    (l1 : T1.length = 4) (l2 : T2.length = 2) (l3 : T3.length = 2) (l4 : T4.length = 2) (l5 : T5.length = 2) (l6 : T6.length = 2)
    (p1 : parseB T1 = true ∧ parseV T1 = Y) (p2 : parseB T2 = true ∧ parseV T2 = M) (p3 : parseB T3 = true ∧ parseV T3 = D) (ps : sxB (T4 ++ T5 ++ T6) = true ∧ sxV (T4 ++ T5 ++ T6) = s) (hY : 1 ≤ Y) (hE : numE Y M D = 0) (hV : numV Y M D = n) :
    ptP S = (n * 86400 + s, u, 0) := by
  obtain ⟨a1, a2, a3, a4, rfl⟩ := len4 l1
  obtain ⟨b1, b2, rfl⟩ := len2 l2
  obtain ⟨c1, c2, rfl⟩ := len2 l3
  obtain ⟨x1, x2, rfl⟩ := len2 l4
  obtain ⟨y1, y2, rfl⟩ := len2 l5
  obtain ⟨z1, z2, rfl⟩ := len2 l6
  rw [ptP, h1, h2, hB]
  have e1 : parseV (List.take 4 ([a1, a2, a3, a4] ++ [b1, b2] ++ [c1, c2] ++ [84] ++ [x1, x2] ++ [y1, y2] ++ [z1, z2])) = Y := p1.2
  have e2 : parseV (List.take 2 (List.drop 4 ([a1, a2, a3, a4] ++ [b1, b2] ++ [c1, c2] ++ [84] ++ [x1, x2] ++ [y1, y2] ++ [z1, z2]))) = M := p2.2
  have e3 : parseV (List.take 2 (List.drop 6 ([a1, a2, a3, a4] ++ [b1, b2] ++ [c1, c2] ++ [84] ++ [x1, x2] ++ [y1, y2] ++ [z1, z2]))) = D := p3.2
  have e4 : sxV (List.drop 9 ([a1, a2, a3, a4] ++ [b1, b2] ++ [c1, c2] ++ [84] ++ [x1, x2] ++ [y1, y2] ++ [z1, z2])) = s := ps.2
  have e5 : ptB ([a1, a2, a3, a4] ++ [b1, b2] ++ [c1, c2] ++ [84] ++ [x1, x2] ++ [y1, y2] ++ [z1, z2]) = true := by
    show (parseB [a1, a2, a3, a4] && parseB [b1, b2] && parseB [c1, c2] && sxB ([x1, x2] ++ [y1, y2] ++ [z1, z2]) && decide (1 ≤ parseV [a1, a2, a3, a4])) = true
    rw [p1.1, p2.1, p3.1, ps.1, p1.2, decide_eq_true hY]; rfl
  rw [e1, e2, e3, e4, e5, hE, hV, if_pos ⟨rfl, rfl, rfl, rfl⟩]
theorem pt_back {t : Int} (u : Bool) (h0 : -62135596800 ≤ t) (h1 : t < 253402300800) : ptP (tmS t u) = (t, u, 0) ∧ (tmS t u).length ≤ 16 := by
  obtain ⟨a0, a1, a2, a3, a4, a5, a6, a7, a8, _, _⟩ := tm_parts (t := t) h0 h1
  have q0 := Int.emod_nonneg t (show (86400 : Int) ≠ 0 by decide)
  have q1 := Int.emod_lt_of_pos t (show (0 : Int) < 86400 by decide)
  have e : t = t / 86400 * 86400 + t % 86400 := by omega
  have es : t % 86400 = t % 86400 / 3600 * 3600 + t % 86400 / 60 % 60 * 60 + t % 86400 % 60 := by omega
  rw [tmS, if_pos a0, tmL]
  generalize t / 86400 = n at *
  generalize t % 86400 = s at *
  generalize dY n = Y at *
  generalize dM n = M at *
  generalize dD n = D at *
  have p1 := p4 (h := Y) (by omega) (by omega)
  have q2 := p2 (h := M) (by omega) (by omega)
  have p3 := p2 (h := D) (by omega) (by omega)
  have q4 := p2 (h := s / 3600) (by omega) (by omega)
  have p5 := p2 (h := s / 60 % 60) (by omega) (by omega)
  have p6 := p2 (h := s % 60) (by omega) (by omega)
  have l1 := l4 (h := Y) (by omega) (by omega)
  have k2 := l2 (h := M) (by omega) (by omega)
  have l3 := l2 (h := D) (by omega) (by omega)
  have k4 := l2 (h := s / 3600) (by omega) (by omega)
  have l5 := l2 (h := s / 60 % 60) (by omega) (by omega)
  have l6 := l2 (h := s % 60) (by omega) (by omega)
  have A6 := Val.a2 (h := s % 60) (by omega)
  have ps := sx_back k4 l5 l6 q4 p5 p6 (by omega) (by omega) (by omega)
  rw [← es] at ps
  rw [tmT]
  generalize textL Y 4 = T1 at *
  generalize textL M 2 = T2 at *
  generalize textL D 2 = T3 at *
  generalize textL (s / 3600) 2 = T4 at *
  generalize textL (s / 60 % 60) 2 = T5 at *
  generalize textL (s % 60) 2 = T6 at *
  cases u with
  | true =>
    obtain ⟨g1, g2⟩ := suf_z (T1 ++ T2 ++ T3 ++ [84] ++ T4 ++ T5 ++ T6)
    refine ⟨?_, ?_⟩
    · rw [if_pos rfl, e]
      exact pt_mk rfl g2 g1 l1 k2 l3 k4 l5 l6 p1 q2 p3 ps a1 a7 a8
    · simp [l1, k2, l3, k4, l5, l6]
  | false =>
    obtain ⟨g1, g2⟩ := suf_dig (l := T1 ++ T2 ++ T3 ++ [84] ++ T4 ++ T5) (d := T6) (by omega) A6
    refine ⟨?_, ?_⟩
    · rw [if_neg (by decide), List.append_nil, e]
      exact pt_mk rfl g2 g1 l1 k2 l3 k4 l5 l6 p1 q2 p3 ps a1 a7 a8
    · simp [l1, k2, l3, k4, l5, l6]
theorem po_mk {b : Bool} {T1 T2 T3 : List UInt8} {m : Int} (l1 : T1.length = 2) (l2 : T2.length = 2) (l3 : T3.length = 2 ∨ (T3 = [] ∧ sxB (T1 ++ T2 ++ [48, 48]) = true ∧ sxV (T1 ++ T2 ++ [48, 48]) = m)) (h3 : T3.length = 2 → sxB (T1 ++ T2 ++ T3) = true ∧ sxV (T1 ++ T2 ++ T3) = m) (hm : b = true → m ≠ 0) :
    poD b (poY (T1 ++ T2 ++ T3)) = (if b = true then -m else m, 0) := by
  rcases l3 with l3 | ⟨rfl, l3, l4⟩
  · obtain ⟨k1, k2⟩ := h3 l3
    rw [poY, if_neg (by simp [l1, l2, l3]), poD, k1, k2, if_pos ⟨by simp [l1, l2, l3], rfl, fun h => hm h.1 h.2⟩]
  · rw [List.append_nil, poY, if_pos (by simp [l1, l2]), poD, l3, l4, if_pos ⟨by simp [l1, l2], rfl, fun h => hm h.1 h.2⟩]
theorem of_body {m : Int} (b : Bool) (h0 : 0 ≤ m) (h1 : m < 86400) (hm : b = true → m ≠ 0) : poD b (poY (ofB m)) = (if b = true then -m else m, 0) ∧ (ofB m).length ≤ 6 := by
  have es : m = m / 3600 * 3600 + m / 60 % 60 * 60 + m % 60 := by omega
  have q4 := p2 (h := m / 3600) (by omega) (by omega)
  have p5 := p2 (h := m / 60 % 60) (by omega) (by omega)
  have p6 := p2 (h := m % 60) (by omega) (by omega)
  have k4 := l2 (h := m / 3600) (by omega) (by omega)
  have l5 := l2 (h := m / 60 % 60) (by omega) (by omega)
  have l6 := l2 (h := m % 60) (by omega) (by omega)
  have ps := sx_back k4 l5 l6 q4 p5 p6 (by omega) (by omega) (by omega)
  rw [← es] at ps
  rw [ofB]
  by_cases h : m % 60 = 0
  · rw [if_pos h]
    have pz : parseB [48, 48] = true ∧ parseV [48, 48] = 0 := by decide +kernel
    have pq := sx_back k4 l5 (show ([48, 48] : List UInt8).length = 2 from rfl) q4 p5 pz (by omega) (by omega) (by omega)
    have e2 : m / 3600 * 3600 + m / 60 % 60 * 60 + 0 = m := by omega
    rw [e2] at pq
    exact ⟨po_mk k4 l5 (Or.inr ⟨rfl, pq⟩) (fun h => by simp at h) hm, by simp [k4, l5]⟩
  · rw [if_neg h]
    exact ⟨po_mk k4 l5 (Or.inl l6) (fun _ => ps) hm, by simp [k4, l5, l6]⟩
theorem pre_yes (c : UInt8) (r : List UInt8) : Lib.hasPrefix (c :: r) [c] = true ∧ Lib.trimPrefix (c :: r) [c] = r := by
  have h : Lib.hasPrefix (c :: r) [c] = true := by simp [Lib.hasPrefix]
  exact ⟨h, by rw [Lib.trimPrefix, if_pos h]; rfl⟩
theorem po_back {o : Int} (h0 : -86400 < o) (h1 : o < 86400) : poP (ofS o) = (o, 0) ∧ (ofS o).length ≤ 7 := by
  by_cases hn : o < 0
  · obtain ⟨m, rfl⟩ : ∃ m, o = -m := ⟨-o, by omega⟩
    rw [(of_neg (m := m) (by omega) (by omega)).1]
    obtain ⟨q, l⟩ := of_body (m := m) true (by omega) (by omega) (fun _ => by omega)
    obtain ⟨g1, g2⟩ := pre_yes 45 (ofB m)
    refine ⟨?_, by rw [List.length_cons]; omega⟩
    rw [poP, poS, poX, g1, g2]
    exact q
  · rw [(of_pos (m := o) (by omega) (by omega)).1]
    obtain ⟨q, l⟩ := of_body (m := o) false (by omega) (by omega) (fun h => by cases h)
    obtain ⟨g1, g2⟩ := pre_yes 43 (ofB o)
    have g3 : Lib.hasPrefix (43 :: ofB o) [45] = false := rfl
    refine ⟨?_, by rw [List.length_cons]; omega⟩
    rw [poP, poS, poX, g1, g2, g3]
    exact q
/-- Two offsets' texts are the same just if the offsets are. -/
theorem of_inj {a b : Int} (a0 : -86400 < a) (a1 : a < 86400) (b0 : -86400 < b) (b1 : b < 86400) (h : ofS a = ofS b) : a = b := by
  have := (po_back a0 a1).1
  rw [h, (po_back b0 b1).1] at this
  exact (Prod.mk.inj this).1.symm
end Val
end Go.Proofs.YtbeefhmnoihmcaaGreatDoor
