/-
  Package onset, plain words: a name's onsets up to a year, its first letter.
-/
import Derived.Test.YthefgagmjamdkaaDoorBdI
namespace Go.Proofs.YthefgagmjamdkaaDoor
open Go.RowKit
namespace Ons
open Rul
/-- An onset: which rule, which year, when. -/
abbrev OV := Int × Int × Int
def loc (r : RV) (y : Int) : Int := Wk.resV y r.mo r.k r.v r.d * 86400 + r.n
def onO (i : Int) (r : RV) (y : Int) : List OV := if Wk.resE y r.mo r.k r.v r.d = 0 then [(i, y, loc r y)] else []
/-- The onsets of a rule's first m years. -/
def onY (i : Int) (r : RV) : Nat → List OV
  | 0 => []
  | m + 1 => onY i r m ++ onO i r (r.fr + m)
def yrN (r : RV) (last : Int) : Nat := (min r.tu last + 1 - r.fr).toNat
/-- What the rule at place i adds. -/
def onR (nm : List UInt8) (last : Int) (i : Int) (r : RV) : List OV := if r.nm = nm then onY i r (yrN r last) else []
/-- The onsets of the first k rules, as they come. -/
def onG (nm : List UInt8) (last : Int) (L : List RV) : Nat → List OV
  | 0 => []
  | k + 1 => onG nm last L k ++ (match L[k]? with | some r => onR nm last k r | none => [])
theorem onG_succ {nm : List UInt8} {last : Int} {L : List RV} {k : Nat} (h : k < L.length) : onG nm last L (k + 1) = onG nm last L k ++ onR nm last k L[k] := by
  rw [onG, List.getElem?_eq_getElem h]
def olt (a b : OV) : Prop := a.2.2 < b.2.2 ∨ (a.2.2 = b.2.2 ∧ (a.1 < b.1 ∨ (a.1 = b.1 ∧ a.2.1 < b.2.1)))
instance (a b : OV) : Decidable (olt a b) := by unfold olt; infer_instance
def oltB (a b : OV) : Bool := decide (olt a b)
theorem oltB_t {a b : OV} : oltB a b = true ↔ a.2.2 < b.2.2 ∨ (a.2.2 = b.2.2 ∧ (a.1 < b.1 ∨ (a.1 = b.1 ∧ a.2.1 < b.2.1))) := by unfold oltB; rw [decide_eq_true_eq]; exact Iff.rfl
theorem oltB_f {a b : OV} : oltB a b = false ↔ ¬ (a.2.2 < b.2.2 ∨ (a.2.2 = b.2.2 ∧ (a.1 < b.1 ∨ (a.1 = b.1 ∧ a.2.1 < b.2.1)))) := by unfold oltB; rw [decide_eq_false_iff_not]; exact Iff.rfl
def oleB (a b : OV) : Bool := !oltB b a
def sortO (L : List OV) : List OV := L.mergeSort oleB
/-- The onsets of a name's rules up to a year. -/
def onS (nm : List UInt8) (last : Int) (L : List RV) : List OV := sortO (onG nm last L L.length)
theorem ole_trans (a b c : OV) (h1 : oleB a b = true) (h2 : oleB b c = true) : oleB a c = true := by
  simp only [oleB, Bool.not_eq_true', oltB_f] at *; omega
theorem ole_total (a b : OV) : (oleB a b || oleB b a) = true := by
  simp only [oleB, Bool.or_eq_true, Bool.not_eq_true', oltB_f]; omega
theorem olt_eq (x y : OV) (h1 : oltB x y = false) (h2 : oltB y x = false) : x = y := by
  rw [oltB_f] at h1 h2
  obtain ⟨a, b, c⟩ := x
  obtain ⟨a', b', c'⟩ := y
  simp only at h1 h2
  obtain rfl : c = c' := by omega
  obtain rfl : a = a' := by omega
  obtain rfl : b = b' := by omega
  rfl
theorem ole_anti (a b : OV) (h1 : oleB a b = true) (h2 : oleB b a = true) : a = b :=
  olt_eq a b (by simpa [oleB] using h2) (by simpa [oleB] using h1)
theorem sortO_perm (L : List OV) : (sortO L).Perm L := List.mergeSort_perm _ _
theorem sortO_pair (L : List OV) : (sortO L).Pairwise (fun a b => oleB a b = true) := List.pairwise_mergeSort (fun a b c => ole_trans a b c) (fun a b => ole_total a b) L
theorem pair_perm_eq : ∀ (L M : List OV), L.Perm M → L.Pairwise (fun a b => oleB a b = true) → M.Pairwise (fun a b => oleB a b = true) → L = M
  | [], M, h, _, _ => h.nil_eq
  | a :: L, [], h, _, _ => absurd h.length_eq (by simp)
  | a :: L, b :: M, h, hL, hM => by
    rw [List.pairwise_cons] at hL hM
    have hab : a = b := by
      have ha : a ∈ b :: M := h.subset (by simp)
      have hb : b ∈ a :: L := h.symm.subset (by simp)
      rcases List.mem_cons.1 ha with e | e
      · exact e
      · rcases List.mem_cons.1 hb with e' | e'
        · exact e'.symm
        · exact ole_anti a b (hL.1 b e') (hM.1 a e)
    subst hab
    rw [pair_perm_eq L M (List.perm_cons a |>.1 h) hL.2 hM.2]
theorem sortO_filter (p : OV → Bool) (L : List OV) : (sortO L).filter p = sortO (L.filter p) :=
  pair_perm_eq _ _ (((sortO_perm L).filter p).trans (sortO_perm _).symm) ((sortO_pair L).sublist List.filter_sublist) (sortO_pair _)
theorem sortO_len (L : List OV) : (sortO L).length = L.length := (sortO_perm L).length_eq
theorem sortO_mem {L : List OV} {a : OV} : a ∈ sortO L ↔ a ∈ L := (sortO_perm L).mem_iff
/-! ### Which onsets there are -/
theorem onO_mem {i : Int} {r : RV} {y : Int} {a : OV} : a ∈ onO i r y ↔ Wk.resE y r.mo r.k r.v r.d = 0 ∧ a = (i, y, loc r y) := by
  unfold onO
  split <;> simp_all
theorem onY_mem {i : Int} {r : RV} {a : OV} : ∀ {m : Nat}, a ∈ onY i r m ↔ ∃ j : Nat, j < m ∧ Wk.resE (r.fr + j) r.mo r.k r.v r.d = 0 ∧ a = (i, r.fr + j, loc r (r.fr + j))
  | 0 => by simp [onY]
  | m + 1 => by
    rw [onY, List.mem_append, onY_mem, onO_mem]
    constructor
    · rintro (⟨j, h, h2⟩ | h)
      · exact ⟨j, by omega, h2⟩
      · exact ⟨m, by omega, h⟩
    · rintro ⟨j, h, h2⟩
      by_cases e : j = m
      · subst e; exact Or.inr h2
      · exact Or.inl ⟨j, by omega, h2⟩
theorem onR_mem {nm : List UInt8} {last i : Int} {r : RV} {a : OV} : a ∈ onR nm last i r ↔ r.nm = nm ∧ ∃ y, r.fr ≤ y ∧ y ≤ min r.tu last ∧ Wk.resE y r.mo r.k r.v r.d = 0 ∧ a = (i, y, loc r y) := by
  unfold onR yrN
  split
  · rename_i h
    rw [onY_mem]
    constructor
    · rintro ⟨j, h1, h2, h3⟩
      exact ⟨h, r.fr + j, by omega, by omega, h2, h3⟩
    · rintro ⟨_, y, h1, h2, h3, h4⟩
      refine ⟨(y - r.fr).toNat, by omega, ?_⟩
      rw [show r.fr + ((y - r.fr).toNat : Int) = y by omega]
      exact ⟨h3, h4⟩
  · rename_i h
    simp [h]
theorem onG_mem {nm : List UInt8} {last : Int} {L : List RV} {a : OV} : ∀ {k : Nat}, k ≤ L.length → (a ∈ onG nm last L k ↔ ∃ (i : Nat) (h : i < L.length), i < k ∧ L[i].nm = nm ∧ ∃ y, L[i].fr ≤ y ∧ y ≤ min L[i].tu last ∧ Wk.resE y L[i].mo L[i].k L[i].v L[i].d = 0 ∧ a = ((i : Int), y, loc L[i] y))
  | 0, _ => by simp [onG]
  | k + 1, hk => by
    rw [onG_succ (by omega), List.mem_append, onG_mem (by omega), onR_mem]
    constructor
    · rintro (⟨i, h1, h2, h3⟩ | h)
      · exact ⟨i, h1, by omega, h3⟩
      · exact ⟨k, by omega, by omega, h⟩
    · rintro ⟨i, h1, h2, h3⟩
      by_cases e : i = k
      · subst e; exact Or.inr h3
      · exact Or.inl ⟨i, h1, by omega, h3⟩
/-- As they come they rise by rule and year. -/
def cLt (a b : OV) : Prop := a.1 < b.1 ∨ (a.1 = b.1 ∧ a.2.1 < b.2.1)
theorem onY_pair (i : Int) (r : RV) : ∀ m : Nat, (onY i r m).Pairwise cLt
  | 0 => by simp [onY]
  | m + 1 => by
    rw [onY, List.pairwise_append]
    refine ⟨onY_pair i r m, ?_, fun a ha b hb => ?_⟩
    · unfold onO; split <;> simp
    · obtain ⟨j, h1, _, rfl⟩ := onY_mem.1 ha
      obtain ⟨_, rfl⟩ := onO_mem.1 hb
      exact Or.inr ⟨rfl, by show r.fr + (j : Int) < r.fr + (m : Int); omega⟩
theorem onG_pair (nm : List UInt8) (last : Int) (L : List RV) : ∀ k : Nat, k ≤ L.length → (onG nm last L k).Pairwise cLt
  | 0, _ => by simp [onG]
  | k + 1, hk => by
    rw [onG_succ (by omega), List.pairwise_append]
    refine ⟨onG_pair nm last L k (by omega), ?_, fun a ha b hb => ?_⟩
    · unfold onR; split
      · exact onY_pair _ _ _
      · simp
    · obtain ⟨i, h1, h2, _, y, _, _, _, rfl⟩ := (onG_mem (by omega)).1 ha
      obtain ⟨_, y2, _, _, _, rfl⟩ := onR_mem.1 hb
      exact Or.inl (by show (i : Int) < (k : Int); omega)
theorem onG_nodup (nm : List UInt8) (last : Int) (L : List RV) : (onG nm last L L.length).Nodup := by
  refine (onG_pair nm last L L.length (Nat.le_refl _)).imp ?_
  intro a b h e
  subst e
  unfold cLt at h
  omega
/-- Onsets rise, none twice. -/
theorem onS_rises (nm : List UInt8) (last : Int) (L : List RV) : (onS nm last L).Pairwise olt := by
  have h1 := sortO_pair (onG nm last L L.length)
  have h2 : (sortO (onG nm last L L.length)).Nodup := (sortO_perm _).nodup_iff.2 (onG_nodup nm last L)
  have h3 := h1.and h2
  refine h3.imp ?_
  rintro a b ⟨p, q⟩
  by_cases e : olt a b
  · exact e
  · refine absurd (ole_anti a b p ?_) q
    simp only [oleB, oltB, Bool.not_eq_true', decide_eq_false_iff_not]
    exact e
theorem onS_mem {nm : List UInt8} {last : Int} {L : List RV} {a : OV} : a ∈ onS nm last L ↔ ∃ (i : Nat) (h : i < L.length), L[i].nm = nm ∧ ∃ y, L[i].fr ≤ y ∧ y ≤ min L[i].tu last ∧ Wk.resE y L[i].mo L[i].k L[i].v L[i].d = 0 ∧ a = ((i : Int), y, loc L[i] y) := by
  rw [onS, sortO_mem, onG_mem (Nat.le_refl _)]
  constructor
  · rintro ⟨i, h, _, h3⟩; exact ⟨i, h, h3⟩
  · rintro ⟨i, h, h3⟩; exact ⟨i, h, h, h3⟩
/-! ### A later year adds onsets of later years alone -/
theorem onY_filter (i : Int) (r : RV) (a : Int) : ∀ (m : Nat), (onY i r m).filter (fun o => decide (o.2.1 ≤ a)) = onY i r (min m (a + 1 - r.fr).toNat)
  | 0 => by simp [onY]
  | m + 1 => by
    rw [onY, List.filter_append, onY_filter i r a m]
    by_cases h : r.fr + (m : Int) ≤ a
    · rw [show min (m + 1) (a + 1 - r.fr).toNat = m + 1 by omega, show min m (a + 1 - r.fr).toNat = m by omega, onY]
      congr 1
      unfold onO
      split
      · simp [h]
      · rfl
    · rw [show min (m + 1) (a + 1 - r.fr).toNat = min m (a + 1 - r.fr).toNat by omega]
      have : (onO i r (r.fr + m)).filter (fun o => decide (o.2.1 ≤ a)) = [] := by
        unfold onO
        split
        · simp [h]
        · rfl
      rw [this, List.append_nil]
theorem onR_filter (nm : List UInt8) (i : Int) (r : RV) {a b : Int} (hab : a ≤ b) : (onR nm b i r).filter (fun o => decide (o.2.1 ≤ a)) = onR nm a i r := by
  unfold onR
  split
  · rw [onY_filter]
    congr 1
    unfold yrN
    omega
  · rfl
theorem onG_filter (nm : List UInt8) (L : List RV) {a b : Int} (hab : a ≤ b) : ∀ k : Nat, k ≤ L.length → (onG nm b L k).filter (fun o => decide (o.2.1 ≤ a)) = onG nm a L k
  | 0, _ => by simp [onG]
  | k + 1, hk => by
    rw [onG_succ (by omega), onG_succ (by omega), List.filter_append, onG_filter nm L hab k (by omega), onR_filter nm _ _ hab]
theorem onS_filter (nm : List UInt8) (L : List RV) {a b : Int} (hab : a ≤ b) : (onS nm b L).filter (fun o => decide (o.2.1 ≤ a)) = onS nm a L := by
  rw [onS, sortO_filter, onG_filter nm L hab _ (Nat.le_refl _), onS]
/-! ### How many -/
theorem onO_len (i : Int) (r : RV) (y : Int) : (onO i r y).length ≤ 1 := by unfold onO; split <;> simp
theorem onY_len (i : Int) (r : RV) : ∀ m : Nat, (onY i r m).length ≤ m
  | 0 => by simp [onY]
  | m + 1 => by
    have h1 := onY_len i r m
    have h2 := onO_len i r (r.fr + m)
    rw [onY, List.length_append]; omega
theorem onR_len {nm : List UInt8} {last i : Int} {r : RV} (h1 : 1 ≤ r.fr) (h2 : r.tu ≤ 9999) : (onR nm last i r).length ≤ 9999 := by
  unfold onR yrN
  split
  · refine Nat.le_trans (onY_len _ _ _) ?_; omega
  · simp
theorem onG_len {nm : List UInt8} {last : Int} {L : List RV} (h : ∀ r ∈ L, 1 ≤ r.fr ∧ r.tu ≤ 9999) : ∀ k : Nat, k ≤ L.length → (onG nm last L k).length ≤ k * 9999
  | 0, _ => by simp [onG]
  | k + 1, hk => by
    have h1 := onG_len (nm := nm) (last := last) h k (by omega)
    have h2 := h L[k] (List.getElem_mem _)
    have h3 := onR_len (nm := nm) (last := last) (i := k) h2.1 h2.2
    rw [onG_succ (by omega), List.length_append]; omega
/-! ### The first letter -/
/-- A rule's first onset: from year y on, m years. -/
def fsF (r : RV) : Int → Nat → Option Int
  | _, 0 => none
  | y, m + 1 => if Wk.resE y r.mo r.k r.v r.d = 0 then some (loc r y) else fsF r (y + 1) m
def firstO (r : RV) : Option Int := fsF r r.fr (r.tu + 1 - r.fr).toNat
theorem fsF_skip {r : RV} : ∀ (j m : Nat), (∀ i : Nat, i < j → Wk.resE (r.fr + i) r.mo r.k r.v r.d ≠ 0) → j ≤ m → fsF r r.fr m = fsF r (r.fr + j) (m - j)
  | 0, m, _, _ => by simp
  | j + 1, m, h, hm => by
    rw [fsF_skip j m (fun i hi => h i (by omega)) (by omega), show m - j = (m - (j + 1)) + 1 by omega, fsF, if_neg (h j (by omega))]
    congr 1
    simp [Int.add_assoc]
theorem first_at {r : RV} {j : Nat} (h : ∀ i : Nat, i < j → Wk.resE (r.fr + i) r.mo r.k r.v r.d ≠ 0) (hj : r.fr + j ≤ r.tu) (h0 : Wk.resE (r.fr + j) r.mo r.k r.v r.d = 0) : firstO r = some (loc r (r.fr + j)) := by
  rw [firstO, fsF_skip j _ h (by omega), show (r.tu + 1 - r.fr).toNat - j = ((r.tu + 1 - r.fr).toNat - j - 1) + 1 by omega, fsF, if_pos h0]
theorem first_none {r : RV} (h : ∀ i : Nat, i < (r.tu + 1 - r.fr).toNat → Wk.resE (r.fr + i) r.mo r.k r.v r.d ≠ 0) : firstO r = none := by
  rw [firstO, fsF_skip _ _ h (Nat.le_refl _), Nat.sub_self, fsF]
/-- What has been found: the letter, when, whether. -/
structure LS where
  lt : List UInt8
  le : Int
  fd : Bool
def ltO (nm : List UInt8) (s : LS) (r : RV) : LS :=
  if r.nm = nm ∧ r.sv = 0 then (match firstO r with | some t => if s.fd = false ∨ t < s.le then ⟨r.lt, t, true⟩ else s | none => s) else s
def ltG (nm : List UInt8) (L : List RV) : Nat → LS
  | 0 => ⟨[], 0, false⟩
  | k + 1 => (match L[k]? with | some r => ltO nm (ltG nm L k) r | none => ltG nm L k)
theorem ltG_succ {nm : List UInt8} {L : List RV} {k : Nat} (h : k < L.length) : ltG nm L (k + 1) = ltO nm (ltG nm L k) L[k] := by
  rw [ltG, List.getElem?_eq_getElem h]
def ltS (nm : List UInt8) (L : List RV) : List UInt8 := (ltG nm L L.length).lt
/-! ### Whether the rules are right -/
def okE (L : List RV) : Int := if L.length > 200 then 2 else if L.all chkB = true then 0 else 10
theorem all_snoc {L : List RV} {k : Nat} (hk : k < L.length) (h : (L.take k).all chkB = true) (hc : chkB L[k] = true) : (L.take (k + 1)).all chkB = true := by
  rw [List.take_succ_eq_append_getElem hk, List.all_append, h, List.all_cons, hc]
  rfl
theorem all_no {L : List RV} {k : Nat} (hk : k < L.length) (hc : chkB L[k] = false) : L.all chkB = false := by
  cases e : L.all chkB with
  | false => rfl
  | true =>
    have := List.all_eq_true.1 e L[k] (List.getElem_mem hk)
    rw [hc] at this; cases this
theorem all_at {L : List RV} (h : L.all chkB = true) {k : Nat} (hk : k < L.length) : chkB L[k] = true := List.all_eq_true.1 h _ (List.getElem_mem hk)
end Ons
end Go.Proofs.YthefgagmjamdkaaDoor
