/-
  Lines, the reference's words: word; what ParseLine says, in plain words: it says what the program's says.
-/
import Derived.Test.YtdakpncfophjnaaLnRC
namespace Go.Proofs.Ytdakpncfophjnaa
open Go.RowKit
namespace Lin
open CutB Cel
open Opn (TxtV)
def WdQ (S : List UInt8) (a : Nat) (w : World) (e : Ending) (w' : World) : Prop := ∃ V : ByteArray, e = .returned (.string V) ∧ Hid (V.data.toList = hdT [58, 59, 61] (S.drop a)) ∧ w = w'
set_option maxHeartbeats 6400000 in
set_option maxRecDepth 100000 in
theorem rwd_to (s : ByteArray) (S : List UInt8) (a : Nat) (w : World) (hs : s.size ≤ 1000000) (hS : Hid (s.data.toList = S)) (ha : a ≤ s.size) :
    Calls Try.prog 47 #[.string s, .int .i64 a] w (WdQ S a w) := by
  have hl : S.length = s.size := by rw [← hS.out]; simp
  have HL := Lib.hid hl
  clear hl
  go_enter Try.func47, Try.ntmps47
  go_wp2
  go_loopw [5] (fun i wr => ∃ k : Nat, a ≤ k ∧ k ≤ s.size ∧ Hid (Hd [58, 59, 61] S a k) ∧ i = .int .i64 k ∧ w = wr) (fun i _ => s.size - (intOf i).toNat)
  case atStart => exact ⟨a, Nat.le_refl _, ha, Lib.hid (Hd.start _ _ _), rfl, rfl⟩
  case round =>
    obtain ⟨k, hak, hk, hh, rfl, rfl⟩ := hrel
    have q1 : (a : Int) ≤ (k : Int) := by omega
    have q2 : (k : Int) ≤ (s.size : Int) := by omega
    have HE : Hid ((s.extract a k).data.toList = (S.drop a).take (k - a)) := Lib.hid (by rw [dt_ab, hS.out])
    by_cases hlt : k < s.size
    · have hkS : k < S.length := by rw [HL.out]; exact hlt
      obtain ⟨d, hx⟩ : ∃ c, S[k]'hkS = c := ⟨_, rfl⟩
      have hcc : s[k] = d := by
        have : s[k] = s.data.toList[k]'(by simpa using hlt) := by simp [ByteArray.getElem_eq_getElem_data]
        rw [this, ← hx]
        exact List.getElem_of_eq hS.out _
      have db := d.toNat_lt
      have HN : Hid (([58, 59, 61] : List UInt8).contains d = false → Hd [58, 59, 61] S a (k + 1)) := Lib.hid (fun q => hh.out.next hak hkS (by rw [hx]; exact q))
      have HF : Hid (([58, 59, 61] : List UInt8).contains d = true → hdT [58, 59, 61] (S.drop a) = (S.drop a).take (k - a)) := Lib.hid (fun q => hh.out.stop hkS (by rw [hx]; exact q))
      clear hx hkS hh
      by_cases x1 : d = 59
      · subst x1
        have HR : Hid ((s.extract a k).data.toList = hdT [58, 59, 61] (S.drop a)) := Lib.hid (by rw [HE.out, HF.out (by decide)])
        clear HN HF
        go_wp2
        go_ret
        exact ⟨_, rfl, HR, rfl⟩
      · by_cases x2 : d = 58
        · subst x2
          have HR : Hid ((s.extract a k).data.toList = hdT [58, 59, 61] (S.drop a)) := Lib.hid (by rw [HE.out, HF.out (by decide)])
          clear HN HF
          go_wp2
          go_ret
          exact ⟨_, rfl, HR, rfl⟩
        · have y1 : ((d.toNat : Int) != 59) = true := bne_iff_ne.2 (fun e => x1 (UInt8.toNat_inj.1 (by show d.toNat = 59; omega)))
          have y2 : ((d.toNat : Int) != 58) = true := bne_iff_ne.2 (fun e => x2 (UInt8.toNat_inj.1 (by show d.toNat = 58; omega)))
          by_cases x3 : d = 61
          · subst x3
            have HR : Hid ((s.extract a k).data.toList = hdT [58, 59, 61] (S.drop a)) := Lib.hid (by rw [HE.out, HF.out (by decide)])
            clear HN HF
            go_wp2
            go_ret
            exact ⟨_, rfl, HR, rfl⟩
          · have y3 : ((d.toNat : Int) != 61) = true := bne_iff_ne.2 (fun e => x3 (UInt8.toNat_inj.1 (by show d.toNat = 61; omega)))
            have HNN := Lib.hid (HN.out (by simp [x1, x2, x3]))
            clear HN HF x1 x2 x3
            go_wp2
            go_roundw
            case rel => exact ⟨k + 1, by omega, by omega, HNN, by go_num, trivial⟩
            case measure => simp [intOf]; omega
    · have HR : Hid ((s.extract a k).data.toList = hdT [58, 59, 61] (S.drop a)) := Lib.hid (by rw [HE.out, hh.out.fin (by rw [HL.out]; omega)])
      clear hh
      go_wp2
      go_ret
      exact ⟨_, rfl, HR, rfl⟩
/-! ### What ParseLine says -/
def rvR : List UInt8 → Option (List UInt8 × List UInt8)
  | [] => some ([], [])
  | c :: T => if c = 34 then (if tlT [34] T = [] then none else some (hdT [34] T, (tlT [34] T).tail)) else some (hdT [58, 59, 44] (c :: T), tlT [58, 59, 44] (c :: T))
def rvRG : Nat → List UInt8 → List (List UInt8) → Option (List (List UInt8) × List UInt8)
  | 0, _, _ => none
  | k + 1, S, acc => match rvR S with
    | none => none
    | some (v, []) => some (acc ++ [v], [])
    | some (v, c :: T) => if c = 44 then rvRG k T (acc ++ [v]) else some (acc ++ [v], c :: T)
def rpR (T : List UInt8) : Option (PV × List UInt8) := match tlT [58, 59, 61] T with
  | [] => none
  | c :: U => if c = 61 then rpO (hdT [58, 59, 61] T) (rvRG (U.length + 1) U []) else none
def pgR : Nat → List UInt8 → List PV → Option (List PV × List UInt8)
  | 0, _, _ => none
  | _ + 1, [], acc => some (acc, [])
  | k + 1, c :: T, acc => if c = 59 then (match rpR T with
    | none => none
    | some (p, R) => pgR k R (acc ++ [p])) else some (acc, c :: T)
def rlX (S : List UInt8) : Option LV := match pgR (S.length + 1) (tlT [58, 59, 61] S) [] with
  | none => none
  | some (_, []) => none
  | some (ps, c :: T) => if c = 58 ∧ lnB ⟨hdT [58, 59, 61] S, ps, T⟩ = true then some ⟨hdT [58, 59, 61] S, ps, T⟩ else none
/-! ### Both say the same -/
theorem rvR_len {T V R : List UInt8} (h : rvR T = some (V, R)) : R.length ≤ T.length := by
  cases T with
  | nil => injection h with h; injection h with _ h; subst h; simp
  | cons c U =>
    rw [rvR] at h
    split at h
    · split at h
      · cases h
      · injection h with h
        injection h with _ h
        subst h
        have := tl_len [34] U
        simp only [List.length_tail, List.length_cons]
        omega
    · injection h with h
      injection h with _ h
      subst h
      exact tl_len _ _
theorem rv_same {T V R : List UInt8} (h : rvL T = some (V, R)) : rvR T = some (V, R) := by
  cases T with
  | nil => cases h
  | cons c U =>
    rw [rvL] at h
    rw [rvR]
    by_cases e : c = 34
    · rw [if_pos e] at h ⊢; exact h
    · rw [if_neg e] at h ⊢
      split at h
      · cases h
      · exact h
theorem rv_back {T V R : List UInt8} (h : rvR T = some (V, R)) (hR : R ≠ []) : rvL T = some (V, R) := by
  cases T with
  | nil => injection h with h; injection h with _ h; exact absurd h.symm hR
  | cons c U =>
    rw [rvR] at h
    rw [rvL]
    by_cases e : c = 34
    · rw [if_pos e] at h ⊢; exact h
    · rw [if_neg e] at h ⊢
      injection h with h
      injection h with h1 h2
      rw [if_neg (by rw [h2]; exact hR), h1, h2]
theorem rvg_same : ∀ (f : Nat) (T : List UInt8) (acc vs : List (List UInt8)) (R : List UInt8), rvG f T acc = some (vs, R) → rvRG f T acc = some (vs, R)
  | 0, _, _, _, _, h => by cases h
  | f + 1, T, acc, vs, R, h => by
    rw [rvG] at h
    rw [rvRG]
    cases hr : rvL T with
    | none => rw [hr] at h; cases h
    | some VR =>
      obtain ⟨V, Q⟩ := VR
      rw [hr] at h
      rw [rv_same hr]
      cases Q with
      | nil => cases h
      | cons d U =>
        have h : (if d = 44 then rvG f U (acc ++ [V]) else some (acc ++ [V], d :: U)) = some (vs, R) := h
        show (if d = 44 then rvRG f U (acc ++ [V]) else some (acc ++ [V], d :: U)) = some (vs, R)
        by_cases e : d = 44
        · rw [if_pos e] at h ⊢; exact rvg_same f U _ _ _ h
        · rw [if_neg e] at h ⊢; exact h
theorem rvg_back : ∀ (f : Nat) (T : List UInt8) (acc vs : List (List UInt8)) (R : List UInt8), rvRG f T acc = some (vs, R) → R ≠ [] → rvG f T acc = some (vs, R)
  | 0, _, _, _, _, h, _ => by cases h
  | f + 1, T, acc, vs, R, h, hR => by
    rw [rvRG] at h
    rw [rvG]
    cases hr : rvR T with
    | none => rw [hr] at h; cases h
    | some VR =>
      obtain ⟨V, Q⟩ := VR
      rw [hr] at h
      cases Q with
      | nil =>
        injection h with h
        injection h with _ h
        exact absurd h.symm hR
      | cons d U =>
        rw [rv_back hr (by simp)]
        have h : (if d = 44 then rvRG f U (acc ++ [V]) else some (acc ++ [V], d :: U)) = some (vs, R) := h
        show (if d = 44 then rvG f U (acc ++ [V]) else some (acc ++ [V], d :: U)) = some (vs, R)
        by_cases e : d = 44
        · rw [if_pos e] at h ⊢; exact rvg_back f U _ _ _ h hR
        · rw [if_neg e] at h ⊢; exact h
/-- More fuel than there are signs changes nothing. -/
theorem rvRG_fuel : ∀ (f g : Nat) (T : List UInt8) (acc : List (List UInt8)), T.length < f → T.length < g → rvRG f T acc = rvRG g T acc
  | 0, _, _, _, h, _ => by omega
  | _, 0, _, _, _, h => by omega
  | f + 1, g + 1, T, acc, h1, h2 => by
    rw [rvRG, rvRG]
    cases hr : rvR T with
    | none => rfl
    | some VR =>
      obtain ⟨V, Q⟩ := VR
      cases Q with
      | nil => rfl
      | cons d U =>
        have := rvR_len hr
        simp only [List.length_cons] at this
        show (if d = 44 then rvRG f U (acc ++ [V]) else some (acc ++ [V], d :: U)) = (if d = 44 then rvRG g U (acc ++ [V]) else some (acc ++ [V], d :: U))
        by_cases e : d = 44
        · rw [if_pos e, if_pos e]; exact rvRG_fuel f g U _ (by omega) (by omega)
        · rw [if_neg e, if_neg e]
theorem nm_split {C D T : List UInt8} (hD : ∀ c ∈ D, c ∈ ([58, 59, 61, 34, 44] : List UInt8)) (hn : nmB (hdT C T) = true) (ht : ∃ c U, tlT C T = c :: U ∧ D.contains c = true) : hdT D T = hdT C T ∧ tlT D T = tlT C T := by
  have h := hd_tl_app (C := D) (R := tlT C T) (nm_all hn hD) ht
  rwa [hd_tl C T] at h
theorem tl_head (C T : List UInt8) : ∀ c U, tlT C T = c :: U → C.contains c = true := by
  intro c U h
  have := List.head?_dropWhile_not (fun b => !C.contains b) T
  rw [show List.dropWhile (fun b => !C.contains b) T = c :: U from h] at this
  simpa using this
theorem rp_same {T R : List UInt8} {p : PV} (h : rpL T = some (p, R)) (hn : nmB p.nm = true) : rpR T = some (p, R) := by
  rw [rpL] at h
  split at h
  · cases h
  · rename_i hne
    cases hg : rvG (T.length + 1) (tlT [61] T).tail [] with
    | none => rw [hg] at h; cases h
    | some VR =>
      obtain ⟨vs, Q⟩ := VR
      rw [hg] at h
      injection h with h
      injection h with h1 h2
      subst h1 h2
      obtain ⟨c, U, hcu⟩ : ∃ c U, tlT [61] T = c :: U := by
        cases hq : tlT [61] T with
        | nil => exact absurd hq hne
        | cons c U => exact ⟨c, U, rfl⟩
      have hc : c = 61 := by have := tl_head [61] T c U hcu; simpa using this
      subst hc
      obtain ⟨e1, e2⟩ := nm_split (C := [61]) (D := [58, 59, 61]) (by simp) hn ⟨61, U, hcu, by decide⟩
      rw [hcu] at hg e2
      rw [rpR, e2, e1]
      have hU := rvg_same _ _ _ _ _ hg
      have l1 := tl_len [61] T
      rw [hcu] at l1
      simp only [List.length_cons] at l1
      rw [List.tail_cons, rvRG_fuel (T.length + 1) (U.length + 1) U [] (by omega) (by omega)] at hU
      show (if (61 : UInt8) = 61 then rpO (hdT [61] T) (rvRG (U.length + 1) U []) else none) = _
      rw [if_pos rfl, hU]
      rfl
theorem rvG_fuel : ∀ (f g : Nat) (T : List UInt8) (acc : List (List UInt8)), T.length < f → T.length < g → rvG f T acc = rvG g T acc
  | 0, _, _, _, h, _ => by omega
  | _, 0, _, _, _, h => by omega
  | f + 1, g + 1, T, acc, h1, h2 => by
    rw [rvG, rvG]
    cases hr : rvL T with
    | none => rfl
    | some VR =>
      obtain ⟨V, Q⟩ := VR
      cases Q with
      | nil => rfl
      | cons d U =>
        have := rv_len hr
        simp only [List.length_cons] at this
        show (if d = 44 then rvG f U (acc ++ [V]) else some (acc ++ [V], d :: U)) = (if d = 44 then rvG g U (acc ++ [V]) else some (acc ++ [V], d :: U))
        by_cases e : d = 44
        · rw [if_pos e, if_pos e]; exact rvG_fuel f g U _ (by omega) (by omega)
        · rw [if_neg e, if_neg e]
theorem rp_back {T R : List UInt8} {p : PV} (h : rpR T = some (p, R)) (hn : nmB p.nm = true) (hR : R ≠ []) : rpL T = some (p, R) := by
  rw [rpR] at h
  cases hq : tlT [58, 59, 61] T with
  | nil => rw [hq] at h; cases h
  | cons c U =>
    rw [hq] at h
    have h : (if c = 61 then rpO (hdT [58, 59, 61] T) (rvRG (U.length + 1) U []) else none) = some (p, R) := h
    by_cases e : c = 61
    · subst e
      rw [if_pos rfl] at h
      cases hg : rvRG (U.length + 1) U [] with
      | none => rw [hg] at h; cases h
      | some VR =>
        obtain ⟨vs, Q⟩ := VR
        rw [hg] at h
        injection h with h
        injection h with h1 h2
        subst h1 h2
        obtain ⟨e1, e2⟩ := nm_split (C := [58, 59, 61]) (D := [61]) (by simp) hn ⟨61, U, hq, by decide⟩
        rw [hq] at e2
        have hU := rvg_back _ _ _ _ _ hg hR
        have l1 := tl_len [58, 59, 61] T
        rw [hq] at l1
        simp only [List.length_cons] at l1
        rw [rpL, e2, e1, if_neg (by simp), List.tail_cons, rvG_fuel (T.length + 1) (U.length + 1) U [] (by omega) (by omega), hU]
        rfl
    · rw [if_neg e] at h; cases h
theorem pg_same : ∀ (f : Nat) (S : List UInt8) (acc ps : List PV) (R : List UInt8), pgL f S acc = some (ps, R) → ps.all parB = true → pgR f S acc = some (ps, R)
  | 0, _, _, _, _, h, _ => by cases h
  | f + 1, [], acc, ps, R, h, _ => h
  | f + 1, c :: T, acc, ps, R, h, hp => by
    rw [pgL] at h
    rw [pgR]
    by_cases e : c = 59
    · rw [if_pos e] at h ⊢
      cases hr : rpL T with
      | none => rw [hr] at h; cases h
      | some pR =>
        obtain ⟨p, Q⟩ := pR
        rw [hr] at h
        have h : pgL f Q (acc ++ [p]) = some (ps, R) := h
        have hmem : p ∈ ps := pgL_mem f Q _ _ _ h p (by simp)
        have hb := List.all_eq_true.1 hp p hmem
        rw [parB, Bool.and_eq_true] at hb
        rw [rp_same hr hb.1]
        exact pg_same f Q _ _ _ h hp
    · rw [if_neg e] at h ⊢; exact h
where
  pgL_mem : ∀ (f : Nat) (S : List UInt8) (acc ps : List PV) (R : List UInt8), pgL f S acc = some (ps, R) → ∀ p ∈ acc, p ∈ ps
  | 0, _, _, _, _, h => by cases h
  | f + 1, [], acc, ps, R, h => fun p hp => by injection h with h; injection h with h _; rw [← h]; exact hp
  | f + 1, c :: T, acc, ps, R, h => fun p hp => by
    rw [pgL] at h
    split at h
    · cases hr : rpL T with
      | none => rw [hr] at h; cases h
      | some pR =>
        obtain ⟨q, Q⟩ := pR
        rw [hr] at h
        exact pgL_mem f Q _ _ _ h p (by simp [hp])
    · injection h with h; injection h with h _; rw [← h]; exact hp
theorem pgR_mem : ∀ (f : Nat) (S : List UInt8) (acc ps : List PV) (R : List UInt8), pgR f S acc = some (ps, R) → ∀ p ∈ acc, p ∈ ps
  | 0, _, _, _, _, h => by cases h
  | f + 1, [], acc, ps, R, h => fun p hp => by injection h with h; injection h with h _; rw [← h]; exact hp
  | f + 1, c :: T, acc, ps, R, h => fun p hp => by
    rw [pgR] at h
    split at h
    · cases hr : rpR T with
      | none => rw [hr] at h; cases h
      | some pR =>
        obtain ⟨q, Q⟩ := pR
        rw [hr] at h
        exact pgR_mem f Q _ _ _ h p (by simp [hp])
    · injection h with h; injection h with h _; rw [← h]; exact hp
theorem pg_back : ∀ (f : Nat) (S : List UInt8) (acc ps : List PV) (R : List UInt8), pgR f S acc = some (ps, R) → ps.all parB = true → R ≠ [] → pgL f S acc = some (ps, R)
  | 0, _, _, _, _, h, _, _ => by cases h
  | f + 1, [], acc, ps, R, h, _, _ => h
  | f + 1, c :: T, acc, ps, R, h, hp, hR => by
    rw [pgR] at h
    rw [pgL]
    by_cases e : c = 59
    · rw [if_pos e] at h ⊢
      cases hr : rpR T with
      | none => rw [hr] at h; cases h
      | some pR =>
        obtain ⟨p, Q⟩ := pR
        rw [hr] at h
        have h : pgR f Q (acc ++ [p]) = some (ps, R) := h
        have hmem : p ∈ ps := pgR_mem f Q _ _ _ h p (by simp)
        have hb := List.all_eq_true.1 hp p hmem
        rw [parB, Bool.and_eq_true] at hb
        have hQ : Q ≠ [] := by
          intro q
          subst q
          cases f with
          | zero => cases h
          | succ f =>
            injection h with h
            injection h with _ h
            exact hR h.symm
        rw [rp_back hr hb.1 hQ]
        exact pg_back f Q _ _ _ h hp hR
    · rw [if_neg e] at h ⊢; exact h
theorem pgR_first {f : Nat} {S R : List UInt8} {ps : List PV} {c : UInt8} (h : pgR f S [] = some (ps, c :: R)) (hc : c = 58) : ∃ d U, S = d :: U ∧ ([58, 59] : List UInt8).contains d = true := by
  cases f with
  | zero => cases h
  | succ f =>
    cases S with
    | nil => injection h with h; injection h with _ h; cases h
    | cons d U =>
      refine ⟨d, U, rfl, ?_⟩
      rw [pgR] at h
      by_cases e : d = 59
      · subst e; decide
      · rw [if_neg e] at h
        injection h with h
        injection h with _ h
        injection h with h _
        rw [h, hc]; decide
theorem rl_same (S : List UInt8) : rlX S = lnX S := by
  have fwd : ∀ l, lnX S = some l → rlX S = some l := by
    intro l h
    rw [lnX] at h
    split at h
    · cases h
    · rename_i hne
      cases hg : pgL (S.length + 1) (tlT [58, 59] S) [] with
      | none => rw [hg] at h; cases h
      | some PR =>
        obtain ⟨ps, Q⟩ := PR
        rw [hg] at h
        cases Q with
        | nil => cases h
        | cons c V =>
          have h9 : (if c = 58 ∧ lnB ⟨hdT [58, 59] S, ps, V⟩ = true then some (⟨hdT [58, 59] S, ps, V⟩ : LV) else none) = some l := h
          by_cases hc : c = 58 ∧ lnB ⟨hdT [58, 59] S, ps, V⟩ = true
          · rw [if_pos hc] at h9
            obtain ⟨rfl, hb⟩ := hc
            have hb' := hb
            rw [lnB, Bool.and_eq_true, Bool.and_eq_true] at hb'
            obtain ⟨d, U, hdu⟩ : ∃ d U, tlT [58, 59] S = d :: U := by
              cases hq : tlT [58, 59] S with
              | nil => exact absurd hq hne
              | cons c U => exact ⟨c, U, rfl⟩
            obtain ⟨e1, e2⟩ := nm_split (C := [58, 59]) (D := [58, 59, 61]) (by simp) hb'.1 ⟨d, U, hdu, by have := tl_head _ _ _ _ hdu; simp at this ⊢; rcases this with q | q <;> simp [q]⟩
            rw [rlX, e1, e2, pg_same _ _ _ _ _ hg hb'.2.2]
            show (if (58 : UInt8) = 58 ∧ lnB ⟨hdT [58, 59] S, ps, V⟩ = true then some (⟨hdT [58, 59] S, ps, V⟩ : LV) else none) = _
            rw [if_pos ⟨rfl, hb⟩]
            exact h9
          · rw [if_neg hc] at h9; cases h9
  have bwd : ∀ l, rlX S = some l → lnX S = some l := by
    intro l h
    rw [rlX] at h
    cases hg : pgR (S.length + 1) (tlT [58, 59, 61] S) [] with
    | none => rw [hg] at h; cases h
    | some PR =>
      obtain ⟨ps, Q⟩ := PR
      rw [hg] at h
      cases Q with
      | nil => cases h
      | cons c V =>
        have h9 : (if c = 58 ∧ lnB ⟨hdT [58, 59, 61] S, ps, V⟩ = true then some (⟨hdT [58, 59, 61] S, ps, V⟩ : LV) else none) = some l := h
        by_cases hc : c = 58 ∧ lnB ⟨hdT [58, 59, 61] S, ps, V⟩ = true
        · rw [if_pos hc] at h9
          obtain ⟨rfl, hb⟩ := hc
          have hb' := hb
          rw [lnB, Bool.and_eq_true, Bool.and_eq_true] at hb'
          obtain ⟨d, U, hdu, hd⟩ := pgR_first hg rfl
          obtain ⟨e1, e2⟩ := nm_split (C := [58, 59, 61]) (D := [58, 59]) (by simp) hb'.1 ⟨d, U, hdu, hd⟩
          rw [lnX, e1, e2, if_neg (by rw [hdu]; simp), pg_back _ _ _ _ _ hg hb'.2.2 (by simp)]
          show (if (58 : UInt8) = 58 ∧ lnB ⟨hdT [58, 59, 61] S, ps, V⟩ = true then some (⟨hdT [58, 59, 61] S, ps, V⟩ : LV) else none) = _
          rw [if_pos ⟨rfl, hb⟩]
          exact h9
        · rw [if_neg hc] at h9; cases h9
  cases h1 : lnX S with
  | some l => exact fwd l h1
  | none =>
    cases h2 : rlX S with
    | none => rfl
    | some l => rw [bwd l h2] at h1; cases h1
end Lin
end Go.Proofs.Ytdakpncfophjnaa
