/-
  Package onform: the form that the reference finds is the form that is read: plain words.
-/
import Derived.Test.YtopmcelfmkeamaaGreatDoorBdE
import Derived.Test.YtopmcelfmkeamaaGreatDoorRefWd
import Derived.Test.YtopmcelfmkeamaaGreatDoorBdU
import Derived.Lib.IndexMore
namespace Go.Proofs.YtopmcelfmkeamaaGreatDoor
open Go.RowKit
namespace Onf
open Sol Wrd Clk
/-- A place where a sign stands: > or <, and = behind it. -/
def hitAt (S : List UInt8) (i : Nat) : Prop := ∃ c, S[i]? = some c ∧ (c = 62 ∨ c = 60) ∧ S[i + 1]? = some 61
theorem occ2 (S : List UInt8) (c d : UInt8) (i : Nat) : Lib.occAt S [c, d] i = true ↔ S[i]? = some c ∧ S[i + 1]? = some d := by
  unfold Lib.occAt
  rw [List.isPrefixOf_iff_prefix]
  constructor
  · rintro ⟨t, ht⟩
    have h0 : (S.drop i)[0]? = some c := by rw [← ht]; rfl
    have h1 : (S.drop i)[1]? = some d := by rw [← ht]; rfl
    rw [List.getElem?_drop] at h0 h1
    exact ⟨by simpa using h0, h1⟩
  · rintro ⟨h0, h1⟩
    have l1 : i + 1 < S.length := (List.getElem?_eq_some_iff.1 h1).1
    refine ⟨S.drop (i + 2), ?_⟩
    have e0 : S[i] = c := by have := (List.getElem?_eq_some_iff.1 h0).2; exact this
    have e1 : S[i + 1] = d := (List.getElem?_eq_some_iff.1 h1).2
    rw [List.drop_eq_getElem_cons (i := i) (by omega), List.drop_eq_getElem_cons (i := i + 1) l1, e0, e1]
    rfl
theorem cut_hit {S P : List UInt8} {i : Nat} (hi : i ≤ S.length) (ho : Lib.occAt S P i = true) (hn : ∀ j, j < i → Lib.occAt S P j = false) : Lib.cut S P = (S.take i, S.drop (i + P.length), true) := by
  have e := Lib.index_first hi ho hn
  rw [Lib.cut, e, if_pos (by omega)]
  simp
theorem cut_no {S P : List UInt8} (hn : ∀ j, Lib.occAt S P j = false) : (Lib.cut S P).2.2 = false := by
  have e := Lib.index_none (s := S) (sub := P) (fun j _ => hn j)
  rw [Lib.cut, e, if_neg (by omega)]
/-- A later place: what is cut there holds what stands at the earlier one. -/
theorem cut_late {S P : List UInt8} {i : Nat} {c : UInt8} (hc : S[i]? = some c) (hn : ∀ j, j ≤ i → Lib.occAt S P j = false) :
    (Lib.cut S P).2.2 = false ∨ ((Lib.cut S P).2.2 = true ∧ c ∈ (Lib.cut S P).1 ∧ ∃ p, i < p ∧ Lib.occAt S P p = true) := by
  rcases Lib.index_spec S P with ⟨e, _⟩ | ⟨p, e, hp, ho, _⟩
  · left; rw [Lib.cut, e, if_neg (by omega)]
  · right
    have hip : i < p := by
      rcases Nat.lt_or_ge i p with h | h
      · exact h
      · rw [hn p h] at ho; cases ho
    rw [Lib.cut, e, if_pos (by omega)]
    refine ⟨rfl, ?_, p, hip, ho⟩
    simp only [Int.toNat_natCast]
    have : (S.take p)[i]? = some c := by rw [List.getElem?_take_of_lt hip]; exact hc
    exact List.mem_of_getElem? this
theorem fgo_none {f m : Int} {S : List UInt8} (xs : List (List UInt8)) : ∀ (i : Int), (∀ x ∈ xs, bgB S x = false) → fgo f m (smL S) xs i 0 0 = (0, 7) := by
  induction xs with
  | nil => intro i _; rw [fgo, if_neg (by omega)]
  | cons x xs ih =>
    intro i hx
    have hb := hx x (by simp)
    have hb' : (smL S).isPrefixOf (smL x) = false := hb
    rw [fgo, if_neg (fun e => by rw [e, List.isPrefixOf_iff_prefix.2 (List.prefix_refl _)] at hb'; cases hb'), hb']
    exact ih _ (fun y hy => hx y (by simp [hy]))
theorem wd_none {k : Int} {S : List UInt8} (h : ∀ x ∈ wds k, bgB S x = false) : wdP k S = (0, 7) := fgo_none _ _ h
theorem bg_mem {S x : List UInt8} {c : UInt8} (hc : c ∈ S) (hx : smB c ∉ smL x) : bgB S x = false := by
  cases hb : bgB S x with
  | false => rfl
  | true =>
    obtain ⟨t, ht⟩ := List.isPrefixOf_iff_prefix.1 hb
    exact absurd (show smB c ∈ smL x by rw [← ht]; exact List.mem_append_left _ (List.mem_map_of_mem hc)) hx
theorem wd3_60 {S : List UInt8} (h : (60 : UInt8) ∈ S) : wdP 3 S = (0, 7) :=
  wd_none (fun x hx => bg_mem h (by revert x; decide +kernel))
theorem wd3_last {S : List UInt8} (h4 : 4 ≤ S.length) (h : smL (S.take 4) = [108, 97, 115, 116]) : wdP 3 S = (0, 7) := by
  refine wd_none (fun x hx => ?_)
  cases hb : bgB S x with
  | false => rfl
  | true =>
    obtain ⟨t, ht⟩ := List.isPrefixOf_iff_prefix.1 hb
    have e0 : (smL x)[0]? = some 108 := by
      rw [← ht, List.getElem?_append_left (by rw [smL_len]; omega)]
      have := congrArg (fun l => l[0]?) h
      simp only [smL, List.getElem?_map] at this ⊢
      rw [List.getElem?_take_of_lt (by omega)] at this
      simpa using this
    exact absurd e0 ((show ∀ x ∈ wds 3, (smL x)[0]? ≠ some 108 by decide +kernel) x hx)
/-- What the reference's answer is worth: right, and the form; or none. -/
def OnRel (S : List UInt8) (a b c : Int) (r : Bool) : Prop := (r = true ∧ onP S = (a, b, c, 0)) ∨ (r = false ∧ onP S = (0, 0, 0, 8))
theorem okP_of_day {S : List UInt8} (h : dayB S = true) : okP S 1 2 = true := by
  unfold dayB at h
  rw [Bool.and_eq_true] at h
  obtain ⟨h1, h2, h3⟩ := RNum.parseB_parts h.1
  have h4 := of_decide_eq_true h.2
  exact okP_iff.2 ⟨⟨h1, h4.1⟩, h3⟩
theorem day_of_okP {S : List UInt8} (h : okP S 1 2 = true) : parseB S = true ∧ parseV S = digVal S ∧ dayB S = decide (1 ≤ digVal S ∧ digVal S ≤ 31) := by
  have hp := okP_parse (by omega) (by omega) h
  obtain ⟨⟨h1, h2⟩, h3⟩ := okP_iff.1 h
  have hv := parseV_yes hp
  refine ⟨hp, hv, ?_⟩
  rw [dayB, hp, hv]
  by_cases h4 : 1 ≤ digVal S ∧ digVal S ≤ 31
  · rw [decide_eq_true h4, decide_eq_true ⟨h2, h4.1, h4.2⟩]; rfl
  · rw [decide_eq_false h4, decide_eq_false (fun x => h4 x.2)]; rfl
theorem dig_no {S : List UInt8} (h : S.all isDig = true) (c d : UInt8) (hc : isDig c = false) : (Lib.cut S [c, d]).2.2 = false := by
  refine cut_no (fun j => ?_)
  cases ho : Lib.occAt S [c, d] j with
  | false => rfl
  | true =>
    have hm := List.mem_of_getElem? ((occ2 S c d j).1 ho).1
    have := List.all_eq_true.1 h c hm
    rw [hc] at this
    cases this
/-- A day beyond. -/
theorem on_day {S : List UInt8} (h : okP S 1 2 = true) : OnRel S 1 0 (digVal S) (Wk.onOk 1 0 (digVal S)) := by
  obtain ⟨hp, hv, hd⟩ := day_of_okP h
  obtain ⟨⟨h1, h2⟩, h3⟩ := okP_iff.1 h
  by_cases h4 : 1 ≤ digVal S ∧ digVal S ≤ 31
  · left
    rw [decide_eq_true h4] at hd
    exact ⟨decide_eq_true (by omega), by rw [onP, if_pos hd, hv]⟩
  · right
    rw [decide_eq_false h4] at hd
    refine ⟨decide_eq_false (by omega), ?_⟩
    rw [onP, if_neg (by rw [hd]; decide), if_neg (by omega), if_neg (by rw [dig_no h3 62 61 (by decide)]; decide), if_neg (by rw [dig_no h3 60 61 (by decide)]; decide)]
theorem nday_of {S : List UInt8} (h : okP S 1 2 = false) : dayB S = false := by
  cases hd : dayB S with
  | false => rfl
  | true => rw [okP_of_day hd] at h; cases h
abbrev lastQ (S : List UInt8) : Prop := 4 < S.length ∧ smL (S.take 4) = [108, 97, 115, 116]
theorem on_last {S : List UInt8} (h : okP S 1 2 = false) (hl : lastQ S) : (rwP 3 (S.drop 4) = -1 ∧ onP S = (0, 0, 0, 8)) ∨ (0 ≤ rwP 3 (S.drop 4) ∧ OnRel S 2 (rwP 3 (S.drop 4)) 0 true) := by
  have e : onP S = lastP (S.drop 4) := by rw [onP, if_neg (by rw [nday_of h]; decide), if_pos hl]
  rcases rw_wd (k := 3) (by omega) (S.drop 4) with ⟨h1, h2⟩ | ⟨h1, h2⟩
  · exact Or.inl ⟨h1, by rw [e, lastP, h2]; rfl⟩
  · refine Or.inr ⟨h1, Or.inl ⟨rfl, ?_⟩⟩
    rw [e, lastP, h2, if_pos rfl, show fstV 3 = 0 from rfl, Int.zero_add]
/-- No sign anywhere. -/
theorem on_nohit {S : List UInt8} (h : okP S 1 2 = false) (hl : lastQ S → onP S = (0, 0, 0, 8)) (hn : ∀ j, ¬ hitAt S j) : onP S = (0, 0, 0, 8) := by
  by_cases hq : lastQ S
  · exact hl hq
  · have o1 : ∀ c, (c = 62 ∨ c = 60) → ∀ j, Lib.occAt S [c, 61] j = false := fun c hc j => by
      cases ho : Lib.occAt S [c, 61] j with
      | false => rfl
      | true => exact absurd ⟨c, ((occ2 S c 61 j).1 ho).1, hc, ((occ2 S c 61 j).1 ho).2⟩ (hn j)
    rw [onP, if_neg (by rw [nday_of h]; decide), if_neg hq, if_neg (by rw [cut_no (o1 62 (Or.inl rfl))]; decide), if_neg (by rw [cut_no (o1 60 (Or.inr rfl))]; decide)]
theorem rw_of_wd7 {S : List UInt8} (h : wdP 3 S = (0, 7)) : rwP 3 S = -1 := by
  rcases rw_wd (k := 3) (by omega) S with ⟨h1, _⟩ | ⟨_, h2⟩
  · exact h1
  · rw [h] at h2
    have := congrArg Prod.snd h2
    simp at this
/-- The first sign. -/
theorem on_hit {S : List UInt8} {i : Nat} {c : UInt8} {k : Int} (h : okP S 1 2 = false) (hl : lastQ S → onP S = (0, 0, 0, 8)) (hn : ∀ j, j < i → ¬ hitAt S j) (h0 : S[i]? = some c) (h1 : S[i + 1]? = some 61)
    (hk : (c = 62 ∧ k = 3) ∨ (c = 60 ∧ k = 4)) :
    ((rwP 3 (S.take i) < 0 ∨ okP (S.drop (i + 2)) 1 2 = false) → onP S = (0, 0, 0, 8)) ∧
    (0 ≤ rwP 3 (S.take i) → okP (S.drop (i + 2)) 1 2 = true → OnRel S k (rwP 3 (S.take i)) (digVal (S.drop (i + 2))) (Wk.onOk k (rwP 3 (S.take i)) (digVal (S.drop (i + 2))))) := by
  have hi : i < S.length := (List.getElem?_eq_some_iff.1 h0).1
  have hnd := nday_of h
  by_cases hq : lastQ S
  · -- the name begins with 'last'
    have h8 := hl hq
    refine ⟨fun _ => h8, fun hw _ => ?_⟩
    exfalso
    have h4 : 4 ≤ i := by
      rcases Nat.lt_or_ge i 4 with hlt | hge
      · exfalso
        have e := congrArg (fun l => l[i]?) hq.2
        simp only [smL, List.getElem?_map] at e
        rw [List.getElem?_take_of_lt hlt, h0] at e
        have hs : smB c = 62 ∨ smB c = 60 := by
          rcases hk with ⟨rfl, _⟩ | ⟨rfl, _⟩
          · left; decide
          · right; decide
        have hii : i = 0 ∨ i = 1 ∨ i = 2 ∨ i = 3 := by omega
        rcases hii with rfl | rfl | rfl | rfl <;> simp at e <;> rcases hs with hs | hs <;> rw [hs] at e <;> revert e <;> decide
      · exact hge
    have h7 : wdP 3 (S.take i) = (0, 7) := wd3_last (by rw [List.length_take]; omega) (by rw [List.take_take, Nat.min_eq_left h4]; exact hq.2)
    have := rw_of_wd7 h7
    omega
  · have key : onP S = besP k (S.take i) (S.drop (i + 2)) ∨ (onP S = (0, 0, 0, 8) ∧ okP (S.drop (i + 2)) 1 2 = false) := by
      rcases hk with ⟨rfl, rfl⟩ | ⟨rfl, rfl⟩
      · left
        have hc := cut_hit (S := S) (P := [62, 61]) (i := i) (by omega) ((occ2 S 62 61 i).2 ⟨h0, h1⟩) (fun j hj => by
          cases ho : Lib.occAt S [62, 61] j with
          | false => rfl
          | true => exact absurd ⟨62, ((occ2 S 62 61 j).1 ho).1, Or.inl rfl, ((occ2 S 62 61 j).1 ho).2⟩ (hn j hj))
        rw [onP, if_neg (by rw [hnd]; decide), if_neg hq, if_pos (by rw [hc]), hc]
        rfl
      · have hn62 : ∀ j, j ≤ i → Lib.occAt S [62, 61] j = false := fun j hj => by
          cases ho : Lib.occAt S [62, 61] j with
          | false => rfl
          | true =>
            by_cases hji : j = i
            · subst hji
              have := ((occ2 S 62 61 j).1 ho).1
              rw [h0] at this
              exact absurd this (by decide)
            · exact absurd ⟨62, ((occ2 S 62 61 j).1 ho).1, Or.inl rfl, ((occ2 S 62 61 j).1 ho).2⟩ (hn j (by omega))
        have hc := cut_hit (S := S) (P := [60, 61]) (i := i) (by omega) ((occ2 S 60 61 i).2 ⟨h0, h1⟩) (fun j hj => by
          cases ho : Lib.occAt S [60, 61] j with
          | false => rfl
          | true => exact absurd ⟨60, ((occ2 S 60 61 j).1 ho).1, Or.inr rfl, ((occ2 S 60 61 j).1 ho).2⟩ (hn j hj))
        rcases cut_late h0 hn62 with hf | ⟨ht, hm, p, hp, hop⟩
        · left
          rw [onP, if_neg (by rw [hnd]; decide), if_neg hq, if_neg (by rw [hf]; decide), if_pos (by rw [hc]), hc]
          rfl
        · right
          constructor
          · rw [onP, if_neg (by rw [hnd]; decide), if_neg hq, if_pos ht, besP, wd3_60 hm]
            rfl
          · obtain ⟨o0, o1⟩ := (occ2 S 62 61 p).1 hop
            have hp1 : p ≠ i + 1 := by
              rintro rfl
              rw [h1] at o0
              exact absurd o0 (by decide)
            have hpe : (S.drop (i + 2))[p - (i + 2)]? = some 62 := by
              rw [List.getElem?_drop, show i + 2 + (p - (i + 2)) = p by omega]; exact o0
            obtain ⟨hlt, he⟩ := List.getElem?_eq_some_iff.1 hpe
            exact okP_at hlt (by rw [he]; decide)
    constructor
    · intro hbad
      rcases key with e | ⟨e, _⟩
      · rw [e, besP]
        rcases hbad with hw | hd
        · rcases rw_wd (k := 3) (by omega) (S.take i) with ⟨_, h2⟩ | ⟨h2, _⟩
          · rw [h2]; rfl
          · omega
        · rw [if_neg (by rw [nday_of hd]; simp)]
      · exact e
    · intro hw hd
      rcases key with e | ⟨_, e2⟩
      · rcases rw_wd (k := 3) (by omega) (S.take i) with ⟨h2, _⟩ | ⟨_, h2⟩
        · omega
        · have hb := rwP3_bd (S.take i)
          obtain ⟨_, hv, hdd⟩ := day_of_okP hd
          rw [show fstV 3 = 0 from rfl, Int.zero_add] at h2
          by_cases h4 : 1 ≤ digVal (S.drop (i + 2)) ∧ digVal (S.drop (i + 2)) ≤ 31
          · left
            rw [decide_eq_true h4] at hdd
            refine ⟨decide_eq_true (by rcases hk with ⟨_, rfl⟩ | ⟨_, rfl⟩ <;> omega), ?_⟩
            rw [e, besP, h2, hdd, hv]
            rfl
          · right
            rw [decide_eq_false h4] at hdd
            refine ⟨decide_eq_false (by rcases hk with ⟨_, rfl⟩ | ⟨_, rfl⟩ <;> omega), ?_⟩
            rw [e, besP, hdd, if_neg (by simp)]
      · rw [hd] at e2; cases e2
end Onf
end Go.Proofs.YtopmcelfmkeamaaGreatDoor
