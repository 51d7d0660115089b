/-
  Package tree, plain words: what is written is read.
-/
import Derived.Test.YtdakpncfophjnaaTrU
import Derived.Test.YtdakpncfophjnaaTrQ
import Derived.Test.YtdakpncfophjnaaTrR
import Derived.Test.YtdakpncfophjnaaBdW
import Derived.Test.YtdakpncfophjnaaLinK
namespace Go.Proofs.Ytdakpncfophjnaa
open Go.RowKit
namespace Tre
open Lin CutB Cel Ap
open Opn (TxtV)
def enV (L : List CV) (x : Int × Int) : LV := ⟨enL, [], nmAt L x.1⟩
def wl1 (L : List CV) (i : Int) (K : Stk) (c : CV) : List LV := ⟨bgL, [], c.nm⟩ :: (c.ls ++ (((i, i + 1 + c.own) :: K).takeWhile (fun x => decide (x.2 = i + 1))).map (enV L))
def wlG (L : List CV) : Int → Stk → List CV → List LV
  | _, _, [] => []
  | i, K, c :: cs => wl1 L i K c ++ wlG L (i + 1) (lvK ((i, i + 1 + c.own) :: K) (i + 1)) cs
def fl (l : LV) : List UInt8 := Fld.foldL (lineF l)
theorem putW_ok {s : WS} {l : LV} (h : (putW s l).2 = 0) : s.2 = 0 ∧ lnB l = true ∧ (putW s l).1 = s.1 ++ fl l := by
  rw [putW] at h ⊢
  split at h
  · rename_i hs; exact absurd h hs
  · rename_i hs
    rw [if_neg hs]
    split at h
    · exact absurd h (by simp)
    · rename_i h2
      rw [if_neg h2]
      split at h
      · exact absurd h (by simp)
      · rename_i h3
        rw [if_neg h3]
        split at h
        · exact absurd h (by simp)
        · rename_i h4
          rw [if_neg h4]
          exact ⟨by simpa using hs, by simpa using h2, rfl⟩
theorem putL_ok : ∀ (ls : List LV) (s : WS), (ls.foldl putW s).2 = 0 → s.2 = 0 ∧ (∀ l ∈ ls, lnB l = true) ∧ (ls.foldl putW s).1 = s.1 ++ (ls.map fl).flatten
  | [], s, h => ⟨h, by simp, by simp⟩
  | l :: ls, s, h => by
    rw [List.foldl_cons] at h ⊢
    obtain ⟨h1, h2, h3⟩ := putL_ok ls _ h
    obtain ⟨g1, g2, g3⟩ := putW_ok h1
    refine ⟨g1, fun x hx => ?_, ?_⟩
    · rcases List.mem_cons.1 hx with rfl | hx
      · exact g2
      · exact h2 x hx
    · rw [h3, g3]; simp
theorem cmpW_fold (L : List CV) (i : Int) (K : Stk) (s : WS) (c : CV) : cmpW L i K s c = (wl1 L i K c).foldl putW s := by
  rw [cmpW, wl1, List.foldl_cons, List.foldl_append, List.foldl_map]
  rfl
theorem txG_ok (L : List CV) : ∀ (cs : List CV) (i : Int) (K : Stk) (s : WS) (T : List UInt8), txG L i K s cs = (T, 0) → s.2 = 0 ∧ (∀ l ∈ wlG L i K cs, lnB l = true) ∧ T = s.1 ++ ((wlG L i K cs).map fl).flatten
  | [], i, K, s, T, h => by
    rw [txG] at h
    rw [h]
    exact ⟨rfl, by simp [wlG], by simp [wlG]⟩
  | c :: cs, i, K, s, T, h => by
    rw [txG] at h
    split at h
    · rename_i hne
      exact absurd (congrArg Prod.snd h) hne
    · obtain ⟨h1, h2, h3⟩ := txG_ok L cs _ _ _ T h
      rw [cmpW_fold] at h1 h3
      obtain ⟨g1, g2, g3⟩ := putL_ok _ _ h1
      refine ⟨g1, fun x hx => ?_, ?_⟩
      · rw [wlG] at hx
        rcases List.mem_append.1 hx with hx | hx
        · exact g2 x hx
        · exact h2 x hx
      · rw [h3, g3, wlG]; simp
theorem line_head {l : LV} (h : lnB l = true) : 0 < (lineF l).length ∧ Fld.blank (lineF l).head? = false := by
  have hn := h
  rw [lnB, Bool.and_eq_true] at hn
  have h1 := hn.1
  rw [nmB, Bool.and_eq_true] at h1
  have h2 := of_decide_eq_true h1.1
  rw [lineF]
  cases hnm : l.nm with
  | nil => rw [hnm] at h2; simp at h2
  | cons c N =>
    refine ⟨by simp, ?_⟩
    have h3 := h1.2
    rw [hnm] at h3
    have h4 := List.all_eq_true.1 h3 c (by simp)
    show (some c == some 32 || some c == some 9) = false
    have a1 : c ≠ 32 := by rintro rfl; revert h4; decide
    have a2 : c ≠ 9 := by rintro rfl; revert h4; decide
    simp [a1, a2]
theorem lnX_back {l : LV} (h : lnB l = true) : lnX (lineF l) = some l := by
  have h1 := ln_back l h
  rw [lnP] at h1
  cases hx : lnX (lineF l) with
  | none => rw [hx] at h1; injection h1 with h1 _; exact absurd h1 (by decide)
  | some m => rw [hx] at h1; injection h1 with _ h1; rw [h1]
theorem lns_back : ∀ (ls acc : List LV), (∀ l ∈ ls, lnB l = true) → lnsG (ls.map lineF) acc = some (acc ++ ls)
  | [], acc, _ => by simp [lnsG]
  | l :: ls, acc, h => by
    rw [List.map_cons, lnsG, lnX_back (h l (by simp))]
    simp only
    rw [lns_back ls _ (fun x hx => h x (by simp [hx]))]
    simp
theorem txT_lines {L : List CV} {T : List UInt8} (h : txT L = (T, 0)) : chkB L = true ∧ pTr T = bdR (wlG L 0 [] L) := by
  rw [txT] at h
  split at h
  · rename_i hc
    obtain ⟨_, h2, h3⟩ := txG_ok L L 0 [] ([], 0) T h
    refine ⟨hc, ?_⟩
    have hcat : T = Fld.cat ((wlG L 0 [] L).map lineF) := by
      rw [h3, Fld.cat, List.flatMap_map, List.flatMap_def]; simp only [List.nil_append]; rfl
    obtain ⟨u1, u2⟩ := Fld.unf_cat ((wlG L 0 [] L).map lineF) (fun S hS => by
      obtain ⟨l, hl, rfl⟩ := List.mem_map.1 hS
      have hb := h2 l hl
      exact ⟨hit_ln hb, (line_head hb).1, (line_head hb).2⟩)
    rw [pTr, hcat, u2, if_pos rfl, u1, lns_back _ [] h2]
    simp
  · injection h with _ h
    exact absurd h (by decide)
/-! ### Lines put together -/
theorem mod_last : ∀ (C : List CV) (x : CV) (f : CV → CV), (C ++ [x]).modify C.length f = C ++ [f x]
  | [], _, _ => rfl
  | c :: C, x, f => by
    show (c :: (C ++ [x])).modify (C.length + 1) f = _
    rw [List.modify_succ_cons, mod_last C x f]; rfl
theorem bd_lines : ∀ (ls acc : List LV) (rest : List LV) (C : List CV) (nm : List UInt8) (K : List Nat), (∀ l ∈ ls, linB l = true) → bdG (ls ++ rest) (C ++ [⟨nm, acc, 0⟩]) (C.length :: K) = bdG rest (C ++ [⟨nm, acc ++ ls, 0⟩]) (C.length :: K)
  | [], acc, rest, C, nm, K, _ => by simp
  | l :: ls, acc, rest, C, nm, K, h => by
    have hl := h l (by simp)
    rw [linB, Bool.and_eq_true, Bool.and_eq_true] at hl
    have b1 : smN l.nm bgL = false := by simpa using hl.1
    have b2 : smN l.nm enL = false := by simpa using hl.2.1
    rw [List.cons_append, bd_cons, b1, b2, if_neg (by simp), if_neg (by decide)]
    simp only
    rw [if_neg (by decide), mod_last]
    show bdG (ls ++ rest) (C ++ [⟨nm, acc ++ [l], 0⟩]) _ = _
    rw [bd_lines ls (acc ++ [l]) rest C nm K (fun x hx => h x (by simp [hx]))]
    simp
/-- What has been read of a tree so far: those that are open have no own yet. -/
def Part (L : List CV) (i : Nat) (K : Stk) (C : List CV) : Prop := C.length = i ∧ ∀ (j : Nat) (hj : j < i) (hL : j < L.length), C[j]? = some (if K.any (fun x => x.1 == (j : Int)) = true then ⟨L[j].nm, L[j].ls, 0⟩ else L[j])
def kn (K : Stk) : List Nat := K.map (fun x => x.1.toNat)
theorem smN_refl (a : List UInt8) : smN a a = true := by rw [smN]; exact decide_eq_true ⟨rfl, rfl⟩
theorem bd_ends (L : List CV) (n i : Nat) (hn : L.length = n) (hi : i < n) : ∀ (PP K2 : Stk) (rest : List LV) (C : List CV), (∀ x ∈ PP, x.2 = (i : Int) + 1) → (∀ x ∈ PP ++ K2, ∃ a : Nat, ∃ h : a < L.length, x.1 = a ∧ a ≤ i ∧ x.2 = (a : Int) + 1 + L[a].own) → ((PP ++ K2).map Prod.fst).Nodup → Part L (i + 1) (PP ++ K2) C →
    ∃ C2, bdG (PP.map (enV L) ++ rest) C (kn (PP ++ K2)) = bdG rest C2 (kn K2) ∧ Part L (i + 1) K2 C2
  | [], K2, rest, C, _, _, _, hP => ⟨C, rfl, hP⟩
  | x :: PP, K2, rest, C, he, ha, hd, hP => by
    obtain ⟨a, haL, hx1, hai, hx2⟩ := ha x (by simp)
    have hex := he x (by simp)
    have hown : L[a].own = (i : Int) - a := by omega
    obtain ⟨hlen, hpart⟩ := hP
    have hCa := hpart a (by omega) haL
    have hin : ((x :: PP) ++ K2).any (fun y => y.1 == (a : Int)) = true := List.any_eq_true.2 ⟨x, by simp, by simp [hx1]⟩
    rw [hin, if_pos rfl] at hCa
    have haC : a < C.length := by omega
    have hnmC : nmAt C (a : Int) = L[a].nm := by
      rw [nmAt, Int.toNat_natCast, hCa]; rfl
    have hnmL : nmAt L x.1 = L[a].nm := by rw [hx1]; exact nmAt_k L a haL
    have hP2 : Part L (i + 1) (PP ++ K2) (C.modify a (setO ((C.length : Int) - 1 - a))) := by
      refine ⟨by rw [List.length_modify]; exact hlen, fun j hj hL => ?_⟩
      have hCj := hpart j hj hL
      rw [List.getElem?_modify]
      rw [hCj]
      have hnd : (x.1) ∉ (PP ++ K2).map Prod.fst := by
        rw [List.cons_append, List.map_cons, List.nodup_cons] at hd
        exact hd.1
      by_cases hja : j = a
      · subst hja
        have hnot : (PP ++ K2).any (fun y => y.1 == (j : Int)) = false := by
          rw [List.any_eq_false]
          intro y hy hyj
          exact hnd (List.mem_map.2 ⟨y, hy, by rw [hx1]; simpa using hyj⟩)
        rw [hnot, hin]
        simp only [if_pos]
        show some (setO ((C.length : Int) - 1 - j) ⟨L[j].nm, L[j].ls, 0⟩) = _
        rw [hlen]
        show some (⟨L[j].nm, L[j].ls, ((i + 1 : Nat) : Int) - 1 - j⟩ : CV) = some L[j]
        rw [show ((i + 1 : Nat) : Int) - 1 - (j : Int) = L[j].own by rw [hown]; omega]
      · have hsame : ((x :: PP) ++ K2).any (fun y => y.1 == (j : Int)) = (PP ++ K2).any (fun y => y.1 == (j : Int)) := by
          rw [List.cons_append, List.any_cons]
          have : (x.1 == (j : Int)) = false := beq_eq_false_iff_ne.2 (by rw [hx1]; omega)
          rw [this, Bool.false_or]
        rw [hsame]
        simp only [Option.map_eq_map, Option.map_some]
        rw [if_neg (fun e : a = j => hja e.symm)]
    obtain ⟨C2, hb, hp⟩ := bd_ends L n i hn hi PP K2 rest _ (fun y hy => he y (by simp [hy])) (fun y hy => ha y (by simp only [List.cons_append, List.mem_cons]; exact Or.inr hy)) (by
      rw [List.cons_append, List.map_cons, List.nodup_cons] at hd
      exact hd.2) hP2
    refine ⟨C2, ?_, hp⟩
    rw [List.map_cons, List.cons_append, bd_cons]
    have c1 : smN (enV L x).nm bgL = false := by show smN enL bgL = false; decide
    have c2 : smN (enV L x).nm enL = true := smN_refl _
    rw [c1, c2, if_neg (by show ¬ (_ ∧ ([] : List PV) ≠ []); simp), if_neg (by decide)]
    show (if true = true then (if smN (nmAt L x.1) (nmAt C (x.1.toNat : Int)) = true then bdG (PP.map (enV L) ++ rest) (C.modify x.1.toNat (setO ((C.length : Int) - 1 - (x.1.toNat : Int)))) (kn (PP ++ K2)) else none) else _) = _
    have ht : x.1.toNat = a := by rw [hx1]; simp
    rw [if_pos rfl, ht, hnmL, hnmC, smN_refl, if_pos rfl]
    exact hb
theorem tw_imp {α : Type} (p : α → Bool) : ∀ (K : List α) {x : α}, x ∈ K.takeWhile p → p x = true
  | y :: K, x, h => by
    rw [List.takeWhile_cons] at h
    split at h
    · rename_i hp
      rcases List.mem_cons.1 h with rfl | h
      · exact hp
      · exact tw_imp p K h
    · cases h
theorem drop_gt (m : Int) : ∀ (K : Stk), K.Pairwise (fun x y => x.2 ≤ y.2) → (∀ x ∈ K, m ≤ x.2) → ∀ x ∈ lvK K m, m < x.2
  | [], _, _, x, hx => by cases hx
  | y :: K, hs, hge, x, hx => by
    rw [List.pairwise_cons] at hs
    rw [lv_cons] at hx
    split at hx
    · exact drop_gt m K hs.2 (fun z hz => hge z (by simp [hz])) x hx
    · rename_i hne
      have hy := hge y (by simp)
      rcases List.mem_cons.1 hx with rfl | hx
      · omega
      · have := hs.1 x hx; omega
theorem drop_mem (m : Int) : ∀ (K : Stk) (x : Int × Int), x ∈ K → x.2 ≠ m → x ∈ lvK K m
  | y :: K, x, hx, hne => by
    rw [lv_cons]
    split
    · rename_i h
      rcases List.mem_cons.1 hx with rfl | hx
      · exact absurd h hne
      · exact drop_mem m K x hx hne
    · exact hx
/-- What holds ahead of each component. -/
def TrI (L : List CV) (n i : Nat) (K : Stk) : Prop := (∃ Kc, lvK Kc i = K ∧ chkG i Kc (L.drop i) = true) ∧ (∀ x ∈ K, ∃ a : Nat, ∃ h : a < L.length, x.1 = a ∧ a < i ∧ x.2 = (a : Int) + 1 + L[a].own) ∧ (K.map Prod.fst).Nodup ∧ K.Pairwise (fun x y => x.2 ≤ y.2) ∧ (∀ x ∈ K, (i : Int) < x.2 ∧ x.2 ≤ n) ∧ (i = 0 → K = []) ∧ (0 < i → i < n → ∃ x ∈ K, x.2 = n)
theorem bd_tree (L : List CV) (n : Nat) (hn : L.length = n) (h0 : ∀ h : 0 < L.length, L[0].own = (n : Int) - 1) : ∀ (m i : Nat) (K : Stk) (C : List CV), n - i = m → i ≤ n → TrI L n i K → Part L i K C → bdG (wlG L i K (L.drop i)) C (kn K) = some L
  | 0, i, K, C, hm, hi, hI, hP => by
    obtain rfl : i = n := by omega
    have hK : K = [] := by
      cases K with
      | nil => rfl
      | cons x K =>
        have := hI.2.2.2.2.1 x (by simp)
        omega
    subst hK
    rw [List.drop_of_length_le (by omega), wlG, bdG]
    show (if ([] : List Nat) = [] then some C else none) = some L
    rw [if_pos rfl]
    congr 1
    refine List.ext_getElem? (fun j => ?_)
    by_cases hj : j < L.length
    · rw [hP.2 j (by omega) hj, List.getElem?_eq_getElem hj]
      simp
    · rw [List.getElem?_eq_none (by have := hP.1; omega), List.getElem?_eq_none (by omega)]
  | m + 1, i, K, C, hm, hi, hI, hP => by
    have hin : i < n := by omega
    have hiL : i < L.length := by omega
    obtain ⟨⟨Kc, hKc, hchk⟩, hent, hnd, hsort, hend, hz, hbot⟩ := hI
    rw [chk_drop hiL, Bool.and_eq_true, hKc] at hchk
    obtain ⟨hst, hnx⟩ := hchk
    rw [stpB, hKc, Bool.and_eq_true, Bool.and_eq_true, Bool.and_eq_true] at hst
    obtain ⟨s1, s2, _, s4⟩ := hst
    have ho : 0 ≤ L[i].own := of_decide_eq_true s1
    rw [cmpB, Bool.and_eq_true] at s4
    have hlin : ∀ l ∈ L[i].ls, linB l = true := fun l hl => List.all_eq_true.1 s4.2 l hl
    -- its end
    have hle : ∀ x ∈ K, (i : Int) + 1 + L[i].own ≤ x.2 := by
      intro x hx
      by_cases hi0 : i = 0
      · rw [hz hi0] at hx; cases hx
      · rw [Bool.or_eq_true] at s2
        have s3 : L[i].own ≤ topE K - i - 1 := by
          rcases s2 with q | q
          · have := of_decide_eq_true q; omega
          · exact of_decide_eq_true q
        cases K with
        | nil => cases hx
        | cons y K =>
          rw [List.pairwise_cons] at hsort
          have e1 : topE (y :: K) = y.2 := rfl
          rw [e1] at s3
          rcases List.mem_cons.1 hx with rfl | hx
          · omega
          · have := hsort.1 x hx; omega
    have hien : (i : Int) + 1 + L[i].own ≤ n := by
      by_cases hi0 : i = 0
      · subst hi0
        have := h0 hiL
        omega
      · obtain ⟨x, hx, hx2⟩ := hbot (by omega) hin
        have := hle x hx
        omega
    obtain ⟨K1, hK1⟩ : ∃ x, ((i : Int), (i : Int) + 1 + L[i].own) :: K = x := ⟨_, rfl⟩
    have k1ent : ∀ x ∈ K1, ∃ a : Nat, ∃ h : a < L.length, x.1 = a ∧ a ≤ i ∧ x.2 = (a : Int) + 1 + L[a].own := by
      intro x hx
      rw [← hK1] at hx
      rcases List.mem_cons.1 hx with rfl | hx
      · exact ⟨i, hiL, rfl, Nat.le_refl _, rfl⟩
      · obtain ⟨a, h, q1, q2, q3⟩ := hent x hx
        exact ⟨a, h, q1, by omega, q3⟩
    have k1nd : (K1.map Prod.fst).Nodup := by
      rw [← hK1, List.map_cons, List.nodup_cons]
      refine ⟨fun h => ?_, hnd⟩
      obtain ⟨x, hx, hxi⟩ := List.mem_map.1 h
      obtain ⟨a, _, q1, q2, _⟩ := hent x hx
      have : x.1 = (i : Int) := hxi
      omega
    have k1s : K1.Pairwise (fun x y => x.2 ≤ y.2) := by
      rw [← hK1, List.pairwise_cons]
      exact ⟨fun x hx => hle x hx, hsort⟩
    have k1ge : ∀ x ∈ K1, (i : Int) + 1 ≤ x.2 ∧ x.2 ≤ n := by
      intro x hx
      rw [← hK1] at hx
      rcases List.mem_cons.1 hx with rfl | hx
      · exact ⟨by show (i : Int) + 1 ≤ (i : Int) + 1 + L[i].own; omega, hien⟩
      · have := hend x hx
        exact ⟨by omega, this.2⟩
    -- its lines are read
    have hlenC := hP.1
    rw [List.drop_eq_getElem_cons hiL, wlG, wl1, List.cons_append, List.append_assoc, hK1, bd_cons]
    have c1 : smN bgL bgL = true := smN_refl _
    have hguard : ¬ (kn K = [] ∧ C ≠ []) := by
      rintro ⟨q1, q2⟩
      by_cases hi0 : i = 0
      · exact q2 (List.eq_nil_of_length_eq_zero (by omega))
      · obtain ⟨x, hx, _⟩ := hbot (by omega) hin
        have hKn : K = [] := by simpa [kn] using q1
        rw [hKn] at hx; cases hx
    simp only [c1, Bool.true_or, ne_eq, not_true_eq_false, and_false, if_false, if_true]
    rw [if_neg hguard]
    rw [bd_lines L[i].ls [] _ C L[i].nm (kn K) hlin, List.nil_append]
    have hkn : C.length :: kn K = kn K1 := by
      rw [← hK1, kn, kn, List.map_cons, hlenC]; simp
    rw [hkn]
    have hsplit : K1.takeWhile (fun x => decide (x.2 = (i : Int) + 1)) ++ lvK K1 ((i : Int) + 1) = K1 := List.takeWhile_append_dropWhile
    have hP1 : Part L (i + 1) K1 (C ++ [⟨L[i].nm, L[i].ls, 0⟩]) := by
      refine ⟨by simp [hlenC], fun j hj hL => ?_⟩
      by_cases hji : j < i
      · rw [List.getElem?_append_left (by omega), hP.2 j hji hL]
        have : K1.any (fun x => x.1 == (j : Int)) = K.any (fun x => x.1 == (j : Int)) := by
          rw [← hK1, List.any_cons]
          have : (((i : Int) == (j : Int))) = false := beq_eq_false_iff_ne.2 (by omega)
          simp only [this, Bool.false_or]
        rw [this]
      · obtain rfl : j = i := by omega
        rw [List.getElem?_append_right (by omega), hlenC, Nat.sub_self]
        have : K1.any (fun x => x.1 == (j : Int)) = true := by
          rw [← hK1, List.any_cons]; simp
        rw [this, if_pos rfl]
        rfl
    obtain ⟨PP, hPP⟩ : ∃ x, K1.takeWhile (fun x => decide (x.2 = (i : Int) + 1)) = x := ⟨_, rfl⟩
    have hPPe : ∀ x ∈ PP, x.2 = (i : Int) + 1 := by
      rw [← hPP]
      intro x hx
      exact of_decide_eq_true (tw_imp _ K1 hx)
    rw [hPP] at hsplit ⊢
    rw [← hsplit] at k1ent k1nd hP1
    obtain ⟨C2, hb2, hp2⟩ := bd_ends L n i hn hin PP (lvK K1 ((i : Int) + 1)) (wlG L ((i : Int) + 1) (lvK K1 ((i : Int) + 1)) (L.drop (i + 1))) _ hPPe k1ent k1nd hP1
    rw [hsplit] at hb2
    rw [hb2]
    have e1 : ((i : Int) + 1) = ((i + 1 : Nat) : Int) := by omega
    have hsub : (lvK K1 ((i : Int) + 1)).Sublist K1 := List.dropWhile_sublist _
    rw [hsplit] at k1nd k1ent
    have hgt := drop_gt ((i : Int) + 1) K1 k1s (fun x hx => (k1ge x hx).1)
    have hI2 : TrI L n (i + 1) (lvK K1 ((i : Int) + 1)) := by
      refine ⟨⟨K1, by rw [e1], by rw [← hK1]; exact hnx⟩, fun x hx => ?_, ?_, k1s.sublist hsub, fun x hx => ?_, fun h => by omega, fun _ h2 => ?_⟩
      · obtain ⟨a, h, q1, q2, q3⟩ := k1ent x (hsub.subset hx)
        exact ⟨a, h, q1, by omega, q3⟩
      · exact k1nd.sublist (hsub.map _)
      · have := hgt x hx
        exact ⟨by rw [← e1]; exact this, (k1ge x (hsub.subset hx)).2⟩
      · by_cases hi0 : i = 0
        · subst hi0
          have hw := h0 hiL
          exact ⟨_, drop_mem _ K1 ((0 : Nat), ((0 : Nat) : Int) + 1 + L[0].own) (by rw [← hK1]; simp) (by show ((0 : Nat) : Int) + 1 + L[0].own ≠ _; omega), by show ((0 : Nat) : Int) + 1 + L[0].own = n; omega⟩
        · obtain ⟨x, hx, hx2⟩ := hbot (by omega) hin
          exact ⟨x, drop_mem _ K1 x (by rw [← hK1]; simp [hx]) (fun e => Nat.ne_of_gt h2 (Int.ofNat_inj.1 ((hx2.symm.trans e).trans e1))), hx2⟩
    have ih := bd_tree L n hn h0 m (i + 1) _ C2 (by rw [Nat.sub_add_eq, hm]; rfl) hin hI2 hp2
    rw [← e1] at ih
    exact ih
/-- What is written is read. -/
theorem tree_back {L : List CV} {T : List UInt8} (h : txT L = (T, 0)) : pTr T = (L, 0) := by
  obtain ⟨hc, hp⟩ := txT_lines h
  have hb : bdG (wlG L 0 [] L) [] [] = some L := by
    cases L with
    | nil => cases hc
    | cons c cs =>
      rw [chkB, Bool.and_eq_true] at hc
      have h1 := of_decide_eq_true hc.1
      have := bd_tree (c :: cs) _ rfl (fun _ => by show c.own = _; rw [h1]; simp) _ 0 [] [] rfl (Nat.zero_le _) ⟨⟨[], rfl, hc.2⟩, by simp, by simp, List.Pairwise.nil, by simp, fun _ => rfl, fun h => by omega⟩ ⟨rfl, fun j hj => by omega⟩
      exact this
  rw [hp, bdR, hb]
  simp only
  rw [hc, if_pos rfl]
end Tre
end Go.Proofs.Ytdakpncfophjnaa
