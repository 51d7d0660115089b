/-
  Several texts in one (LinK, TrN, TrG).
-/
import Derived.Test.YtdakpncfophjnaaLinM
import Derived.Test.YtdakpncfophjnaaTrU
import Derived.Test.YtdakpncfophjnaaBdAE
import Derived.Test.YtdakpncfophjnaaTrR
import Derived.Test.YtdakpncfophjnaaBdW
import Derived.Test.YtdakpncfophjnaaTrK
/-
  Package line, plain words: what is written is read.
-/
namespace Go.Proofs.Ytdakpncfophjnaa
namespace Lin
/-! ### What stands ahead of a sign -/
theorem hd_tl_app {C N R : List UInt8} (hN : N.all (fun b => !C.contains b) = true) (hR : ∃ c U, R = c :: U ∧ C.contains c = true) : hdT C (N ++ R) = N ∧ tlT C (N ++ R) = R := by
  obtain ⟨c, U, rfl, hc⟩ := hR
  have h : ∀ a ∈ N, (!C.contains a) = true := fun a ha => List.all_eq_true.1 hN a ha
  constructor
  · rw [hdT, List.takeWhile_append_of_pos h, List.takeWhile_cons, if_neg (by rw [hc]; decide), List.append_nil]
  · rw [tlT, List.dropWhile_append_of_pos h, List.dropWhile_cons, if_neg (by rw [hc]; decide)]
theorem nm_ok (c : UInt8) (hc : Fm.okB [45] c = true) : ([58, 59, 61, 34, 44] : List UInt8).contains c = false := by
  have h : ∀ k < 256, Fm.okB [45] (UInt8.ofNat k) = true → ([58, 59, 61, 34, 44] : List UInt8).contains (UInt8.ofNat k) = false := by decide +kernel
  have := h c.toNat c.toNat_lt
  rw [UInt8.ofNat_toNat] at this
  exact this hc
theorem nm_all {N C : List UInt8} (hN : nmB N = true) (hC : ∀ c ∈ C, c ∈ ([58, 59, 61, 34, 44] : List UInt8)) : N.all (fun b => !C.contains b) = true := by
  rw [nmB, Bool.and_eq_true] at hN
  rw [List.all_eq_true]
  intro b hb
  have h1 := nm_ok b (List.all_eq_true.1 hN.2 b hb)
  cases h : C.contains b with
  | false => rfl
  | true =>
    have h2 := hC b (by simpa using h)
    have h3 : ([58, 59, 61, 34, 44] : List UInt8).contains b = true := by simpa using h2
    rw [h1] at h3; cases h3
/-! ### A value that is written in some way -/
def Wv (W v : List UInt8) : Prop := ∀ c U, ([58, 59, 44] : List UInt8).contains c = true → rvL (W ++ c :: U) = some (v, c :: U)
theorem val34 {v : List UInt8} (hv : valB v = true) : v.all (fun b => !([34] : List UInt8).contains b) = true := by
  rw [valB, Bool.and_eq_true] at hv
  rw [List.all_eq_true]
  intro b hb
  by_cases h : b = 34
  · subst h
    have h2 := hv.2
    have : v.contains 34 = true := by simpa using hb
    rw [this] at h2; cases h2
  · simpa using h
theorem wv_quote {v : List UInt8} (hv : valB v = true) : Wv (34 :: (v ++ [34])) v := by
  intro c U hc
  have e : (34 :: (v ++ [34])) ++ c :: U = 34 :: (v ++ (34 :: c :: U)) := by simp
  obtain ⟨h1, h2⟩ := hd_tl_app (C := [34]) (R := 34 :: c :: U) (val34 hv) ⟨34, _, rfl, by decide⟩
  rw [e, rvL, if_pos rfl, h1, h2, if_neg (by simp)]
  rfl
theorem wv_bare {v : List UInt8} (hv : valB v = true) (hq : qtB v = false) : Wv v v := by
  intro c U hc
  have ha : v.all (fun b => !([58, 59, 44] : List UInt8).contains b) = true := by
    rw [List.all_eq_true]
    intro b hb
    have := List.any_eq_false.1 hq b hb
    simpa using this
  obtain ⟨h1, h2⟩ := hd_tl_app (C := [58, 59, 44]) (R := c :: U) ha ⟨c, U, rfl, hc⟩
  have hn : tlT [58, 59, 44] (v ++ c :: U) ≠ [] := by rw [h2]; simp
  cases hvv : v with
  | nil =>
    subst hvv
    have hc34 : c ≠ 34 := by rintro rfl; exact absurd hc (by decide)
    rw [List.nil_append] at h1 h2 hn ⊢
    rw [rvL, if_neg hc34, if_neg hn, h1, h2]
  | cons d T =>
    have hd : d ≠ 34 := by
      intro q
      have := List.all_eq_true.1 (val34 hv) d (by rw [hvv]; simp)
      rw [q] at this; exact absurd this (by decide)
    rw [hvv] at h1 h2 hn
    rw [List.cons_append] at h1 h2 hn ⊢
    rw [rvL, if_neg hd, if_neg hn, h1, h2]
theorem wv_val {v : List UInt8} (hv : valB v = true) : Wv (valT v) v := by
  cases hq : qtB v with
  | true => rw [valT, if_pos hq]; exact wv_quote hv
  | false => rw [valT, if_neg (by rw [hq]; decide)]; exact wv_bare hv hq
/-! ### Values, parameters -/
def WV : List (List UInt8) → List (List UInt8) → Prop
  | [], [] => True
  | w :: ws, v :: vs => Wv w v ∧ WV ws vs
  | _, _ => False
def vsW : UInt8 → List (List UInt8) → List UInt8
  | _, [] => []
  | m, w :: ws => m :: (w ++ vsW 44 ws)
theorem vs_w : ∀ (m : UInt8) (vs : List (List UInt8)), vsT m vs = vsW m (vs.map valT)
  | _, [] => rfl
  | m, v :: vs => by rw [vsT, List.map_cons, vsW, vs_w 44 vs]
theorem wv_map : ∀ (vs : List (List UInt8)), vs.all valB = true → WV (vs.map valT) vs
  | [], _ => trivial
  | v :: vs, h => by
    rw [List.all_cons, Bool.and_eq_true] at h
    exact ⟨wv_val h.1, wv_map vs h.2⟩
theorem vsw_len : ∀ (m : UInt8) (ws : List (List UInt8)), ws.length ≤ (vsW m ws).length
  | _, [] => Nat.le_refl _
  | m, w :: ws => by
    have := vsw_len 44 ws
    rw [vsW]
    simp only [List.length_cons, List.length_append]
    omega
theorem wv_len : ∀ (ws vs : List (List UInt8)), WV ws vs → ws.length = vs.length
  | [], [], _ => rfl
  | _ :: ws, _ :: vs, h => by simp only [List.length_cons]; rw [wv_len ws vs h.2]
  | [], _ :: _, h => h.elim
  | _ :: _, [], h => h.elim
theorem rvG_go : ∀ (ws vs : List (List UInt8)) (w v : List UInt8) (f : Nat) (acc : List (List UInt8)) (c : UInt8) (U : List UInt8), Wv w v → WV ws vs → ws.length < f → ([58, 59] : List UInt8).contains c = true → rvG f (w ++ (vsW 44 ws ++ c :: U)) acc = some (acc ++ v :: vs, c :: U)
  | [], [], w, v, f, acc, c, U, hw, _, hf, hc => by
    obtain ⟨f, rfl⟩ : ∃ k, f = k + 1 := ⟨f - 1, by omega⟩
    have hc2 : ([58, 59, 44] : List UInt8).contains c = true := by
      simp at hc ⊢
      rcases hc with h | h
      · exact Or.inl h
      · exact Or.inr (Or.inl h)
    have h44 : c ≠ 44 := by rintro rfl; exact absurd hc (by decide)
    rw [vsW, List.nil_append, rvG, hw c U hc2]
    simp only [if_neg h44]
  | w2 :: ws, v2 :: vs, w, v, f, acc, c, U, hw, hW, hf, hc => by
    obtain ⟨f, rfl⟩ : ∃ k, f = k + 1 := ⟨f - 1, by omega⟩
    simp only [List.length_cons] at hf
    have e : vsW 44 (w2 :: ws) ++ c :: U = 44 :: (w2 ++ (vsW 44 ws ++ c :: U)) := by rw [vsW]; simp
    rw [e, rvG, hw 44 _ (by decide)]
    simp only [if_true]
    rw [rvG_go ws vs w2 v2 f (acc ++ [v]) c U hW.1 hW.2 (by omega) hc]
    simp
/-- A parameter's text, its values written in some way. -/
def parW (nm : List UInt8) (ws : List (List UInt8)) : List UInt8 := 59 :: (nm ++ vsW 61 ws)
theorem rpL_go (nm : List UInt8) (ws vs : List (List UInt8)) (c : UInt8) (U : List UInt8) (hn : nmB nm = true) (h0 : 0 < vs.length) (hW : WV ws vs) (hc : ([58, 59] : List UInt8).contains c = true) : rpL (nm ++ vsW 61 ws ++ c :: U) = some (⟨nm, vs⟩, c :: U) := by
  match ws, vs, h0, hW with
  | [], v :: vs, _, hW => exact hW.elim
  | w :: ws, v :: vs, _, hW =>
    have e : nm ++ vsW 61 (w :: ws) ++ c :: U = nm ++ 61 :: (w ++ (vsW 44 ws ++ c :: U)) := by rw [vsW]; simp
    obtain ⟨h1, h2⟩ := hd_tl_app (C := [61]) (R := 61 :: (w ++ (vsW 44 ws ++ c :: U))) (nm_all hn (by simp)) ⟨61, _, rfl, by decide⟩
    have hl : ws.length < (nm ++ 61 :: (w ++ (vsW 44 ws ++ c :: U))).length + 1 := by
      have := vsw_len 44 ws
      simp only [List.length_append, List.length_cons]
      omega
    rw [e, rpL, h1, h2, if_neg (by simp), List.tail_cons, rvG_go ws vs w v _ [] c U hW.1 hW.2 hl hc]
    rfl
/-- Parameters with their written values. -/
def psW : List (PV × List (List UInt8)) → List UInt8
  | [] => []
  | q :: qs => parW q.1.nm q.2 ++ psW qs
def okQ (q : PV × List (List UInt8)) : Prop := nmB q.1.nm = true ∧ 0 < q.1.vs.length ∧ WV q.2 q.1.vs
theorem psw_len : ∀ (qs : List (PV × List (List UInt8))), qs.length ≤ (psW qs).length
  | [] => Nat.le_refl _
  | q :: qs => by
    have := psw_len qs
    rw [psW, parW]
    simp only [List.length_cons, List.length_append]
    omega
theorem psw_fst (qs : List (PV × List (List UInt8))) (vl : List UInt8) : ∃ c U, psW qs ++ 58 :: vl = c :: U ∧ ([58, 59] : List UInt8).contains c = true := by
  cases qs with
  | nil => exact ⟨58, vl, rfl, by decide⟩
  | cons q qs => exact ⟨59, _, by rw [psW, parW]; rfl, by decide⟩
theorem pgL_go : ∀ (qs : List (PV × List (List UInt8))) (f : Nat) (acc : List PV) (vl : List UInt8), (∀ q ∈ qs, okQ q) → qs.length < f → pgL f (psW qs ++ 58 :: vl) acc = some (acc ++ qs.map (·.1), 58 :: vl)
  | [], f, acc, vl, _, hf => by
    obtain ⟨f, rfl⟩ : ∃ k, f = k + 1 := ⟨f - 1, by omega⟩
    rw [psW, List.nil_append, pgL, if_neg (by decide)]
    simp
  | q :: qs, f, acc, vl, h, hf => by
    obtain ⟨f, rfl⟩ : ∃ k, f = k + 1 := ⟨f - 1, by omega⟩
    simp only [List.length_cons] at hf
    obtain ⟨c, U, e, hc⟩ := psw_fst qs vl
    have hq := h q (by simp)
    have e2 : psW (q :: qs) ++ 58 :: vl = 59 :: (q.1.nm ++ vsW 61 q.2 ++ c :: U) := by
      rw [psW, parW, ← e]; simp
    rw [e2, pgL, if_pos rfl, rpL_go q.1.nm q.2 q.1.vs c U hq.1 hq.2.1 hq.2.2 hc]
    show pgL f (c :: U) (acc ++ [⟨q.1.nm, q.1.vs⟩]) = _
    rw [← e, pgL_go qs f _ vl (fun x hx => h x (by simp [hx])) (by omega)]
    simp
theorem lnX_go (nm vl : List UInt8) (qs : List (PV × List (List UInt8))) (hq : ∀ q ∈ qs, okQ q) (hb : lnB ⟨nm, qs.map (·.1), vl⟩ = true) : lnP (nm ++ (psW qs ++ 58 :: vl)) = (0, ⟨nm, qs.map (·.1), vl⟩) := by
  have hn : nmB nm = true := by rw [lnB, Bool.and_eq_true] at hb; exact hb.1
  obtain ⟨c, U, e, hc⟩ := psw_fst qs vl
  obtain ⟨h1, h2⟩ := hd_tl_app (C := [58, 59]) (R := psW qs ++ 58 :: vl) (nm_all hn (by simp)) ⟨c, U, e, by
    simp at hc ⊢; exact hc⟩
  have hl : qs.length < (nm ++ (psW qs ++ 58 :: vl)).length + 1 := by
    have := psw_len qs
    simp only [List.length_append, List.length_cons]
    omega
  rw [lnP, lnX, h2, if_neg (by rw [e]; simp), pgL_go qs _ [] vl hq hl, h1]
  show (match (if (58 : UInt8) = 58 ∧ lnB ⟨nm, [] ++ qs.map (·.1), vl⟩ = true then some (⟨nm, [] ++ qs.map (·.1), vl⟩ : LV) else none) with
    | none => ((18 : Int), LV.zero)
    | some l => (0, l)) = _
  rw [List.nil_append, if_pos ⟨rfl, hb⟩]
theorem ps_w : ∀ (ps : List PV), psT ps = psW (ps.map (fun p => (p, p.vs.map valT)))
  | [] => rfl
  | p :: ps => by rw [psT, List.map_cons, psW, ps_w ps, parT, parW, vs_w]
theorem par_okQ (p : PV) (h : parB p = true) : okQ (p, p.vs.map valT) := by
  rw [parB, Bool.and_eq_true, Bool.and_eq_true] at h
  exact ⟨h.1, of_decide_eq_true h.2.1, wv_map _ h.2.2⟩
/-- What is written is read. -/
theorem ln_back (l : LV) (hb : lnB l = true) : lnP (lineF l) = (0, l) := by
  obtain ⟨nm, ps, vl⟩ := l
  have e : (ps.map (fun p => (p, p.vs.map valT))).map (·.1) = ps := by
    rw [List.map_map]
    exact List.map_id _
  have hp : ps.all parB = true := by rw [lnB, Bool.and_eq_true, Bool.and_eq_true] at hb; exact hb.2.2
  have := lnX_go nm vl (ps.map (fun p => (p, p.vs.map valT))) (by
    intro q hq
    obtain ⟨p, hp2, rfl⟩ := List.mem_map.1 hq
    exact par_okQ p (List.all_eq_true.1 hp p hp2)) (by rw [e]; exact hb)
  rw [e, ← ps_w] at this
  exact this
theorem ln_inj {a b : LV} (ha : lnB a = true) (hb : lnB b = true) (h : lineF a = lineF b) : a = b := by
  have h1 := ln_back a ha
  rw [h, ln_back b hb] at h1
  injection h1 with _ h1
  exact h1.symm
end Lin
end Go.Proofs.Ytdakpncfophjnaa
/-
  Package tree, plain words: what is written is read.
-/
namespace Go.Proofs.Ytdakpncfophjnaa
open Go.RowKit
namespace Tre
open Lin CutB Cel Ap
open Opn (TxtV)
def enV (L : List CV) (x : Int × Int) : LV := ⟨enL, [], nmAt L x.1⟩
def wl1 (L : List CV) (i : Int) (K : Stk) (c : CV) : List LV := ⟨bgL, [], c.nm⟩ :: (c.ls ++ (((i, i + 1 + c.own) :: K).takeWhile (fun x => decide (x.2 = i + 1))).map (enV L))
def wlG (L : List CV) : Int → Stk → List CV → List LV
  | _, _, [] => []
  | i, K, c :: cs => wl1 L i K c ++ wlG L (i + 1) (lvK ((i, i + 1 + c.own) :: K) (i + 1)) cs
def fl (l : LV) : List UInt8 := Fld.foldL (lineF l)
theorem putW_ok {s : WS} {l : LV} (h : (putW s l).2 = 0) : s.2 = 0 ∧ lnB l = true ∧ (putW s l).1 = s.1 ++ fl l := by
  rw [putW] at h ⊢
  split at h
  · rename_i hs; exact absurd h hs
  · rename_i hs
    rw [if_neg hs]
    split at h
    · exact absurd h (by simp)
    · rename_i h2
      rw [if_neg h2]
      split at h
      · exact absurd h (by simp)
      · rename_i h3
        rw [if_neg h3]
        split at h
        · exact absurd h (by simp)
        · rename_i h4
          rw [if_neg h4]
          exact ⟨by simpa using hs, by simpa using h2, rfl⟩
theorem putL_ok : ∀ (ls : List LV) (s : WS), (ls.foldl putW s).2 = 0 → s.2 = 0 ∧ (∀ l ∈ ls, lnB l = true) ∧ (ls.foldl putW s).1 = s.1 ++ (ls.map fl).flatten
  | [], s, h => ⟨h, by simp, by simp⟩
  | l :: ls, s, h => by
    rw [List.foldl_cons] at h ⊢
    obtain ⟨h1, h2, h3⟩ := putL_ok ls _ h
    obtain ⟨g1, g2, g3⟩ := putW_ok h1
    refine ⟨g1, fun x hx => ?_, ?_⟩
    · rcases List.mem_cons.1 hx with rfl | hx
      · exact g2
      · exact h2 x hx
    · rw [h3, g3]; simp
theorem cmpW_fold (L : List CV) (i : Int) (K : Stk) (s : WS) (c : CV) : cmpW L i K s c = (wl1 L i K c).foldl putW s := by
  rw [cmpW, wl1, List.foldl_cons, List.foldl_append, List.foldl_map]
  rfl
theorem txG_ok (L : List CV) : ∀ (cs : List CV) (i : Int) (K : Stk) (s : WS) (T : List UInt8), txG L i K s cs = (T, 0) → s.2 = 0 ∧ (∀ l ∈ wlG L i K cs, lnB l = true) ∧ T = s.1 ++ ((wlG L i K cs).map fl).flatten
  | [], i, K, s, T, h => by
    rw [txG] at h
    rw [h]
    exact ⟨rfl, by simp [wlG], by simp [wlG]⟩
  | c :: cs, i, K, s, T, h => by
    rw [txG] at h
    split at h
    · rename_i hne
      exact absurd (congrArg Prod.snd h) hne
    · obtain ⟨h1, h2, h3⟩ := txG_ok L cs _ _ _ T h
      rw [cmpW_fold] at h1 h3
      obtain ⟨g1, g2, g3⟩ := putL_ok _ _ h1
      refine ⟨g1, fun x hx => ?_, ?_⟩
      · rw [wlG] at hx
        rcases List.mem_append.1 hx with hx | hx
        · exact g2 x hx
        · exact h2 x hx
      · rw [h3, g3, wlG]; simp
theorem line_head {l : LV} (h : lnB l = true) : 0 < (lineF l).length ∧ Fld.blank (lineF l).head? = false := by
  have hn := h
  rw [lnB, Bool.and_eq_true] at hn
  have h1 := hn.1
  rw [nmB, Bool.and_eq_true] at h1
  have h2 := of_decide_eq_true h1.1
  rw [lineF]
  cases hnm : l.nm with
  | nil => rw [hnm] at h2; simp at h2
  | cons c N =>
    refine ⟨by simp, ?_⟩
    have h3 := h1.2
    rw [hnm] at h3
    have h4 := List.all_eq_true.1 h3 c (by simp)
    show (some c == some 32 || some c == some 9) = false
    have a1 : c ≠ 32 := by rintro rfl; revert h4; decide
    have a2 : c ≠ 9 := by rintro rfl; revert h4; decide
    simp [a1, a2]
theorem lnX_back {l : LV} (h : lnB l = true) : lnX (lineF l) = some l := by
  have h1 := ln_back l h
  rw [lnP] at h1
  cases hx : lnX (lineF l) with
  | none => rw [hx] at h1; injection h1 with h1 _; exact absurd h1 (by decide)
  | some m => rw [hx] at h1; injection h1 with _ h1; rw [h1]
theorem lns_back : ∀ (ls acc : List LV), (∀ l ∈ ls, lnB l = true) → lnsG (ls.map lineF) acc = some (acc ++ ls)
  | [], acc, _ => by simp [lnsG]
  | l :: ls, acc, h => by
    rw [List.map_cons, lnsG, lnX_back (h l (by simp))]
    simp only
    rw [lns_back ls _ (fun x hx => h x (by simp [hx]))]
    simp
theorem txT_lines {L : List CV} {T : List UInt8} (h : txT L = (T, 0)) : chkB L = true ∧ pTr T = bdR (wlG L 0 [] L) := by
  rw [txT] at h
  split at h
  · rename_i hc
    obtain ⟨_, h2, h3⟩ := txG_ok L L 0 [] ([], 0) T h
    refine ⟨hc, ?_⟩
    have hcat : T = Fld.cat ((wlG L 0 [] L).map lineF) := by
      rw [h3, Fld.cat, List.flatMap_map, List.flatMap_def]; simp only [List.nil_append]; rfl
    obtain ⟨u1, u2⟩ := Fld.unf_cat ((wlG L 0 [] L).map lineF) (fun S hS => by
      obtain ⟨l, hl, rfl⟩ := List.mem_map.1 hS
      have hb := h2 l hl
      exact ⟨hit_ln hb, (line_head hb).1, (line_head hb).2⟩)
    rw [pTr, hcat, u2, if_pos rfl, u1, lns_back _ [] h2]
    simp
  · injection h with _ h
    exact absurd h (by decide)
/-! ### Lines put together -/
theorem mod_last : ∀ (C : List CV) (x : CV) (f : CV → CV), (C ++ [x]).modify C.length f = C ++ [f x]
  | [], _, _ => rfl
  | c :: C, x, f => by
    show (c :: (C ++ [x])).modify (C.length + 1) f = _
    rw [List.modify_succ_cons, mod_last C x f]; rfl
theorem bd_lines : ∀ (ls acc : List LV) (rest : List LV) (C : List CV) (nm : List UInt8) (K : List Nat), (∀ l ∈ ls, linB l = true) → bdG (ls ++ rest) (C ++ [⟨nm, acc, 0⟩]) (C.length :: K) = bdG rest (C ++ [⟨nm, acc ++ ls, 0⟩]) (C.length :: K)
  | [], acc, rest, C, nm, K, _ => by simp
  | l :: ls, acc, rest, C, nm, K, h => by
    have hl := h l (by simp)
    rw [linB, Bool.and_eq_true, Bool.and_eq_true] at hl
    have b1 : smN l.nm bgL = false := by simpa using hl.1
    have b2 : smN l.nm enL = false := by simpa using hl.2.1
    rw [List.cons_append, bd_cons, b1, b2, if_neg (by simp), if_neg (by decide)]
    simp only
    rw [if_neg (by decide), mod_last]
    show bdG (ls ++ rest) (C ++ [⟨nm, acc ++ [l], 0⟩]) _ = _
    rw [bd_lines ls (acc ++ [l]) rest C nm K (fun x hx => h x (by simp [hx]))]
    simp
/-- What has been read of a tree so far: those that are open have no own yet. -/
def Part (L : List CV) (i : Nat) (K : Stk) (C : List CV) : Prop := C.length = i ∧ ∀ (j : Nat) (hj : j < i) (hL : j < L.length), C[j]? = some (if K.any (fun x => x.1 == (j : Int)) = true then ⟨L[j].nm, L[j].ls, 0⟩ else L[j])
def kn (K : Stk) : List Nat := K.map (fun x => x.1.toNat)
theorem smN_refl (a : List UInt8) : smN a a = true := by rw [smN]; exact decide_eq_true ⟨rfl, rfl⟩
theorem bd_ends (L : List CV) (n i : Nat) (hn : L.length = n) (hi : i < n) : ∀ (PP K2 : Stk) (rest : List LV) (C : List CV), (∀ x ∈ PP, x.2 = (i : Int) + 1) → (∀ x ∈ PP ++ K2, ∃ a : Nat, ∃ h : a < L.length, x.1 = a ∧ a ≤ i ∧ x.2 = (a : Int) + 1 + L[a].own) → ((PP ++ K2).map Prod.fst).Nodup → Part L (i + 1) (PP ++ K2) C →
    ∃ C2, bdG (PP.map (enV L) ++ rest) C (kn (PP ++ K2)) = bdG rest C2 (kn K2) ∧ Part L (i + 1) K2 C2
  | [], K2, rest, C, _, _, _, hP => ⟨C, rfl, hP⟩
  | x :: PP, K2, rest, C, he, ha, hd, hP => by
    obtain ⟨a, haL, hx1, hai, hx2⟩ := ha x (by simp)
    have hex := he x (by simp)
    have hown : L[a].own = (i : Int) - a := by omega
    obtain ⟨hlen, hpart⟩ := hP
    have hCa := hpart a (by omega) haL
    have hin : ((x :: PP) ++ K2).any (fun y => y.1 == (a : Int)) = true := List.any_eq_true.2 ⟨x, by simp, by simp [hx1]⟩
    rw [hin, if_pos rfl] at hCa
    have haC : a < C.length := by omega
    have hnmC : nmAt C (a : Int) = L[a].nm := by
      rw [nmAt, Int.toNat_natCast, hCa]; rfl
    have hnmL : nmAt L x.1 = L[a].nm := by rw [hx1]; exact nmAt_k L a haL
    have hP2 : Part L (i + 1) (PP ++ K2) (C.modify a (setO ((C.length : Int) - 1 - a))) := by
      refine ⟨by rw [List.length_modify]; exact hlen, fun j hj hL => ?_⟩
      have hCj := hpart j hj hL
      rw [List.getElem?_modify]
      rw [hCj]
      have hnd : (x.1) ∉ (PP ++ K2).map Prod.fst := by
        rw [List.cons_append, List.map_cons, List.nodup_cons] at hd
        exact hd.1
      by_cases hja : j = a
      · subst hja
        have hnot : (PP ++ K2).any (fun y => y.1 == (j : Int)) = false := by
          rw [List.any_eq_false]
          intro y hy hyj
          exact hnd (List.mem_map.2 ⟨y, hy, by rw [hx1]; simpa using hyj⟩)
        rw [hnot, hin]
        simp only [if_pos]
        show some (setO ((C.length : Int) - 1 - j) ⟨L[j].nm, L[j].ls, 0⟩) = _
        rw [hlen]
        show some (⟨L[j].nm, L[j].ls, ((i + 1 : Nat) : Int) - 1 - j⟩ : CV) = some L[j]
        rw [show ((i + 1 : Nat) : Int) - 1 - (j : Int) = L[j].own by rw [hown]; omega]
      · have hsame : ((x :: PP) ++ K2).any (fun y => y.1 == (j : Int)) = (PP ++ K2).any (fun y => y.1 == (j : Int)) := by
          rw [List.cons_append, List.any_cons]
          have : (x.1 == (j : Int)) = false := beq_eq_false_iff_ne.2 (by rw [hx1]; omega)
          rw [this, Bool.false_or]
        rw [hsame]
        simp only [Option.map_eq_map, Option.map_some]
        rw [if_neg (fun e : a = j => hja e.symm)]
    obtain ⟨C2, hb, hp⟩ := bd_ends L n i hn hi PP K2 rest _ (fun y hy => he y (by simp [hy])) (fun y hy => ha y (by simp only [List.cons_append, List.mem_cons]; exact Or.inr hy)) (by
      rw [List.cons_append, List.map_cons, List.nodup_cons] at hd
      exact hd.2) hP2
    refine ⟨C2, ?_, hp⟩
    rw [List.map_cons, List.cons_append, bd_cons]
    have c1 : smN (enV L x).nm bgL = false := by show smN enL bgL = false; decide
    have c2 : smN (enV L x).nm enL = true := smN_refl _
    rw [c1, c2, if_neg (by show ¬ (_ ∧ ([] : List PV) ≠ []); simp), if_neg (by decide)]
    show (if true = true then (if smN (nmAt L x.1) (nmAt C (x.1.toNat : Int)) = true then bdG (PP.map (enV L) ++ rest) (C.modify x.1.toNat (setO ((C.length : Int) - 1 - (x.1.toNat : Int)))) (kn (PP ++ K2)) else none) else _) = _
    have ht : x.1.toNat = a := by rw [hx1]; simp
    rw [if_pos rfl, ht, hnmL, hnmC, smN_refl, if_pos rfl]
    exact hb
theorem tw_imp {α : Type} (p : α → Bool) : ∀ (K : List α) {x : α}, x ∈ K.takeWhile p → p x = true
  | y :: K, x, h => by
    rw [List.takeWhile_cons] at h
    split at h
    · rename_i hp
      rcases List.mem_cons.1 h with rfl | h
      · exact hp
      · exact tw_imp p K h
    · cases h
theorem drop_gt (m : Int) : ∀ (K : Stk), K.Pairwise (fun x y => x.2 ≤ y.2) → (∀ x ∈ K, m ≤ x.2) → ∀ x ∈ lvK K m, m < x.2
  | [], _, _, x, hx => by cases hx
  | y :: K, hs, hge, x, hx => by
    rw [List.pairwise_cons] at hs
    rw [lv_cons] at hx
    split at hx
    · exact drop_gt m K hs.2 (fun z hz => hge z (by simp [hz])) x hx
    · rename_i hne
      have hy := hge y (by simp)
      rcases List.mem_cons.1 hx with rfl | hx
      · omega
      · have := hs.1 x hx; omega
theorem drop_mem (m : Int) : ∀ (K : Stk) (x : Int × Int), x ∈ K → x.2 ≠ m → x ∈ lvK K m
  | y :: K, x, hx, hne => by
    rw [lv_cons]
    split
    · rename_i h
      rcases List.mem_cons.1 hx with rfl | hx
      · exact absurd h hne
      · exact drop_mem m K x hx hne
    · exact hx
/-- What holds ahead of each component. -/
def TrI (L : List CV) (n i : Nat) (K : Stk) : Prop := (∃ Kc, lvK Kc i = K ∧ chkG i Kc (L.drop i) = true) ∧ (∀ x ∈ K, ∃ a : Nat, ∃ h : a < L.length, x.1 = a ∧ a < i ∧ x.2 = (a : Int) + 1 + L[a].own) ∧ (K.map Prod.fst).Nodup ∧ K.Pairwise (fun x y => x.2 ≤ y.2) ∧ (∀ x ∈ K, (i : Int) < x.2 ∧ x.2 ≤ n) ∧ (i = 0 → K = []) ∧ (0 < i → i < n → ∃ x ∈ K, x.2 = n)
theorem bd_tree (L : List CV) (n : Nat) (hn : L.length = n) (h0 : ∀ h : 0 < L.length, L[0].own = (n : Int) - 1) : ∀ (m i : Nat) (K : Stk) (C : List CV), n - i = m → i ≤ n → TrI L n i K → Part L i K C → bdG (wlG L i K (L.drop i)) C (kn K) = some L
  | 0, i, K, C, hm, hi, hI, hP => by
    obtain rfl : i = n := by omega
    have hK : K = [] := by
      cases K with
      | nil => rfl
      | cons x K =>
        have := hI.2.2.2.2.1 x (by simp)
        omega
    subst hK
    rw [List.drop_of_length_le (by omega), wlG, bdG]
    show (if ([] : List Nat) = [] then some C else none) = some L
    rw [if_pos rfl]
    congr 1
    refine List.ext_getElem? (fun j => ?_)
    by_cases hj : j < L.length
    · rw [hP.2 j (by omega) hj, List.getElem?_eq_getElem hj]
      simp
    · rw [List.getElem?_eq_none (by have := hP.1; omega), List.getElem?_eq_none (by omega)]
  | m + 1, i, K, C, hm, hi, hI, hP => by
    have hin : i < n := by omega
    have hiL : i < L.length := by omega
    obtain ⟨⟨Kc, hKc, hchk⟩, hent, hnd, hsort, hend, hz, hbot⟩ := hI
    rw [chk_drop hiL, Bool.and_eq_true, hKc] at hchk
    obtain ⟨hst, hnx⟩ := hchk
    rw [stpB, hKc, Bool.and_eq_true, Bool.and_eq_true, Bool.and_eq_true] at hst
    obtain ⟨s1, s2, _, s4⟩ := hst
    have ho : 0 ≤ L[i].own := of_decide_eq_true s1
    rw [cmpB, Bool.and_eq_true] at s4
    have hlin : ∀ l ∈ L[i].ls, linB l = true := fun l hl => List.all_eq_true.1 s4.2 l hl
    -- its end
    have hle : ∀ x ∈ K, (i : Int) + 1 + L[i].own ≤ x.2 := by
      intro x hx
      by_cases hi0 : i = 0
      · rw [hz hi0] at hx; cases hx
      · rw [Bool.or_eq_true] at s2
        have s3 : L[i].own ≤ topE K - i - 1 := by
          rcases s2 with q | q
          · have := of_decide_eq_true q; omega
          · exact of_decide_eq_true q
        cases K with
        | nil => cases hx
        | cons y K =>
          rw [List.pairwise_cons] at hsort
          have e1 : topE (y :: K) = y.2 := rfl
          rw [e1] at s3
          rcases List.mem_cons.1 hx with rfl | hx
          · omega
          · have := hsort.1 x hx; omega
    have hien : (i : Int) + 1 + L[i].own ≤ n := by
      by_cases hi0 : i = 0
      · subst hi0
        have := h0 hiL
        omega
      · obtain ⟨x, hx, hx2⟩ := hbot (by omega) hin
        have := hle x hx
        omega
    obtain ⟨K1, hK1⟩ : ∃ x, ((i : Int), (i : Int) + 1 + L[i].own) :: K = x := ⟨_, rfl⟩
    have k1ent : ∀ x ∈ K1, ∃ a : Nat, ∃ h : a < L.length, x.1 = a ∧ a ≤ i ∧ x.2 = (a : Int) + 1 + L[a].own := by
      intro x hx
      rw [← hK1] at hx
      rcases List.mem_cons.1 hx with rfl | hx
      · exact ⟨i, hiL, rfl, Nat.le_refl _, rfl⟩
      · obtain ⟨a, h, q1, q2, q3⟩ := hent x hx
        exact ⟨a, h, q1, by omega, q3⟩
    have k1nd : (K1.map Prod.fst).Nodup := by
      rw [← hK1, List.map_cons, List.nodup_cons]
      refine ⟨fun h => ?_, hnd⟩
      obtain ⟨x, hx, hxi⟩ := List.mem_map.1 h
      obtain ⟨a, _, q1, q2, _⟩ := hent x hx
      have : x.1 = (i : Int) := hxi
      omega
    have k1s : K1.Pairwise (fun x y => x.2 ≤ y.2) := by
      rw [← hK1, List.pairwise_cons]
      exact ⟨fun x hx => hle x hx, hsort⟩
    have k1ge : ∀ x ∈ K1, (i : Int) + 1 ≤ x.2 ∧ x.2 ≤ n := by
      intro x hx
      rw [← hK1] at hx
      rcases List.mem_cons.1 hx with rfl | hx
      · exact ⟨by show (i : Int) + 1 ≤ (i : Int) + 1 + L[i].own; omega, hien⟩
      · have := hend x hx
        exact ⟨by omega, this.2⟩
    -- its lines are read
    have hlenC := hP.1
    rw [List.drop_eq_getElem_cons hiL, wlG, wl1, List.cons_append, List.append_assoc, hK1, bd_cons]
    have c1 : smN bgL bgL = true := smN_refl _
    have hguard : ¬ (kn K = [] ∧ C ≠ []) := by
      rintro ⟨q1, q2⟩
      by_cases hi0 : i = 0
      · exact q2 (List.eq_nil_of_length_eq_zero (by omega))
      · obtain ⟨x, hx, _⟩ := hbot (by omega) hin
        have hKn : K = [] := by simpa [kn] using q1
        rw [hKn] at hx; cases hx
    simp only [c1, Bool.true_or, ne_eq, not_true_eq_false, and_false, if_false, if_true]
    rw [if_neg hguard]
    rw [bd_lines L[i].ls [] _ C L[i].nm (kn K) hlin, List.nil_append]
    have hkn : C.length :: kn K = kn K1 := by
      rw [← hK1, kn, kn, List.map_cons, hlenC]; simp
    rw [hkn]
    have hsplit : K1.takeWhile (fun x => decide (x.2 = (i : Int) + 1)) ++ lvK K1 ((i : Int) + 1) = K1 := List.takeWhile_append_dropWhile
    have hP1 : Part L (i + 1) K1 (C ++ [⟨L[i].nm, L[i].ls, 0⟩]) := by
      refine ⟨by simp [hlenC], fun j hj hL => ?_⟩
      by_cases hji : j < i
      · rw [List.getElem?_append_left (by omega), hP.2 j hji hL]
        have : K1.any (fun x => x.1 == (j : Int)) = K.any (fun x => x.1 == (j : Int)) := by
          rw [← hK1, List.any_cons]
          have : (((i : Int) == (j : Int))) = false := beq_eq_false_iff_ne.2 (by omega)
          simp only [this, Bool.false_or]
        rw [this]
      · obtain rfl : j = i := by omega
        rw [List.getElem?_append_right (by omega), hlenC, Nat.sub_self]
        have : K1.any (fun x => x.1 == (j : Int)) = true := by
          rw [← hK1, List.any_cons]; simp
        rw [this, if_pos rfl]
        rfl
    obtain ⟨PP, hPP⟩ : ∃ x, K1.takeWhile (fun x => decide (x.2 = (i : Int) + 1)) = x := ⟨_, rfl⟩
    have hPPe : ∀ x ∈ PP, x.2 = (i : Int) + 1 := by
      rw [← hPP]
      intro x hx
      exact of_decide_eq_true (tw_imp _ K1 hx)
    rw [hPP] at hsplit ⊢
    rw [← hsplit] at k1ent k1nd hP1
    obtain ⟨C2, hb2, hp2⟩ := bd_ends L n i hn hin PP (lvK K1 ((i : Int) + 1)) (wlG L ((i : Int) + 1) (lvK K1 ((i : Int) + 1)) (L.drop (i + 1))) _ hPPe k1ent k1nd hP1
    rw [hsplit] at hb2
    rw [hb2]
    have e1 : ((i : Int) + 1) = ((i + 1 : Nat) : Int) := by omega
    have hsub : (lvK K1 ((i : Int) + 1)).Sublist K1 := List.dropWhile_sublist _
    rw [hsplit] at k1nd k1ent
    have hgt := drop_gt ((i : Int) + 1) K1 k1s (fun x hx => (k1ge x hx).1)
    have hI2 : TrI L n (i + 1) (lvK K1 ((i : Int) + 1)) := by
      refine ⟨⟨K1, by rw [e1], by rw [← hK1]; exact hnx⟩, fun x hx => ?_, ?_, k1s.sublist hsub, fun x hx => ?_, fun h => by omega, fun _ h2 => ?_⟩
      · obtain ⟨a, h, q1, q2, q3⟩ := k1ent x (hsub.subset hx)
        exact ⟨a, h, q1, by omega, q3⟩
      · exact k1nd.sublist (hsub.map _)
      · have := hgt x hx
        exact ⟨by rw [← e1]; exact this, (k1ge x (hsub.subset hx)).2⟩
      · by_cases hi0 : i = 0
        · subst hi0
          have hw := h0 hiL
          exact ⟨_, drop_mem _ K1 ((0 : Nat), ((0 : Nat) : Int) + 1 + L[0].own) (by rw [← hK1]; simp) (by show ((0 : Nat) : Int) + 1 + L[0].own ≠ _; omega), by show ((0 : Nat) : Int) + 1 + L[0].own = n; omega⟩
        · obtain ⟨x, hx, hx2⟩ := hbot (by omega) hin
          exact ⟨x, drop_mem _ K1 x (by rw [← hK1]; simp [hx]) (fun e => Nat.ne_of_gt h2 (Int.ofNat_inj.1 ((hx2.symm.trans e).trans e1))), hx2⟩
    have ih := bd_tree L n hn h0 m (i + 1) _ C2 (by rw [Nat.sub_add_eq, hm]; rfl) hin hI2 hp2
    rw [← e1] at ih
    exact ih
/-- What is written is read. -/
theorem tree_back {L : List CV} {T : List UInt8} (h : txT L = (T, 0)) : pTr T = (L, 0) := by
  obtain ⟨hc, hp⟩ := txT_lines h
  have hb : bdG (wlG L 0 [] L) [] [] = some L := by
    cases L with
    | nil => cases hc
    | cons c cs =>
      rw [chkB, Bool.and_eq_true] at hc
      have h1 := of_decide_eq_true hc.1
      have := bd_tree (c :: cs) _ rfl (fun _ => by show c.own = _; rw [h1]; simp) _ 0 [] [] rfl (Nat.zero_le _) ⟨⟨[], rfl, hc.2⟩, by simp, by simp, List.Pairwise.nil, by simp, fun _ => rfl, fun h => by omega⟩ ⟨rfl, fun j hj => by omega⟩
      exact this
  rw [hp, bdR, hb]
  simp only
  rw [hc, if_pos rfl]
end Tre
end Go.Proofs.Ytdakpncfophjnaa
/-
  Package tree, plain words: who is whose.
-/
namespace Go.Proofs.Ytdakpncfophjnaa
open Go.RowKit
namespace Tre
open Lin CutB Cel Ap
open Opn (TxtV)
theorem TrI.step {L : List CV} {n i : Nat} {K : Stk} (_ : L.length = n) (h0 : ∀ h : 0 < L.length, L[0].own = (n : Int) - 1) (hin : i < n) (hiL : i < L.length) (hI : TrI L n i K) :
    0 ≤ L[i].own ∧ (∀ x ∈ K, (i : Int) + 1 + L[i].own ≤ x.2) ∧ (i : Int) + 1 + L[i].own ≤ n ∧ TrI L n (i + 1) (lvK (((i : Int), (i : Int) + 1 + L[i].own) :: K) ((i + 1 : Nat) : Int)) := by
  obtain ⟨⟨Kc, hKc, hchk⟩, hent, hnd, hsort, hend, hz, hbot⟩ := hI
  rw [chk_drop hiL, Bool.and_eq_true, hKc] at hchk
  obtain ⟨hst, hnx⟩ := hchk
  rw [stpB, hKc, Bool.and_eq_true, Bool.and_eq_true, Bool.and_eq_true] at hst
  obtain ⟨s1, s2, _, _⟩ := hst
  have ho : 0 ≤ L[i].own := of_decide_eq_true s1
  have hle : ∀ x ∈ K, (i : Int) + 1 + L[i].own ≤ x.2 := by
    intro x hx
    by_cases hi0 : i = 0
    · rw [hz hi0] at hx; cases hx
    · rw [Bool.or_eq_true] at s2
      have s3 : L[i].own ≤ topE K - i - 1 := by
        rcases s2 with q | q
        · have := of_decide_eq_true q; omega
        · exact of_decide_eq_true q
      cases K with
      | nil => cases hx
      | cons y K =>
        rw [List.pairwise_cons] at hsort
        have e1 : topE (y :: K) = y.2 := rfl
        rw [e1] at s3
        rcases List.mem_cons.1 hx with rfl | hx
        · omega
        · have := hsort.1 x hx; omega
  have hien : (i : Int) + 1 + L[i].own ≤ n := by
    by_cases hi0 : i = 0
    · subst hi0
      have := h0 hiL
      omega
    · obtain ⟨x, hx, hx2⟩ := hbot (by omega) hin
      have := hle x hx
      omega
  refine ⟨ho, hle, hien, ?_⟩
  obtain ⟨K1, hK1⟩ : ∃ x, ((i : Int), (i : Int) + 1 + L[i].own) :: K = x := ⟨_, rfl⟩
  have e1 : ((i + 1 : Nat) : Int) = (i : Int) + 1 := by omega
  have k1ge : ∀ x ∈ K1, (i : Int) + 1 ≤ x.2 ∧ x.2 ≤ n := by
    intro x hx
    rw [← hK1] at hx
    rcases List.mem_cons.1 hx with rfl | hx
    · exact ⟨by show (i : Int) + 1 ≤ (i : Int) + 1 + L[i].own; omega, hien⟩
    · have := hend x hx
      exact ⟨by omega, this.2⟩
  have k1s : K1.Pairwise (fun x y => x.2 ≤ y.2) := by
    rw [← hK1, List.pairwise_cons]
    exact ⟨fun x hx => hle x hx, hsort⟩
  have k1ent : ∀ x ∈ K1, ∃ a : Nat, ∃ h : a < L.length, x.1 = a ∧ a < i + 1 ∧ x.2 = (a : Int) + 1 + L[a].own := by
    intro x hx
    rw [← hK1] at hx
    rcases List.mem_cons.1 hx with rfl | hx
    · exact ⟨i, hiL, rfl, Nat.lt_succ_self _, rfl⟩
    · obtain ⟨a, h, q1, q2, q3⟩ := hent x hx
      exact ⟨a, h, q1, by omega, q3⟩
  have k1nd : (K1.map Prod.fst).Nodup := by
    rw [← hK1, List.map_cons, List.nodup_cons]
    refine ⟨fun h => ?_, hnd⟩
    obtain ⟨x, hx, hxi⟩ := List.mem_map.1 h
    obtain ⟨a, _, q1, q2, _⟩ := hent x hx
    have : x.1 = (i : Int) := hxi
    omega
  rw [hK1]
  have hsub : (lvK K1 ((i + 1 : Nat) : Int)).Sublist K1 := List.dropWhile_sublist _
  have hgt := drop_gt ((i + 1 : Nat) : Int) K1 k1s (fun x hx => by rw [e1]; exact (k1ge x hx).1)
  refine ⟨⟨K1, rfl, by rw [← hK1]; exact hnx⟩, fun x hx => k1ent x (hsub.subset hx), k1nd.sublist (hsub.map _), k1s.sublist hsub, fun x hx => ⟨hgt x hx, (k1ge x (hsub.subset hx)).2⟩, fun h => absurd h (Nat.succ_ne_zero i), fun _ h2 => ?_⟩
  by_cases hi0 : i = 0
  · subst hi0
    have hw := h0 hiL
    exact ⟨_, drop_mem _ K1 ((0 : Nat), ((0 : Nat) : Int) + 1 + L[0].own) (by rw [← hK1]; simp) (by show ((0 : Nat) : Int) + 1 + L[0].own ≠ _; omega), by show ((0 : Nat) : Int) + 1 + L[0].own = n; omega⟩
  · obtain ⟨x, hx, hx2⟩ := hbot (Nat.pos_of_ne_zero hi0) hin
    exact ⟨x, drop_mem _ K1 x (by rw [← hK1]; simp [hx]) (fun e => Nat.ne_of_gt h2 (Int.ofNat_inj.1 (hx2.symm.trans e))), hx2⟩
/-- Where a component's own end. -/
def ed (L : List CV) (x : Nat) : Nat := x + 1 + (ownAt L x).toNat
theorem nst_go (L : List CV) (n : Nat) (hn : L.length = n) (h0 : ∀ h : 0 < L.length, L[0].own = (n : Int) - 1) : ∀ (m k : Nat) (K : Stk), n - k = m → TrI L n k K → ∀ x, k ≤ x → x < n → 0 ≤ ownAt L x ∧ ed L x ≤ n ∧ (∀ y ∈ K, (x : Int) < y.2 → (ed L x : Int) ≤ y.2) ∧ ∀ y, k ≤ y → y < x → x < ed L y → ed L x ≤ ed L y
  | 0, k, K, hm, _, x, h1, h2 => by omega
  | m + 1, k, K, hm, hI, x, h1, h2 => by
    have hkn : k < n := by omega
    have hkL : k < L.length := by omega
    obtain ⟨a1, a2, a3, a4⟩ := hI.step hn h0 hkn hkL
    have ek : ownAt L (k : Int) = L[k].own := own_nat L k hkL
    have edk : (ed L k : Int) = (k : Int) + 1 + L[k].own := by rw [ed, ek]; omega
    by_cases hx : x = k
    · subst hx
      refine ⟨by omega, by omega, fun y hy _ => by rw [edk]; exact a2 y hy, fun y h3 h4 => by omega⟩
    · obtain ⟨b1, b2, b3, b4⟩ := nst_go L n hn h0 m (k + 1) _ (by omega) a4 x (by omega) h2
      refine ⟨b1, b2, fun y hy hxy => b3 y (drop_mem _ _ y (by simp [hy]) (by omega)) hxy, fun y h3 h4 h5 => ?_⟩
      by_cases hy : y = k
      · subst hy
        have := b3 ((y : Int), (y : Int) + 1 + L[y].own) (drop_mem _ _ _ (by simp) (by show (y : Int) + 1 + L[y].own ≠ _; omega)) (by show (x : Int) < (y : Int) + 1 + L[y].own; omega)
        have h6 : (ed L x : Int) ≤ (y : Int) + 1 + L[y].own := this
        omega
      · exact b4 y (by omega) h4 h5
/-- A tree that is right: all lie one in another. -/
structure Nst (L : List CV) (n : Nat) : Prop where
  len : L.length = n
  own : ∀ x, x < n → 0 ≤ ownAt L x
  le : ∀ x, x < n → ed L x ≤ n
  nest : ∀ x y, y < x → x < n → x < ed L y → ed L x ≤ ed L y
  root : 0 < n → ed L 0 = n
theorem nst_of {L : List CV} (h : chkB L = true) : 0 < L.length ∧ Nst L L.length := by
  cases hL : L with
  | nil => rw [hL] at h; cases h
  | cons c cs =>
    have h' := h
    rw [hL, chkB, Bool.and_eq_true] at h'
    have h1 := of_decide_eq_true h'.1
    have hlen : ((c :: cs).length : Int) = cs.length + 1 := by simp
    have g := nst_go (c :: cs) _ rfl (fun _ => by show c.own = _; rw [h1, hlen]; omega) _ 0 [] rfl ⟨⟨[], rfl, h'.2⟩, by simp, by simp, List.Pairwise.nil, by simp, fun _ => rfl, fun h => by omega⟩
    refine ⟨by simp, rfl, fun x hx => (g x (Nat.zero_le _) hx).1, fun x hx => (g x (Nat.zero_le _) hx).2.1, fun x y h2 h3 h4 => (g x (Nat.zero_le _) h3).2.2.2 y (Nat.zero_le _) h2 h4, fun _ => ?_⟩
    have : ownAt (c :: cs) ((0 : Nat) : Int) = c.own := rfl
    rw [ed, this, h1]
    simp; omega
/-- The kids from c on. -/
def Ch (L : List CV) (e : Nat) : Nat → List Int → Prop
  | c, [] => c = e
  | c, k :: R => k = (c : Int) ∧ c < e ∧ Ch L e (ed L c) R
/-- All between i and c end at c at the latest. -/
def Fr (L : List CV) (i c : Nat) : Prop := i < c ∧ c ≤ ed L i ∧ ∀ x, i < x → x < c → ed L x ≤ c
theorem ed_gt (L : List CV) (x : Nat) : x < ed L x := by rw [ed]; omega
theorem Fr.first (L : List CV) (i : Nat) : Fr L i (i + 1) := ⟨by omega, ed_gt L i, fun x h1 h2 => by omega⟩
theorem Fr.step {L : List CV} {n i c : Nat} (hN : Nst L n) (hi : i < n) (h : Fr L i c) (hc : c < ed L i) : Fr L i (ed L c) := by
  obtain ⟨h1, h2, h3⟩ := h
  have hin := hN.le i hi
  have g := ed_gt L c
  refine ⟨by omega, hN.nest c i h1 (by omega) hc, fun x q1 q2 => ?_⟩
  by_cases hx : x < c
  · have := h3 x q1 hx; omega
  · by_cases hxc : x = c
    · subst hxc; omega
    · exact hN.nest x c (by omega) (by have := hN.le c (by omega); omega) q2
theorem kd_ch {L : List CV} {n i : Nat} (hN : Nst L n) (hi : i < n) : ∀ (f c : Nat) (acc : List Int), Fr L i c → ed L i < c + f → ∃ R, kdG L (ed L i : Int) f (c : Int) acc = acc ++ R ∧ Ch L (ed L i) c R
  | 0, c, acc, h, hf => by have := h.2.1; omega
  | f + 1, c, acc, h, hf => by
    have hin := hN.le i hi
    rw [kd_step]
    by_cases hc : c < ed L i
    · have hs := h.step hN hi hc
      have ho := hN.own c (by omega)
      have he : (ed L c : Int) = (c : Int) + 1 + ownAt L c := by rw [ed]; omega
      have hle := hs.2.1
      rw [if_pos (by omega), if_neg (by omega), ← he]
      obtain ⟨R, h1, h2⟩ := kd_ch hN hi f (ed L c) (acc ++ [(c : Int)]) hs (by have := ed_gt L c; omega)
      exact ⟨(c : Int) :: R, by rw [h1]; simp, rfl, hc, h2⟩
    · rw [if_neg (by omega)]
      exact ⟨[], by simp, by have := h.2.1; show c = ed L i; omega⟩
theorem kids_ch {L : List CV} {n i : Nat} (hN : Nst L n) (hi : i < n) : Ch L (ed L i) (i + 1) (kids L (i : Int)) := by
  have h1 := hN.own i hi
  have h2 := hN.le i hi
  have h3 := hN.len
  have he : (ed L i : Int) = (i : Int) + 1 + ownAt L i := by rw [ed]; omega
  have hr : kdR L (i : Int) = true := decide_eq_true ⟨by omega, by omega, h1, by omega⟩
  rw [kids, hr, if_pos rfl, ← he]
  obtain ⟨R, g1, g2⟩ := kd_ch hN hi (L.length + 1) (i + 1) [] (Fr.first L i) (by omega)
  have e1 : ((i + 1 : Nat) : Int) = (i : Int) + 1 := by omega
  rw [e1] at g1
  rw [g1]
  exact g2
/-! ### Whose a component is -/
def pB (L : List CV) (i j : Nat) : Bool := decide (i < j) && (decide (j < ed L i) && (List.range j).all (fun x => !decide (i < x) || decide (ed L x ≤ j)))
theorem pB_iff {L : List CV} {i j : Nat} : pB L i j = true ↔ i < j ∧ j < ed L i ∧ ∀ x, i < x → x < j → ed L x ≤ j := by
  rw [pB, Bool.and_eq_true, Bool.and_eq_true, decide_eq_true_iff, decide_eq_true_iff, List.all_eq_true]
  constructor
  · rintro ⟨h1, h2, h3⟩
    refine ⟨h1, h2, fun x q1 q2 => ?_⟩
    have := h3 x (List.mem_range.2 q2)
    simpa [q1] using this
  · rintro ⟨h1, h2, h3⟩
    refine ⟨h1, h2, fun x hx => ?_⟩
    by_cases q : i < x
    · simp [q, h3 x q (List.mem_range.1 hx)]
    · simp [q]
theorem pB_one {L : List CV} {i i' j : Nat} (h1 : pB L i j = true) (h2 : pB L i' j = true) (h : i' < i) : False := by
  obtain ⟨a1, a2, _⟩ := pB_iff.1 h1
  obtain ⟨_, _, b3⟩ := pB_iff.1 h2
  have := b3 i h a1
  omega
/-- How often j has come up: behind the rounds below i, and behind i's kids below c. -/
def gB (L : List CV) (i c j : Nat) : Bool := (List.range i).any (fun x => pB L x j) || (pB L i j && decide (j < c))
def gI (L : List CV) (i c j : Nat) : Int := if gB L i c j = true then 1 else 0
theorem gB_first (L : List CV) (i j : Nat) : gB L i (i + 1) j = (List.range i).any (fun x => pB L x j) := by
  rw [gB]
  cases h : pB L i j with
  | false => simp
  | true =>
    have := (pB_iff.1 h).1
    rw [decide_eq_false (by omega)]
    simp
theorem gB_last (L : List CV) (i j : Nat) : gB L i (ed L i) j = gB L (i + 1) (i + 2) j := by
  rw [show i + 2 = (i + 1) + 1 from rfl, gB_first, gB, List.range_succ, List.any_append]
  congr 1
  cases h : pB L i j with
  | false => simp [h]
  | true => simp [h, (pB_iff.1 h).2.1]
theorem gB_at {L : List CV} {i c : Nat} (h : Fr L i c) (hc : c < ed L i) : gB L i c c = false := by
  have hp : pB L i c = true := pB_iff.2 ⟨h.1, hc, h.2.2⟩
  rw [gB, hp]
  have : (List.range i).any (fun x => pB L x c) = false := by
    rw [List.any_eq_false]
    intro x hx hp2
    exact pB_one hp hp2 (List.mem_range.1 hx)
  rw [this]
  simp
theorem gB_step {L : List CV} {i c : Nat} (h : Fr L i c) (hc : c < ed L i) (j : Nat) : gB L i (ed L c) j = if j = c then true else gB L i c j := by
  have hp : pB L i c = true := pB_iff.2 ⟨h.1, hc, h.2.2⟩
  have g := ed_gt L c
  split
  · rename_i e
    subst e
    rw [gB, hp, decide_eq_true g]
    simp
  · rename_i hne
    rw [gB, gB]
    cases hj : pB L i j with
    | false => simp
    | true =>
      have h1 := (pB_iff.1 hj).2.2 c h.1
      have : decide (j < ed L c) = decide (j < c) := by
        by_cases q : j < c
        · rw [decide_eq_true q, decide_eq_true (by omega)]
        · rw [decide_eq_false q, decide_eq_false (by have := h1 (by omega); omega)]
      rw [this]
theorem last_of (P : Nat → Prop) [DecidablePred P] : ∀ m, (∃ i, i < m ∧ P i) → ∃ i, i < m ∧ P i ∧ ∀ x, i < x → x < m → ¬ P x
  | 0, ⟨i, h, _⟩ => by omega
  | m + 1, ⟨i, h, hp⟩ => by
    by_cases hm : P m
    · exact ⟨m, by omega, hm, fun x h1 h2 => by omega⟩
    · obtain ⟨k, h1, h2, h3⟩ := last_of P m ⟨i, by
        rcases Nat.lt_or_ge i m with q | q
        · exact q
        · have : i = m := by omega
          subst this; exact absurd hp hm, hp⟩
      refine ⟨k, by omega, h2, fun x q1 q2 => ?_⟩
      by_cases q : x = m
      · subst q; exact hm
      · exact h3 x q1 (by omega)
theorem gB_all {L : List CV} {n j : Nat} (hN : Nst L n) (h1 : 0 < j) (h2 : j < n) : gB L n (n + 1) j = true := by
  rw [gB_first, List.any_eq_true]
  have hr := hN.root (by omega)
  obtain ⟨i, q1, q2, q3⟩ := last_of (fun x => j < ed L x) j ⟨0, h1, by omega⟩
  exact ⟨i, List.mem_range.2 (by omega), pB_iff.2 ⟨q1, q2, fun x a b => by have := q3 x a b; omega⟩⟩
theorem gB_zero (L : List CV) (n : Nat) : gB L n (n + 1) 0 = false := by
  rw [gB_first, List.any_eq_false]
  intro x _ hp
  have := (pB_iff.1 hp).1
  omega
theorem gB_start (L : List CV) (j : Nat) : gB L 0 1 j = false := by
  rw [gB_first]; simp
theorem Ch.at {L : List CV} {e c : Nat} {R : List Int} {t : Nat} (h : Ch L e c (R.drop t)) (ht : t < R.length) : R[t] = (c : Int) ∧ c < e ∧ Ch L e (ed L c) (R.drop (t + 1)) := by
  rw [List.drop_eq_getElem_cons ht] at h
  exact h
theorem Ch.end {L : List CV} {e c : Nat} {R : List Int} {t : Nat} (h : Ch L e c (R.drop t)) (ht : R.length ≤ t) : c = e := by
  rw [List.drop_of_length_le ht] at h
  exact h
theorem kids_no (L : List CV) (i : Int) (h : i < 0 ∨ (L.length : Int) ≤ i) : kids L i = [] := by
  have : kdR L i = false := decide_eq_false (by omega)
  rw [kids, this, if_neg (by decide)]
end Tre
end Go.Proofs.Ytdakpncfophjnaa
