/-
  Package line, plain words: what is written is read.
-/
import Derived.Test.YtdakpncfophjnaaLinM
namespace Go.Proofs.Ytdakpncfophjnaa
namespace Lin
/-! ### What stands ahead of a sign -/
theorem hd_tl_app {C N R : List UInt8} (hN : N.all (fun b => !C.contains b) = true) (hR : ∃ c U, R = c :: U ∧ C.contains c = true) : hdT C (N ++ R) = N ∧ tlT C (N ++ R) = R := by
  obtain ⟨c, U, rfl, hc⟩ := hR
  have h : ∀ a ∈ N, (!C.contains a) = true := fun a ha => List.all_eq_true.1 hN a ha
  constructor
  · rw [hdT, List.takeWhile_append_of_pos h, List.takeWhile_cons, if_neg (by rw [hc]; decide), List.append_nil]
  · rw [tlT, List.dropWhile_append_of_pos h, List.dropWhile_cons, if_neg (by rw [hc]; decide)]
theorem nm_ok (c : UInt8) (hc : Fm.okB [45] c = true) : ([58, 59, 61, 34, 44] : List UInt8).contains c = false := by
  have h : ∀ k < 256, Fm.okB [45] (UInt8.ofNat k) = true → ([58, 59, 61, 34, 44] : List UInt8).contains (UInt8.ofNat k) = false := by decide +kernel
  have := h c.toNat c.toNat_lt
  rw [UInt8.ofNat_toNat] at this
  exact this hc
theorem nm_all {N C : List UInt8} (hN : nmB N = true) (hC : ∀ c ∈ C, c ∈ ([58, 59, 61, 34, 44] : List UInt8)) : N.all (fun b => !C.contains b) = true := by
  rw [nmB, Bool.and_eq_true] at hN
  rw [List.all_eq_true]
  intro b hb
  have h1 := nm_ok b (List.all_eq_true.1 hN.2 b hb)
  cases h : C.contains b with
  | false => rfl
  | true =>
    have h2 := hC b (by simpa using h)
    have h3 : ([58, 59, 61, 34, 44] : List UInt8).contains b = true := by simpa using h2
    rw [h1] at h3; cases h3
/-! ### A value that is written in some way -/
def Wv (W v : List UInt8) : Prop := ∀ c U, ([58, 59, 44] : List UInt8).contains c = true → rvL (W ++ c :: U) = some (v, c :: U)
theorem val34 {v : List UInt8} (hv : valB v = true) : v.all (fun b => !([34] : List UInt8).contains b) = true := by
  rw [valB, Bool.and_eq_true] at hv
  rw [List.all_eq_true]
  intro b hb
  by_cases h : b = 34
  · subst h
    have h2 := hv.2
    have : v.contains 34 = true := by simpa using hb
    rw [this] at h2; cases h2
  · simpa using h
theorem wv_quote {v : List UInt8} (hv : valB v = true) : Wv (34 :: (v ++ [34])) v := by
  intro c U hc
  have e : (34 :: (v ++ [34])) ++ c :: U = 34 :: (v ++ (34 :: c :: U)) := by simp
  obtain ⟨h1, h2⟩ := hd_tl_app (C := [34]) (R := 34 :: c :: U) (val34 hv) ⟨34, _, rfl, by decide⟩
  rw [e, rvL, if_pos rfl, h1, h2, if_neg (by simp)]
  rfl
theorem wv_bare {v : List UInt8} (hv : valB v = true) (hq : qtB v = false) : Wv v v := by
  intro c U hc
  have ha : v.all (fun b => !([58, 59, 44] : List UInt8).contains b) = true := by
    rw [List.all_eq_true]
    intro b hb
    have := List.any_eq_false.1 hq b hb
    simpa using this
  obtain ⟨h1, h2⟩ := hd_tl_app (C := [58, 59, 44]) (R := c :: U) ha ⟨c, U, rfl, hc⟩
  have hn : tlT [58, 59, 44] (v ++ c :: U) ≠ [] := by rw [h2]; simp
  cases hvv : v with
  | nil =>
    subst hvv
    have hc34 : c ≠ 34 := by rintro rfl; exact absurd hc (by decide)
    rw [List.nil_append] at h1 h2 hn ⊢
    rw [rvL, if_neg hc34, if_neg hn, h1, h2]
  | cons d T =>
    have hd : d ≠ 34 := by
      intro q
      have := List.all_eq_true.1 (val34 hv) d (by rw [hvv]; simp)
      rw [q] at this; exact absurd this (by decide)
    rw [hvv] at h1 h2 hn
    rw [List.cons_append] at h1 h2 hn ⊢
    rw [rvL, if_neg hd, if_neg hn, h1, h2]
theorem wv_val {v : List UInt8} (hv : valB v = true) : Wv (valT v) v := by
  cases hq : qtB v with
  | true => rw [valT, if_pos hq]; exact wv_quote hv
  | false => rw [valT, if_neg (by rw [hq]; decide)]; exact wv_bare hv hq
/-! ### Values, parameters -/
def WV : List (List UInt8) → List (List UInt8) → Prop
  | [], [] => True
  | w :: ws, v :: vs => Wv w v ∧ WV ws vs
  | _, _ => False
def vsW : UInt8 → List (List UInt8) → List UInt8
  | _, [] => []
  | m, w :: ws => m :: (w ++ vsW 44 ws)
theorem vs_w : ∀ (m : UInt8) (vs : List (List UInt8)), vsT m vs = vsW m (vs.map valT)
  | _, [] => rfl
  | m, v :: vs => by rw [vsT, List.map_cons, vsW, vs_w 44 vs]
theorem wv_map : ∀ (vs : List (List UInt8)), vs.all valB = true → WV (vs.map valT) vs
  | [], _ => trivial
  | v :: vs, h => by
    rw [List.all_cons, Bool.and_eq_true] at h
    exact ⟨wv_val h.1, wv_map vs h.2⟩
theorem vsw_len : ∀ (m : UInt8) (ws : List (List UInt8)), ws.length ≤ (vsW m ws).length
  | _, [] => Nat.le_refl _
  | m, w :: ws => by
    have := vsw_len 44 ws
    rw [vsW]
    simp only [List.length_cons, List.length_append]
    omega
theorem wv_len : ∀ (ws vs : List (List UInt8)), WV ws vs → ws.length = vs.length
  | [], [], _ => rfl
  | _ :: ws, _ :: vs, h => by simp only [List.length_cons]; rw [wv_len ws vs h.2]
  | [], _ :: _, h => h.elim
  | _ :: _, [], h => h.elim
theorem rvG_go : ∀ (ws vs : List (List UInt8)) (w v : List UInt8) (f : Nat) (acc : List (List UInt8)) (c : UInt8) (U : List UInt8), Wv w v → WV ws vs → ws.length < f → ([58, 59] : List UInt8).contains c = true → rvG f (w ++ (vsW 44 ws ++ c :: U)) acc = some (acc ++ v :: vs, c :: U)
  | [], [], w, v, f, acc, c, U, hw, _, hf, hc => by
    obtain ⟨f, rfl⟩ : ∃ k, f = k + 1 := ⟨f - 1, by omega⟩
    have hc2 : ([58, 59, 44] : List UInt8).contains c = true := by
      simp at hc ⊢
      rcases hc with h | h
      · exact Or.inl h
      · exact Or.inr (Or.inl h)
    have h44 : c ≠ 44 := by rintro rfl; exact absurd hc (by decide)
    rw [vsW, List.nil_append, rvG, hw c U hc2]
    simp only [if_neg h44]
  | w2 :: ws, v2 :: vs, w, v, f, acc, c, U, hw, hW, hf, hc => by
    obtain ⟨f, rfl⟩ : ∃ k, f = k + 1 := ⟨f - 1, by omega⟩
    simp only [List.length_cons] at hf
    have e : vsW 44 (w2 :: ws) ++ c :: U = 44 :: (w2 ++ (vsW 44 ws ++ c :: U)) := by rw [vsW]; simp
    rw [e, rvG, hw 44 _ (by decide)]
    simp only [if_true]
    rw [rvG_go ws vs w2 v2 f (acc ++ [v]) c U hW.1 hW.2 (by omega) hc]
    simp
/-- A parameter's text, its values written in some way. -/
def parW (nm : List UInt8) (ws : List (List UInt8)) : List UInt8 := 59 :: (nm ++ vsW 61 ws)
theorem rpL_go (nm : List UInt8) (ws vs : List (List UInt8)) (c : UInt8) (U : List UInt8) (hn : nmB nm = true) (h0 : 0 < vs.length) (hW : WV ws vs) (hc : ([58, 59] : List UInt8).contains c = true) : rpL (nm ++ vsW 61 ws ++ c :: U) = some (⟨nm, vs⟩, c :: U) := by
  match ws, vs, h0, hW with
  | [], v :: vs, _, hW => exact hW.elim
  | w :: ws, v :: vs, _, hW =>
    have e : nm ++ vsW 61 (w :: ws) ++ c :: U = nm ++ 61 :: (w ++ (vsW 44 ws ++ c :: U)) := by rw [vsW]; simp
    obtain ⟨h1, h2⟩ := hd_tl_app (C := [61]) (R := 61 :: (w ++ (vsW 44 ws ++ c :: U))) (nm_all hn (by simp)) ⟨61, _, rfl, by decide⟩
    have hl : ws.length < (nm ++ 61 :: (w ++ (vsW 44 ws ++ c :: U))).length + 1 := by
      have := vsw_len 44 ws
      simp only [List.length_append, List.length_cons]
      omega
    rw [e, rpL, h1, h2, if_neg (by simp), List.tail_cons, rvG_go ws vs w v _ [] c U hW.1 hW.2 hl hc]
    rfl
/-- Parameters with their written values. -/
def psW : List (PV × List (List UInt8)) → List UInt8
  | [] => []
  | q :: qs => parW q.1.nm q.2 ++ psW qs
def okQ (q : PV × List (List UInt8)) : Prop := nmB q.1.nm = true ∧ 0 < q.1.vs.length ∧ WV q.2 q.1.vs
theorem psw_len : ∀ (qs : List (PV × List (List UInt8))), qs.length ≤ (psW qs).length
  | [] => Nat.le_refl _
  | q :: qs => by
    have := psw_len qs
    rw [psW, parW]
    simp only [List.length_cons, List.length_append]
    omega
theorem psw_fst (qs : List (PV × List (List UInt8))) (vl : List UInt8) : ∃ c U, psW qs ++ 58 :: vl = c :: U ∧ ([58, 59] : List UInt8).contains c = true := by
  cases qs with
  | nil => exact ⟨58, vl, rfl, by decide⟩
  | cons q qs => exact ⟨59, _, by rw [psW, parW]; rfl, by decide⟩
theorem pgL_go : ∀ (qs : List (PV × List (List UInt8))) (f : Nat) (acc : List PV) (vl : List UInt8), (∀ q ∈ qs, okQ q) → qs.length < f → pgL f (psW qs ++ 58 :: vl) acc = some (acc ++ qs.map (·.1), 58 :: vl)
  | [], f, acc, vl, _, hf => by
    obtain ⟨f, rfl⟩ : ∃ k, f = k + 1 := ⟨f - 1, by omega⟩
    rw [psW, List.nil_append, pgL, if_neg (by decide)]
    simp
  | q :: qs, f, acc, vl, h, hf => by
    obtain ⟨f, rfl⟩ : ∃ k, f = k + 1 := ⟨f - 1, by omega⟩
    simp only [List.length_cons] at hf
    obtain ⟨c, U, e, hc⟩ := psw_fst qs vl
    have hq := h q (by simp)
    have e2 : psW (q :: qs) ++ 58 :: vl = 59 :: (q.1.nm ++ vsW 61 q.2 ++ c :: U) := by
      rw [psW, parW, ← e]; simp
    rw [e2, pgL, if_pos rfl, rpL_go q.1.nm q.2 q.1.vs c U hq.1 hq.2.1 hq.2.2 hc]
    show pgL f (c :: U) (acc ++ [⟨q.1.nm, q.1.vs⟩]) = _
    rw [← e, pgL_go qs f _ vl (fun x hx => h x (by simp [hx])) (by omega)]
    simp
theorem lnX_go (nm vl : List UInt8) (qs : List (PV × List (List UInt8))) (hq : ∀ q ∈ qs, okQ q) (hb : lnB ⟨nm, qs.map (·.1), vl⟩ = true) : lnP (nm ++ (psW qs ++ 58 :: vl)) = (0, ⟨nm, qs.map (·.1), vl⟩) := by
  have hn : nmB nm = true := by rw [lnB, Bool.and_eq_true] at hb; exact hb.1
  obtain ⟨c, U, e, hc⟩ := psw_fst qs vl
  obtain ⟨h1, h2⟩ := hd_tl_app (C := [58, 59]) (R := psW qs ++ 58 :: vl) (nm_all hn (by simp)) ⟨c, U, e, by
    simp at hc ⊢; exact hc⟩
  have hl : qs.length < (nm ++ (psW qs ++ 58 :: vl)).length + 1 := by
    have := psw_len qs
    simp only [List.length_append, List.length_cons]
    omega
  rw [lnP, lnX, h2, if_neg (by rw [e]; simp), pgL_go qs _ [] vl hq hl, h1]
  show (match (if (58 : UInt8) = 58 ∧ lnB ⟨nm, [] ++ qs.map (·.1), vl⟩ = true then some (⟨nm, [] ++ qs.map (·.1), vl⟩ : LV) else none) with
    | none => ((18 : Int), LV.zero)
    | some l => (0, l)) = _
  rw [List.nil_append, if_pos ⟨rfl, hb⟩]
theorem ps_w : ∀ (ps : List PV), psT ps = psW (ps.map (fun p => (p, p.vs.map valT)))
  | [] => rfl
  | p :: ps => by rw [psT, List.map_cons, psW, ps_w ps, parT, parW, vs_w]
theorem par_okQ (p : PV) (h : parB p = true) : okQ (p, p.vs.map valT) := by
  rw [parB, Bool.and_eq_true, Bool.and_eq_true] at h
  exact ⟨h.1, of_decide_eq_true h.2.1, wv_map _ h.2.2⟩
/-- What is written is read. -/
theorem ln_back (l : LV) (hb : lnB l = true) : lnP (lineF l) = (0, l) := by
  obtain ⟨nm, ps, vl⟩ := l
  have e : (ps.map (fun p => (p, p.vs.map valT))).map (·.1) = ps := by
    rw [List.map_map]
    exact List.map_id _
  have hp : ps.all parB = true := by rw [lnB, Bool.and_eq_true, Bool.and_eq_true] at hb; exact hb.2.2
  have := lnX_go nm vl (ps.map (fun p => (p, p.vs.map valT))) (by
    intro q hq
    obtain ⟨p, hp2, rfl⟩ := List.mem_map.1 hq
    exact par_okQ p (List.all_eq_true.1 hp p hp2)) (by rw [e]; exact hb)
  rw [e, ← ps_w] at this
  exact this
theorem ln_inj {a b : LV} (ha : lnB a = true) (hb : lnB b = true) (h : lineF a = lineF b) : a = b := by
  have h1 := ln_back a ha
  rw [h, ln_back b hb] at h1
  injection h1 with _ h1
  exact h1.symm
end Lin
end Go.Proofs.Ytdakpncfophjnaa
