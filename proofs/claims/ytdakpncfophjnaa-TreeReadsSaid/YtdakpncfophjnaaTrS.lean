/-
  Package tree, plain words: how large what is read is when it is written again.
-/
import Derived.Test.YtdakpncfophjnaaTrN
namespace Go.Proofs.Ytdakpncfophjnaa
open Go.RowKit
namespace Tre
open Lin CutB Cel Ap
open Opn (TxtV)
/-! ### A line that was read -/
def vm : List (List UInt8) → Nat
  | [] => 0
  | v :: vs => v.length + 1 + vm vs
theorem vm_snoc : ∀ (a : List (List UInt8)) (v : List UInt8), vm (a ++ [v]) = vm a + v.length + 1
  | [], v => by simp [vm]
  | x :: a, v => by rw [List.cons_append, vm, vm, vm_snoc a v]; omega
theorem hdtl_len (C S : List UInt8) : (hdT C S).length + (tlT C S).length = S.length := by
  have := congrArg List.length (hd_tl C S)
  rw [List.length_append] at this
  exact this
theorem pos_len {S : List UInt8} (h : ¬ S = []) : 1 ≤ S.length := by
  cases S with
  | nil => exact absurd rfl h
  | cons _ _ => simp
theorem rv_len {S v R : List UInt8} (h : rvL S = some (v, R)) : v.length + R.length ≤ S.length := by
  cases S with
  | nil => cases h
  | cons c T =>
    rw [rvL] at h
    split at h
    · split at h
      · cases h
      · rename_i hne
        injection h with h
        injection h with h1 h2
        have := hdtl_len [34] T
        have := pos_len hne
        rw [← h1, ← h2, List.length_tail]
        simp only [List.length_cons]
        omega
    · split at h
      · cases h
      · injection h with h
        injection h with h1 h2
        have := hdtl_len [58, 59, 44] (c :: T)
        rw [← h1, ← h2]
        omega
theorem rvg_len : ∀ (f : Nat) (S : List UInt8) (acc vs : List (List UInt8)) (R : List UInt8), rvG f S acc = some (vs, R) → vm vs + R.length ≤ vm acc + S.length + 1
  | 0, S, acc, vs, R, h => by cases h
  | f + 1, S, acc, vs, R, h => by
    rw [rvG] at h
    split at h
    · cases h
    · cases h
    · rename_i v c T hv
      have h1 := rv_len hv
      simp only [List.length_cons] at h1
      split at h
      · have := rvg_len f T _ vs R h
        rw [vm_snoc] at this
        omega
      · injection h with h
        injection h with h2 h3
        rw [← h2, ← h3, vm_snoc]
        simp only [List.length_cons]
        omega
theorem rp_len {S R : List UInt8} {p : PV} (h : rpL S = some (p, R)) : p.nm.length + vm p.vs + R.length ≤ S.length := by
  rw [rpL] at h
  split at h
  · cases h
  · rename_i hne
    have h1 := pos_len hne
    have h2 := hdtl_len [61] S
    cases hg : rvG (S.length + 1) (tlT [61] S).tail [] with
    | none => rw [hg] at h; cases h
    | some q =>
      obtain ⟨vs, R'⟩ := q
      rw [hg, rpO] at h
      injection h with h
      injection h with h3 h4
      have h5 := rvg_len _ _ _ _ _ hg
      rw [List.length_tail, vm] at h5
      rw [← h3, ← h4]
      simp only
      omega
theorem val_len (v : List UInt8) : v.length ≤ (valT v).length ∧ (valT v).length ≤ v.length + 2 := by
  rw [valT]
  split
  · simp only [List.length_cons, List.length_append, List.length_nil]; omega
  · omega
theorem vs_len : ∀ (m : UInt8) (vs : List (List UInt8)), (vsT m vs).length ≤ 3 * vm vs ∧ vs.length ≤ (vsT m vs).length ∧ ∀ v ∈ vs, v.length ≤ (vsT m vs).length
  | _, [] => by simp [vsT, vm]
  | m, v :: vs => by
    obtain ⟨h1, h2, h3⟩ := vs_len 44 vs
    obtain ⟨g1, g2⟩ := val_len v
    rw [vsT, vm]
    simp only [List.length_cons, List.length_append]
    refine ⟨by omega, by omega, fun u hu => ?_⟩
    rcases List.mem_cons.1 hu with rfl | hu
    · omega
    · have := h3 u hu; omega
theorem par_len (p : PV) : (parT p).length ≤ 1 + 3 * (p.nm.length + vm p.vs) ∧ (smlP p ∨ 1000000 < (parT p).length) ∧ 1 ≤ (parT p).length := by
  obtain ⟨h1, h2, h3⟩ := vs_len 61 p.vs
  rw [parT]
  simp only [List.length_cons, List.length_append]
  refine ⟨by omega, ?_, by omega⟩
  by_cases h : 1000000 < p.nm.length + (vsT 61 p.vs).length + 1
  · exact Or.inr h
  · exact Or.inl ⟨by omega, by omega, fun v hv => by have := h3 v hv; omega⟩
theorem ps_snoc : ∀ (a : List PV) (p : PV), (psT (a ++ [p])).length = (psT a).length + (parT p).length
  | [], p => by simp [psT]
  | x :: a, p => by rw [List.cons_append, psT, psT, List.length_append, List.length_append, ps_snoc a p]; omega
theorem ps_sml : ∀ (ps : List PV), (psT ps).length ≤ 1000000 → ps.length ≤ (psT ps).length ∧ ∀ p ∈ ps, smlP p
  | [], _ => by simp
  | p :: ps, h => by
    rw [psT, List.length_append] at h ⊢
    obtain ⟨_, h2, h3⟩ := par_len p
    obtain ⟨g1, g2⟩ := ps_sml ps (by omega)
    refine ⟨by simp only [List.length_cons]; omega, fun q hq => ?_⟩
    rcases List.mem_cons.1 hq with rfl | hq
    · rcases h2 with h2 | h2
      · exact h2
      · omega
    · exact g2 q hq
theorem pg_len : ∀ (f : Nat) (S : List UInt8) (acc ps : List PV) (R : List UInt8), pgL f S acc = some (ps, R) → (psT ps).length + 3 * R.length ≤ (psT acc).length + 3 * S.length
  | 0, S, acc, ps, R, h => by cases h
  | f + 1, [], acc, ps, R, h => by
    rw [pgL] at h
    injection h with h
    injection h with h1 h2
    rw [h1, ← h2]
    omega
  | f + 1, c :: T, acc, ps, R, h => by
    rw [pgL] at h
    split at h
    · split at h
      · cases h
      · rename_i p R' hp
        have h1 := rp_len hp
        have h2 := pg_len f R' _ ps R h
        have h3 := (par_len p).1
        rw [ps_snoc] at h2
        simp only [List.length_cons]
        omega
    · injection h with h
      injection h with h1 h2
      rw [h1, ← h2]
      omega
def lw (l : LV) : Nat := (lineF l).length
theorem lw_eq (l : LV) : lw l = l.nm.length + (psT l.ps).length + 1 + l.vl.length := by
  rw [lw, lineF]; simp only [List.length_append, List.length_cons]; omega
theorem lnX_len {S : List UInt8} {l : LV} (h : lnX S = some l) : lw l ≤ 3 * S.length := by
  rw [lnX] at h
  have h0 := hdtl_len [58, 59] S
  split at h
  · cases h
  · split at h
    · cases h
    · cases h
    · rename_i ps c T hp
      split at h
      · injection h with h
        have h1 := pg_len _ _ _ _ _ hp
        simp only [psT, List.length_nil, List.length_cons] at h1
        rw [← h, lw_eq]
        simp only
        omega
      · cases h
def lws (ls : List LV) : Nat := (ls.map lw).sum
theorem lws_app (a b : List LV) : lws (a ++ b) = lws a + lws b := by simp [lws]
theorem lws_mem {ls : List LV} {l : LV} (h : l ∈ ls) : lw l ≤ lws ls := by
  obtain ⟨a, b, rfl⟩ := List.append_of_mem h
  rw [lws_app]
  simp only [lws, List.map_cons, List.sum_cons]
  omega
def tln (T : List (List UInt8)) : Nat := (T.map List.length).sum
theorem lns_len : ∀ (T : List (List UInt8)) (acc xs : List LV), lnsG T acc = some xs → lws xs ≤ lws acc + 3 * tln T ∧ xs.length = acc.length + T.length
  | [], acc, xs, h => by
    rw [lnsG] at h
    injection h with h
    rw [h]; simp [tln]
  | t :: T, acc, xs, h => by
    rw [lnsG] at h
    split at h
    · cases h
    · rename_i l hl
      obtain ⟨h1, h2⟩ := lns_len T _ xs h
      have h3 := lnX_len hl
      rw [lws_app] at h1
      simp only [lws, List.map_cons, List.map_nil, List.sum_cons, List.sum_nil, tln] at h1 ⊢
      simp only [List.length_append, List.length_cons, List.length_nil] at h2 ⊢
      constructor <;> omega
theorem unf_tln : ∀ (n : Nat) (S P : List UInt8), S.length ≤ n → tln (Fld.unfG P S) ≤ P.length + S.length
  | 0, S, P, h => by
    have : S = [] := List.eq_nil_of_length_eq_zero (by omega)
    subst this
    rw [Fld.unf_nil, Fld.fin]
    split
    · simp [tln]
    · simp [tln]
  | n + 1, [], P, _ => by
    rw [Fld.unf_nil, Fld.fin]
    split
    · simp [tln]
    · simp [tln]
  | n + 1, c :: T, P, h => by
    have hT : T.length ≤ n := by simpa using h
    by_cases h1 : c = 13
    · subst h1
      rw [Fld.unf_cr]
      have := unf_tln n T P hT
      simp only [List.length_cons]; omega
    · by_cases h2 : c = 10
      · subst h2
        cases hbl : Fld.blank T.head? with
        | false =>
          rw [Fld.unf_lf P T hbl]
          have := unf_tln n T [] hT
          simp only [tln, List.map_cons, List.sum_cons, List.length_cons, List.length_nil] at this ⊢
          omega
        | true =>
          cases T with
          | nil => cases hbl
          | cons d T =>
            have hd : d = 32 ∨ d = 9 := by
              rw [Fld.blank, Bool.or_eq_true] at hbl
              rcases hbl with q | q
              · left; simpa using q
              · right; simpa using q
            rw [Fld.unf_fold P T hd]
            have := unf_tln n T P (by simp only [List.length_cons] at hT; omega)
            simp only [List.length_cons]; omega
      · rw [Fld.unf_any P T h1 h2]
        have := unf_tln n T (P ++ [c]) hT
        simp only [List.length_append, List.length_cons, List.length_nil] at this ⊢; omega
/-! ### Components -/
def cw (c : CV) : Nat := 12 + 2 * c.nm.length + lws c.ls
def cws (C : List CV) : Nat := (C.map cw).sum
theorem cws_app (a b : List CV) : cws (a ++ b) = cws a + cws b := by simp [cws]
theorem cws_mem {C : List CV} {c : CV} (h : c ∈ C) : cw c ≤ cws C := by
  obtain ⟨a, b, rfl⟩ := List.append_of_mem h
  rw [cws_app]
  simp only [cws, List.map_cons, List.sum_cons]
  omega
theorem cws_mod (f : CV → CV) (m : Nat) (hf : ∀ c, cw (f c) ≤ cw c + m) : ∀ (C : List CV) (k : Nat), cws (C.modify k f) ≤ cws C + m
  | [], k => by cases k <;> simp [cws]
  | c :: C, 0 => by
    show cws (f c :: C) ≤ cws (c :: C) + m
    have := hf c
    simp only [cws, List.map_cons, List.sum_cons]
    omega
  | c :: C, k + 1 => by
    show cws (c :: C.modify k f) ≤ cws (c :: C) + m
    have := cws_mod f m hf C k
    simp only [cws, List.map_cons, List.sum_cons] at this ⊢
    omega
theorem smN_len {a b : List UInt8} (h : smN a b = true) : a.length = b.length := by rw [smN] at h; exact (of_decide_eq_true h).1
theorem bd_cws : ∀ (xs : List LV) (C : List CV) (K : List Nat) (C' : List CV), bdG xs C K = some C' → cws C' ≤ cws C + 2 * lws xs
  | [], C, K, C', h => by
    rw [bdG] at h
    split at h
    · injection h with h
      subst h
      omega
    · cases h
  | x :: xs, C, K, C', h => by
    have hl : lws (x :: xs) = lw x + lws xs := by simp [lws]
    rw [hl]
    rw [bd_cons] at h
    split at h
    · cases h
    · rename_i hps
      split at h
      · rename_i hb
        split at h
        · cases h
        · have := bd_cws xs _ _ C' h
          rw [cws_app] at this
          have e1 : cws [⟨x.vl, [], 0⟩] = 12 + 2 * x.vl.length := by simp [cws, cw, lws]
          have e2 := smN_len hb
          have e3 : bgL.length = 5 := rfl
          have e4 := lw_eq x
          omega
      · cases K with
        | nil => cases h
        | cons k K =>
          simp only at h
          split at h
          · split at h
            · have := bd_cws xs _ _ C' h
              have e := cws_mod (setO ((C.length : Int) - 1 - k)) 0 (fun c => Nat.le_refl _) C k
              omega
            · cases h
          · have := bd_cws xs _ _ C' h
            have e := cws_mod (addL x) (lw x) (fun c => by show cw (addL x c) ≤ _; rw [cw, cw, addL]; simp only; rw [lws_app]; simp only [lws, List.map_cons, List.map_nil, List.sum_cons, List.sum_nil]; omega) C k
            omega
/-! ### The lines that are written -/
def pot (L : List CV) (K : Stk) : Nat := (K.map (fun x => 4 + (nmAt L x.1).length)).sum
theorem pot_app (L : List CV) (a b : Stk) : pot L (a ++ b) = pot L a + pot L b := by simp [pot]
theorem ends_lws (L : List CV) : ∀ K : Stk, lws (K.map (enV L)) = pot L K
  | [] => rfl
  | x :: K => by
    have := ends_lws L K
    have e : lw (enV L x) = 4 + (nmAt L x.1).length := by
      rw [lw_eq]; show enL.length + (psT []).length + 1 + (nmAt L x.1).length = _
      rw [psT]; show 3 + 0 + 1 + _ = _; omega
    simp only [lws, pot, List.map_cons, List.sum_cons] at this ⊢
    rw [this, e]
theorem bg_lw (nm : List UInt8) : lw ⟨bgL, [], nm⟩ = 6 + nm.length := by
  rw [lw_eq]; show bgL.length + (psT []).length + 1 + nm.length = _
  rw [psT]; show 5 + 0 + 1 + _ = _; omega
theorem nm_pln {S : List UInt8} (h : nmB S = true) : plnB S = true := by
  rw [nmB, Bool.and_eq_true] at h
  rw [plnB, List.all_eq_true]
  intro c hc
  have h1 := List.all_eq_true.1 h.2 c hc
  have h2 : ∀ k < 256, Fm.okB [45] (UInt8.ofNat k) = true → (!ctlB (UInt8.ofNat k)) = true := by decide +kernel
  have h3 := h2 c.toNat c.toNat_lt
  rw [UInt8.ofNat_toNat] at h3
  exact h3 h1
theorem ln_wrap {M nm : List UInt8} (hM : nmB M = true) (h : nmB nm = true) : lnB ⟨M, [], nm⟩ = true := by
  rw [lnB, hM, nm_pln h]; rfl
theorem wlG_all (L : List CV) (hL : ∀ c ∈ L, cmpB c = true) : ∀ (cs : List CV) (i : Nat) (K : Stk), L.drop i = cs → (∀ x ∈ K, nmB (nmAt L x.1) = true) → (∀ l ∈ wlG L i K cs, lnB l = true) ∧ lws (wlG L i K cs) ≤ cws cs + pot L K
  | [], i, K, _, _ => by simp [wlG, lws]
  | c :: cs, i, K, hd, hK => by
    have hi : i < L.length := by
      rcases Nat.lt_or_ge i L.length with q | q
      · exact q
      · rw [List.drop_of_length_le q] at hd; cases hd
    rw [List.drop_eq_getElem_cons hi] at hd
    injection hd with hc hcs
    have hcm := hL c (by rw [← hc]; exact List.getElem_mem hi)
    have hnm : nmAt L (i : Int) = c.nm := by rw [nmAt_k L i hi, hc]
    rw [cmpB, Bool.and_eq_true] at hcm
    have hls : ∀ l ∈ c.ls, lnB l = true := fun l hl => by
      have := List.all_eq_true.1 hcm.2 l hl
      rw [linB, Bool.and_eq_true, Bool.and_eq_true] at this
      exact this.2.2
    obtain ⟨K1, hK1⟩ : ∃ x, ((i : Int), (i : Int) + 1 + c.own) :: K = x := ⟨_, rfl⟩
    have k1 : ∀ x ∈ K1, nmB (nmAt L x.1) = true := fun x hx => by
      rw [← hK1] at hx
      rcases List.mem_cons.1 hx with rfl | hx
      · show nmB (nmAt L (i : Int)) = true
        rw [hnm]; exact hcm.1
      · exact hK x hx
    have hsplit : K1.takeWhile (fun x => decide (x.2 = (i : Int) + 1)) ++ lvK K1 ((i : Int) + 1) = K1 := List.takeWhile_append_dropWhile
    have hpot : pot L K1 = 4 + c.nm.length + pot L K := by
      rw [← hK1, pot, List.map_cons, List.sum_cons]
      show 4 + (nmAt L (i : Int)).length + _ = _
      rw [hnm]; rfl
    have hp2 := congrArg (pot L) hsplit
    rw [pot_app, hpot] at hp2
    obtain ⟨g1, g2⟩ := wlG_all L hL cs (i + 1) (lvK K1 ((i : Int) + 1)) hcs (fun x hx => k1 x ((List.dropWhile_sublist _).subset hx))
    rw [wlG, wl1, hK1]
    have e1 : ((i : Int) + 1) = ((i + 1 : Nat) : Int) := by omega
    constructor
    · intro l hl
      rcases List.mem_append.1 hl with hl | hl
      · rcases List.mem_cons.1 hl with rfl | hl
        · exact ln_wrap (by decide) hcm.1
        · rcases List.mem_append.1 hl with hl | hl
          · exact hls l hl
          · obtain ⟨x, hx, rfl⟩ := List.mem_map.1 hl
            exact ln_wrap (by decide) (k1 x ((List.takeWhile_sublist _).subset hx))
      · rw [e1] at hl
        exact g1 l (by rw [e1]; exact hl)
    · rw [lws_app]
      have e2 : lws (⟨bgL, [], c.nm⟩ :: (c.ls ++ (K1.takeWhile (fun x => decide (x.2 = (i : Int) + 1))).map (enV L))) = 6 + c.nm.length + (lws c.ls + pot L (K1.takeWhile (fun x => decide (x.2 = (i : Int) + 1)))) := by
        have : ∀ (x : LV) (xs : List LV), lws (x :: xs) = lw x + lws xs := fun x xs => by simp [lws]
        rw [this, lws_app, ends_lws, bg_lw]
      have e3 : cws (c :: cs) = cw c + cws cs := by simp [cws]
      rw [e2, e3, cw]
      have g3 : lws (wlG L ((i : Int) + 1) (lvK K1 ((i : Int) + 1)) cs) ≤ cws cs + pot L (lvK K1 ((i : Int) + 1)) := by
        have := g2
        rw [← e1] at this
        exact this
      omega
theorem putL_yes : ∀ (ls : List LV) (a : List UInt8), (∀ l ∈ ls, lnB l = true ∧ lw l ≤ 60000) → a.length + 6 * lws ls ≤ 600000 → ls.foldl putW (a, 0) = (a ++ (ls.map fl).flatten, 0)
  | [], a, _, _ => by simp
  | l :: ls, a, h, hb => by
    have hl : lws (l :: ls) = lw l + lws ls := by simp [lws]
    rw [hl] at hb
    obtain ⟨h1, h2⟩ := h l (by simp)
    have h3 := Fld.foldL_len (lineF l)
    have h4 := lw_eq l
    have h5 : (lineF l).length = lw l := rfl
    have e : putW (a, 0) l = (a ++ fl l, 0) := by
      rw [putW, if_neg (by simp), if_neg (by rw [h1]; simp), if_neg (by rw [h5]; omega), if_neg (by simp only; omega)]
      rfl
    have hfl : (fl l).length ≤ 4 * lw l + 2 := h3
    rw [List.foldl_cons, e, putL_yes ls _ (fun x hx => h x (by simp [hx])) (by rw [List.length_append]; omega)]
    simp
theorem txG_yes (L : List CV) : ∀ (cs : List CV) (i : Int) (K : Stk) (a : List UInt8), (∀ l ∈ wlG L i K cs, lnB l = true ∧ lw l ≤ 60000) → a.length + 6 * lws (wlG L i K cs) ≤ 600000 → txG L i K (a, 0) cs = (a ++ ((wlG L i K cs).map fl).flatten, 0)
  | [], i, K, a, _, _ => by simp [txG, wlG]
  | c :: cs, i, K, a, h, hb => by
    rw [wlG, lws_app] at hb
    have h1 : ∀ l ∈ wl1 L i K c, lnB l = true ∧ lw l ≤ 60000 := fun l hl => h l (by rw [wlG]; exact List.mem_append.2 (Or.inl hl))
    have e := putL_yes (wl1 L i K c) a h1 (by omega)
    rw [← cmpW_fold] at e
    have hlen : (((wl1 L i K c).map fl).flatten).length ≤ 6 * lws (wl1 L i K c) := by
      have : ∀ ls : List LV, ((ls.map fl).flatten).length ≤ 6 * lws ls := by
        intro ls
        induction ls with
        | nil => simp
        | cons l ls ih =>
          have hl : lws (l :: ls) = lw l + lws ls := by simp [lws]
          have h3 : (fl l).length ≤ 4 * lw l + 2 := Fld.foldL_len (lineF l)
          have h4 := lw_eq l
          rw [hl, List.map_cons, List.flatten_cons, List.length_append]
          omega
      exact this _
    rw [txG, e, if_neg (by simp)]
    rw [txG_yes L cs _ _ _ (fun l hl => h l (by rw [wlG]; exact List.mem_append.2 (Or.inr hl))) (by rw [List.length_append]; omega), wlG]
    simp
theorem fls_len : ∀ ls : List LV, ((ls.map fl).flatten).length ≤ 6 * lws ls
  | [] => by simp
  | l :: ls => by
    have hl : lws (l :: ls) = lw l + lws ls := by simp [lws]
    have h3 : (fl l).length ≤ 4 * lw l + 2 := Fld.foldL_len (lineF l)
    have h4 := lw_eq l
    have := fls_len ls
    rw [hl, List.map_cons, List.flatten_cons, List.length_append]
    omega
theorem chk_cmp : ∀ (cs : List CV) (i : Int) (K : Stk), chkG i K cs = true → ∀ c ∈ cs, cmpB c = true
  | [], _, _, _, c, hc => by cases hc
  | c :: cs, i, K, h, d, hd => by
    rw [chkG, Bool.and_eq_true] at h
    obtain ⟨h1, h2⟩ := h
    rw [stpB, Bool.and_eq_true, Bool.and_eq_true, Bool.and_eq_true] at h1
    rcases List.mem_cons.1 hd with rfl | hd
    · exact h1.2.2.2
    · exact chk_cmp cs _ _ h2 d hd
/-- What is right and not too large is written. -/
theorem txT_yes {L : List CV} (hc : chkB L = true) (hw : cws L ≤ 60000) : ∃ T, txT L = (T, 0) ∧ T.length ≤ 360000 := by
  have hall : ∀ c ∈ L, cmpB c = true := by
    cases L with
    | nil => cases hc
    | cons x xs =>
      rw [chkB, Bool.and_eq_true] at hc
      exact chk_cmp _ _ _ hc.2
  obtain ⟨h1, h2⟩ := wlG_all L hall L 0 [] rfl (by simp)
  have h3 : pot L [] = 0 := rfl
  rw [h3] at h2
  have e0 : ((0 : Nat) : Int) = 0 := rfl
  rw [e0] at h1 h2
  have h4 := txG_yes L L 0 [] [] (fun l hl => ⟨h1 l hl, by have := lws_mem hl; omega⟩) (by simp only [List.length_nil]; omega)
  have h5 := fls_len (wlG L 0 [] L)
  refine ⟨_, by rw [txT, if_pos hc]; exact h4, ?_⟩
  rw [List.nil_append]
  omega
/-- What reading says. -/
theorem pTr_cases (S : List UInt8) : (∃ e, pTr S = ([], e) ∧ e ≠ 0) ∨ ∃ xs L, pTr S = (L, 0) ∧ lnsG (Fld.unfS S) [] = some xs ∧ bdG xs [] [] = some L ∧ chkB L = true := by
  rw [pTr]
  split
  · cases hx : lnsG (Fld.unfS S) [] with
    | none => exact Or.inl ⟨18, rfl, by decide⟩
    | some xs =>
      show (∃ e, bdR xs = ([], e) ∧ e ≠ 0) ∨ _
      cases hb : bdG xs [] [] with
      | none => exact Or.inl ⟨20, by rw [bdR, hb], by decide⟩
      | some C =>
        cases hch : chkB C with
        | false => exact Or.inl ⟨20, by rw [bdR, hb]; simp only; rw [hch, if_neg (by decide)], by decide⟩
        | true => exact Or.inr ⟨xs, C, by show bdR xs = _; rw [bdR, hb]; simp only; rw [hch, if_pos rfl], rfl, hb, hch⟩
  · exact Or.inl ⟨18, rfl, by decide⟩
theorem lw_sml {l : LV} (hn : l.nm.length ≤ 1000) (h : lw l ≤ 1000000) : smlW l := by
  have h1 := lw_eq l
  obtain ⟨h2, h3⟩ := ps_sml l.ps (by omega)
  exact ⟨⟨hn, by omega, by omega, h3⟩, by omega⟩
theorem lns_sml : ∀ (T : List (List UInt8)) (acc xs : List LV), lnsG T acc = some xs → (∀ l ∈ acc, lnB l = true) → ∀ l ∈ xs, lnB l = true
  | [], acc, xs, h, ha => by
    rw [lnsG] at h
    injection h with h
    rw [← h]; exact ha
  | t :: T, acc, xs, h, ha => by
    rw [lnsG] at h
    split at h
    · cases h
    · rename_i l hl
      refine lns_sml T _ xs h (fun x hx => ?_)
      rcases List.mem_append.1 hx with hx | hx
      · exact ha x hx
      · rw [List.mem_singleton.1 hx]; exact lnX_ok hl
/-- All that a text of at most 3000 signs says: it is small, right, written without fault and read again. -/
theorem reads_all {S : List UInt8} (hS : S.length ≤ 3000) {L : List CV} (h : pTr S = (L, 0)) : chkB L = true ∧ L.length ≤ 1000000 ∧ (∀ c ∈ L, i64B c.own) ∧ (∀ c ∈ L, smlC c) ∧ (∀ c ∈ L, ∀ l ∈ c.ls, smlW l) ∧ ∃ T, txT L = (T, 0) ∧ T.length ≤ 360000 ∧ pTr T = (L, 0) := by
  rcases pTr_cases S with ⟨e, h1, h2⟩ | ⟨xs, L', h1, h2, h3, h4⟩
  · rw [h] at h1; injection h1 with _ h1; exact absurd h1.symm h2
  · rw [h] at h1
    injection h1 with h1 _
    subst h1
    obtain ⟨g1, g2⟩ := lns_len _ _ _ h2
    have g3 := unf_tln S.length S [] (Nat.le_refl _)
    obtain ⟨g4, _⟩ := unf_bd S.length S [] (Nat.le_refl _)
    have g5 := lns_sml _ _ _ h2 (by simp)
    have g6 := bd_cws _ _ _ _ h3
    have g7 : tln (Fld.unfS S) ≤ S.length := by rw [Fld.unfS]; simpa using g3
    have g8 : (Fld.unfS S).length ≤ S.length + 1 := g4
    have e1 : lws [] = 0 := rfl
    have e2 : cws [] = 0 := rfl
    rw [e1] at g1
    rw [e2] at g6
    simp only [List.length_nil] at g2
    have g9 : ∀ x ∈ xs, smlW x := fun x hx => lw_sml (by have := lnB_nm (g5 x hx); omega) (by have := lws_mem hx; omega)
    obtain ⟨k1, k2, k3⟩ := bd_sml h3 (by omega) (fun x hx => (g9 x hx).1)
    obtain ⟨T, t1, t2⟩ := txT_yes h4 (by omega)
    refine ⟨h4, by omega, k2, k3, fun c hc l hl => ?_, T, t1, t2, tree_back t1⟩
    have q1 := lws_mem hl
    have q2 := cws_mem hc
    have q3 : cw c = 12 + 2 * c.nm.length + lws c.ls := rfl
    have q4 := (k3 c hc).2.2 l hl
    exact lw_sml q4.1 (by omega)
end Tre
end Go.Proofs.Ytdakpncfophjnaa
