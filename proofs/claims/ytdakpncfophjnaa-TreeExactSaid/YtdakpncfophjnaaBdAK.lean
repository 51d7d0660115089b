/-
  Several texts in one (TrS, TrAA, TrAB).
-/
import Derived.Test.YtdakpncfophjnaaBdAI
/-
  Package tree, plain words: how large what is read is when it is written again.
-/
namespace Go.Proofs.Ytdakpncfophjnaa
open Go.RowKit
namespace Tre
open Lin CutB Cel Ap
open Opn (TxtV)
/-! ### A line that was read -/
def vm : List (List UInt8) → Nat
  | [] => 0
  | v :: vs => v.length + 1 + vm vs
theorem vm_snoc : ∀ (a : List (List UInt8)) (v : List UInt8), vm (a ++ [v]) = vm a + v.length + 1
  | [], v => by simp [vm]
  | x :: a, v => by rw [List.cons_append, vm, vm, vm_snoc a v]; omega
theorem hdtl_len (C S : List UInt8) : (hdT C S).length + (tlT C S).length = S.length := by
  have := congrArg List.length (hd_tl C S)
  rw [List.length_append] at this
  exact this
theorem pos_len {S : List UInt8} (h : ¬ S = []) : 1 ≤ S.length := by
  cases S with
  | nil => exact absurd rfl h
  | cons _ _ => simp
theorem rv_len {S v R : List UInt8} (h : rvL S = some (v, R)) : v.length + R.length ≤ S.length := by
  cases S with
  | nil => cases h
  | cons c T =>
    rw [rvL] at h
    split at h
    · split at h
      · cases h
      · rename_i hne
        injection h with h
        injection h with h1 h2
        have := hdtl_len [34] T
        have := pos_len hne
        rw [← h1, ← h2, List.length_tail]
        simp only [List.length_cons]
        omega
    · split at h
      · cases h
      · injection h with h
        injection h with h1 h2
        have := hdtl_len [58, 59, 44] (c :: T)
        rw [← h1, ← h2]
        omega
theorem rvg_len : ∀ (f : Nat) (S : List UInt8) (acc vs : List (List UInt8)) (R : List UInt8), rvG f S acc = some (vs, R) → vm vs + R.length ≤ vm acc + S.length + 1
  | 0, S, acc, vs, R, h => by cases h
  | f + 1, S, acc, vs, R, h => by
    rw [rvG] at h
    split at h
    · cases h
    · cases h
    · rename_i v c T hv
      have h1 := rv_len hv
      simp only [List.length_cons] at h1
      split at h
      · have := rvg_len f T _ vs R h
        rw [vm_snoc] at this
        omega
      · injection h with h
        injection h with h2 h3
        rw [← h2, ← h3, vm_snoc]
        simp only [List.length_cons]
        omega
theorem rp_len {S R : List UInt8} {p : PV} (h : rpL S = some (p, R)) : p.nm.length + vm p.vs + R.length ≤ S.length := by
  rw [rpL] at h
  split at h
  · cases h
  · rename_i hne
    have h1 := pos_len hne
    have h2 := hdtl_len [61] S
    cases hg : rvG (S.length + 1) (tlT [61] S).tail [] with
    | none => rw [hg] at h; cases h
    | some q =>
      obtain ⟨vs, R'⟩ := q
      rw [hg, rpO] at h
      injection h with h
      injection h with h3 h4
      have h5 := rvg_len _ _ _ _ _ hg
      rw [List.length_tail, vm] at h5
      rw [← h3, ← h4]
      simp only
      omega
theorem val_len (v : List UInt8) : v.length ≤ (valT v).length ∧ (valT v).length ≤ v.length + 2 := by
  rw [valT]
  split
  · simp only [List.length_cons, List.length_append, List.length_nil]; omega
  · omega
theorem vs_len : ∀ (m : UInt8) (vs : List (List UInt8)), (vsT m vs).length ≤ 3 * vm vs ∧ vs.length ≤ (vsT m vs).length ∧ ∀ v ∈ vs, v.length ≤ (vsT m vs).length
  | _, [] => by simp [vsT, vm]
  | m, v :: vs => by
    obtain ⟨h1, h2, h3⟩ := vs_len 44 vs
    obtain ⟨g1, g2⟩ := val_len v
    rw [vsT, vm]
    simp only [List.length_cons, List.length_append]
    refine ⟨by omega, by omega, fun u hu => ?_⟩
    rcases List.mem_cons.1 hu with rfl | hu
    · omega
    · have := h3 u hu; omega
theorem par_len (p : PV) : (parT p).length ≤ 1 + 3 * (p.nm.length + vm p.vs) ∧ (smlP p ∨ 1000000 < (parT p).length) ∧ 1 ≤ (parT p).length := by
  obtain ⟨h1, h2, h3⟩ := vs_len 61 p.vs
  rw [parT]
  simp only [List.length_cons, List.length_append]
  refine ⟨by omega, ?_, by omega⟩
  by_cases h : 1000000 < p.nm.length + (vsT 61 p.vs).length + 1
  · exact Or.inr h
  · exact Or.inl ⟨by omega, by omega, fun v hv => by have := h3 v hv; omega⟩
theorem ps_snoc : ∀ (a : List PV) (p : PV), (psT (a ++ [p])).length = (psT a).length + (parT p).length
  | [], p => by simp [psT]
  | x :: a, p => by rw [List.cons_append, psT, psT, List.length_append, List.length_append, ps_snoc a p]; omega
theorem ps_sml : ∀ (ps : List PV), (psT ps).length ≤ 1000000 → ps.length ≤ (psT ps).length ∧ ∀ p ∈ ps, smlP p
  | [], _ => by simp
  | p :: ps, h => by
    rw [psT, List.length_append] at h ⊢
    obtain ⟨_, h2, h3⟩ := par_len p
    obtain ⟨g1, g2⟩ := ps_sml ps (by omega)
    refine ⟨by simp only [List.length_cons]; omega, fun q hq => ?_⟩
    rcases List.mem_cons.1 hq with rfl | hq
    · rcases h2 with h2 | h2
      · exact h2
      · omega
    · exact g2 q hq
theorem pg_len : ∀ (f : Nat) (S : List UInt8) (acc ps : List PV) (R : List UInt8), pgL f S acc = some (ps, R) → (psT ps).length + 3 * R.length ≤ (psT acc).length + 3 * S.length
  | 0, S, acc, ps, R, h => by cases h
  | f + 1, [], acc, ps, R, h => by
    rw [pgL] at h
    injection h with h
    injection h with h1 h2
    rw [h1, ← h2]
    omega
  | f + 1, c :: T, acc, ps, R, h => by
    rw [pgL] at h
    split at h
    · split at h
      · cases h
      · rename_i p R' hp
        have h1 := rp_len hp
        have h2 := pg_len f R' _ ps R h
        have h3 := (par_len p).1
        rw [ps_snoc] at h2
        simp only [List.length_cons]
        omega
    · injection h with h
      injection h with h1 h2
      rw [h1, ← h2]
      omega
def lw (l : LV) : Nat := (lineF l).length
theorem lw_eq (l : LV) : lw l = l.nm.length + (psT l.ps).length + 1 + l.vl.length := by
  rw [lw, lineF]; simp only [List.length_append, List.length_cons]; omega
theorem lnX_len {S : List UInt8} {l : LV} (h : lnX S = some l) : lw l ≤ 3 * S.length := by
  rw [lnX] at h
  have h0 := hdtl_len [58, 59] S
  split at h
  · cases h
  · split at h
    · cases h
    · cases h
    · rename_i ps c T hp
      split at h
      · injection h with h
        have h1 := pg_len _ _ _ _ _ hp
        simp only [psT, List.length_nil, List.length_cons] at h1
        rw [← h, lw_eq]
        simp only
        omega
      · cases h
def lws (ls : List LV) : Nat := (ls.map lw).sum
theorem lws_app (a b : List LV) : lws (a ++ b) = lws a + lws b := by simp [lws]
theorem lws_mem {ls : List LV} {l : LV} (h : l ∈ ls) : lw l ≤ lws ls := by
  obtain ⟨a, b, rfl⟩ := List.append_of_mem h
  rw [lws_app]
  simp only [lws, List.map_cons, List.sum_cons]
  omega
def tln (T : List (List UInt8)) : Nat := (T.map List.length).sum
theorem lns_len : ∀ (T : List (List UInt8)) (acc xs : List LV), lnsG T acc = some xs → lws xs ≤ lws acc + 3 * tln T ∧ xs.length = acc.length + T.length
  | [], acc, xs, h => by
    rw [lnsG] at h
    injection h with h
    rw [h]; simp [tln]
  | t :: T, acc, xs, h => by
    rw [lnsG] at h
    split at h
    · cases h
    · rename_i l hl
      obtain ⟨h1, h2⟩ := lns_len T _ xs h
      have h3 := lnX_len hl
      rw [lws_app] at h1
      simp only [lws, List.map_cons, List.map_nil, List.sum_cons, List.sum_nil, tln] at h1 ⊢
      simp only [List.length_append, List.length_cons, List.length_nil] at h2 ⊢
      constructor <;> omega
theorem unf_tln : ∀ (n : Nat) (S P : List UInt8), S.length ≤ n → tln (Fld.unfG P S) ≤ P.length + S.length
  | 0, S, P, h => by
    have : S = [] := List.eq_nil_of_length_eq_zero (by omega)
    subst this
    rw [Fld.unf_nil, Fld.fin]
    split
    · simp [tln]
    · simp [tln]
  | n + 1, [], P, _ => by
    rw [Fld.unf_nil, Fld.fin]
    split
    · simp [tln]
    · simp [tln]
  | n + 1, c :: T, P, h => by
    have hT : T.length ≤ n := by simpa using h
    by_cases h1 : c = 13
    · subst h1
      rw [Fld.unf_cr]
      have := unf_tln n T P hT
      simp only [List.length_cons]; omega
    · by_cases h2 : c = 10
      · subst h2
        cases hbl : Fld.blank T.head? with
        | false =>
          rw [Fld.unf_lf P T hbl]
          have := unf_tln n T [] hT
          simp only [tln, List.map_cons, List.sum_cons, List.length_cons, List.length_nil] at this ⊢
          omega
        | true =>
          cases T with
          | nil => cases hbl
          | cons d T =>
            have hd : d = 32 ∨ d = 9 := by
              rw [Fld.blank, Bool.or_eq_true] at hbl
              rcases hbl with q | q
              · left; simpa using q
              · right; simpa using q
            rw [Fld.unf_fold P T hd]
            have := unf_tln n T P (by simp only [List.length_cons] at hT; omega)
            simp only [List.length_cons]; omega
      · rw [Fld.unf_any P T h1 h2]
        have := unf_tln n T (P ++ [c]) hT
        simp only [List.length_append, List.length_cons, List.length_nil] at this ⊢; omega
/-! ### Components -/
def cw (c : CV) : Nat := 12 + 2 * c.nm.length + lws c.ls
def cws (C : List CV) : Nat := (C.map cw).sum
theorem cws_app (a b : List CV) : cws (a ++ b) = cws a + cws b := by simp [cws]
theorem cws_mem {C : List CV} {c : CV} (h : c ∈ C) : cw c ≤ cws C := by
  obtain ⟨a, b, rfl⟩ := List.append_of_mem h
  rw [cws_app]
  simp only [cws, List.map_cons, List.sum_cons]
  omega
theorem cws_mod (f : CV → CV) (m : Nat) (hf : ∀ c, cw (f c) ≤ cw c + m) : ∀ (C : List CV) (k : Nat), cws (C.modify k f) ≤ cws C + m
  | [], k => by cases k <;> simp [cws]
  | c :: C, 0 => by
    show cws (f c :: C) ≤ cws (c :: C) + m
    have := hf c
    simp only [cws, List.map_cons, List.sum_cons]
    omega
  | c :: C, k + 1 => by
    show cws (c :: C.modify k f) ≤ cws (c :: C) + m
    have := cws_mod f m hf C k
    simp only [cws, List.map_cons, List.sum_cons] at this ⊢
    omega
theorem smN_len {a b : List UInt8} (h : smN a b = true) : a.length = b.length := by rw [smN] at h; exact (of_decide_eq_true h).1
theorem bd_cws : ∀ (xs : List LV) (C : List CV) (K : List Nat) (C' : List CV), bdG xs C K = some C' → cws C' ≤ cws C + 2 * lws xs
  | [], C, K, C', h => by
    rw [bdG] at h
    split at h
    · injection h with h
      subst h
      omega
    · cases h
  | x :: xs, C, K, C', h => by
    have hl : lws (x :: xs) = lw x + lws xs := by simp [lws]
    rw [hl]
    rw [bd_cons] at h
    split at h
    · cases h
    · rename_i hps
      split at h
      · rename_i hb
        split at h
        · cases h
        · have := bd_cws xs _ _ C' h
          rw [cws_app] at this
          have e1 : cws [⟨x.vl, [], 0⟩] = 12 + 2 * x.vl.length := by simp [cws, cw, lws]
          have e2 := smN_len hb
          have e3 : bgL.length = 5 := rfl
          have e4 := lw_eq x
          omega
      · cases K with
        | nil => cases h
        | cons k K =>
          simp only at h
          split at h
          · split at h
            · have := bd_cws xs _ _ C' h
              have e := cws_mod (setO ((C.length : Int) - 1 - k)) 0 (fun c => Nat.le_refl _) C k
              omega
            · cases h
          · have := bd_cws xs _ _ C' h
            have e := cws_mod (addL x) (lw x) (fun c => by show cw (addL x c) ≤ _; rw [cw, cw, addL]; simp only; rw [lws_app]; simp only [lws, List.map_cons, List.map_nil, List.sum_cons, List.sum_nil]; omega) C k
            omega
/-! ### The lines that are written -/
def pot (L : List CV) (K : Stk) : Nat := (K.map (fun x => 4 + (nmAt L x.1).length)).sum
theorem pot_app (L : List CV) (a b : Stk) : pot L (a ++ b) = pot L a + pot L b := by simp [pot]
theorem ends_lws (L : List CV) : ∀ K : Stk, lws (K.map (enV L)) = pot L K
  | [] => rfl
  | x :: K => by
    have := ends_lws L K
    have e : lw (enV L x) = 4 + (nmAt L x.1).length := by
      rw [lw_eq]; show enL.length + (psT []).length + 1 + (nmAt L x.1).length = _
      rw [psT]; show 3 + 0 + 1 + _ = _; omega
    simp only [lws, pot, List.map_cons, List.sum_cons] at this ⊢
    rw [this, e]
theorem bg_lw (nm : List UInt8) : lw ⟨bgL, [], nm⟩ = 6 + nm.length := by
  rw [lw_eq]; show bgL.length + (psT []).length + 1 + nm.length = _
  rw [psT]; show 5 + 0 + 1 + _ = _; omega
theorem nm_pln {S : List UInt8} (h : nmB S = true) : plnB S = true := by
  rw [nmB, Bool.and_eq_true] at h
  rw [plnB, List.all_eq_true]
  intro c hc
  have h1 := List.all_eq_true.1 h.2 c hc
  have h2 : ∀ k < 256, Fm.okB [45] (UInt8.ofNat k) = true → (!ctlB (UInt8.ofNat k)) = true := by decide +kernel
  have h3 := h2 c.toNat c.toNat_lt
  rw [UInt8.ofNat_toNat] at h3
  exact h3 h1
theorem ln_wrap {M nm : List UInt8} (hM : nmB M = true) (h : nmB nm = true) : lnB ⟨M, [], nm⟩ = true := by
  rw [lnB, hM, nm_pln h]; rfl
theorem wlG_all (L : List CV) (hL : ∀ c ∈ L, cmpB c = true) : ∀ (cs : List CV) (i : Nat) (K : Stk), L.drop i = cs → (∀ x ∈ K, nmB (nmAt L x.1) = true) → (∀ l ∈ wlG L i K cs, lnB l = true) ∧ lws (wlG L i K cs) ≤ cws cs + pot L K
  | [], i, K, _, _ => by simp [wlG, lws]
  | c :: cs, i, K, hd, hK => by
    have hi : i < L.length := by
      rcases Nat.lt_or_ge i L.length with q | q
      · exact q
      · rw [List.drop_of_length_le q] at hd; cases hd
    rw [List.drop_eq_getElem_cons hi] at hd
    injection hd with hc hcs
    have hcm := hL c (by rw [← hc]; exact List.getElem_mem hi)
    have hnm : nmAt L (i : Int) = c.nm := by rw [nmAt_k L i hi, hc]
    rw [cmpB, Bool.and_eq_true] at hcm
    have hls : ∀ l ∈ c.ls, lnB l = true := fun l hl => by
      have := List.all_eq_true.1 hcm.2 l hl
      rw [linB, Bool.and_eq_true, Bool.and_eq_true] at this
      exact this.2.2
    obtain ⟨K1, hK1⟩ : ∃ x, ((i : Int), (i : Int) + 1 + c.own) :: K = x := ⟨_, rfl⟩
    have k1 : ∀ x ∈ K1, nmB (nmAt L x.1) = true := fun x hx => by
      rw [← hK1] at hx
      rcases List.mem_cons.1 hx with rfl | hx
      · show nmB (nmAt L (i : Int)) = true
        rw [hnm]; exact hcm.1
      · exact hK x hx
    have hsplit : K1.takeWhile (fun x => decide (x.2 = (i : Int) + 1)) ++ lvK K1 ((i : Int) + 1) = K1 := List.takeWhile_append_dropWhile
    have hpot : pot L K1 = 4 + c.nm.length + pot L K := by
      rw [← hK1, pot, List.map_cons, List.sum_cons]
      show 4 + (nmAt L (i : Int)).length + _ = _
      rw [hnm]; rfl
    have hp2 := congrArg (pot L) hsplit
    rw [pot_app, hpot] at hp2
    obtain ⟨g1, g2⟩ := wlG_all L hL cs (i + 1) (lvK K1 ((i : Int) + 1)) hcs (fun x hx => k1 x ((List.dropWhile_sublist _).subset hx))
    rw [wlG, wl1, hK1]
    have e1 : ((i : Int) + 1) = ((i + 1 : Nat) : Int) := by omega
    constructor
    · intro l hl
      rcases List.mem_append.1 hl with hl | hl
      · rcases List.mem_cons.1 hl with rfl | hl
        · exact ln_wrap (by decide) hcm.1
        · rcases List.mem_append.1 hl with hl | hl
          · exact hls l hl
          · obtain ⟨x, hx, rfl⟩ := List.mem_map.1 hl
            exact ln_wrap (by decide) (k1 x ((List.takeWhile_sublist _).subset hx))
      · rw [e1] at hl
        exact g1 l (by rw [e1]; exact hl)
    · rw [lws_app]
      have e2 : lws (⟨bgL, [], c.nm⟩ :: (c.ls ++ (K1.takeWhile (fun x => decide (x.2 = (i : Int) + 1))).map (enV L))) = 6 + c.nm.length + (lws c.ls + pot L (K1.takeWhile (fun x => decide (x.2 = (i : Int) + 1)))) := by
        have : ∀ (x : LV) (xs : List LV), lws (x :: xs) = lw x + lws xs := fun x xs => by simp [lws]
        rw [this, lws_app, ends_lws, bg_lw]
      have e3 : cws (c :: cs) = cw c + cws cs := by simp [cws]
      rw [e2, e3, cw]
      have g3 : lws (wlG L ((i : Int) + 1) (lvK K1 ((i : Int) + 1)) cs) ≤ cws cs + pot L (lvK K1 ((i : Int) + 1)) := by
        have := g2
        rw [← e1] at this
        exact this
      omega
theorem putL_yes : ∀ (ls : List LV) (a : List UInt8), (∀ l ∈ ls, lnB l = true ∧ lw l ≤ 60000) → a.length + 6 * lws ls ≤ 600000 → ls.foldl putW (a, 0) = (a ++ (ls.map fl).flatten, 0)
  | [], a, _, _ => by simp
  | l :: ls, a, h, hb => by
    have hl : lws (l :: ls) = lw l + lws ls := by simp [lws]
    rw [hl] at hb
    obtain ⟨h1, h2⟩ := h l (by simp)
    have h3 := Fld.foldL_len (lineF l)
    have h4 := lw_eq l
    have h5 : (lineF l).length = lw l := rfl
    have e : putW (a, 0) l = (a ++ fl l, 0) := by
      rw [putW, if_neg (by simp), if_neg (by rw [h1]; simp), if_neg (by rw [h5]; omega), if_neg (by simp only; omega)]
      rfl
    have hfl : (fl l).length ≤ 4 * lw l + 2 := h3
    rw [List.foldl_cons, e, putL_yes ls _ (fun x hx => h x (by simp [hx])) (by rw [List.length_append]; omega)]
    simp
theorem txG_yes (L : List CV) : ∀ (cs : List CV) (i : Int) (K : Stk) (a : List UInt8), (∀ l ∈ wlG L i K cs, lnB l = true ∧ lw l ≤ 60000) → a.length + 6 * lws (wlG L i K cs) ≤ 600000 → txG L i K (a, 0) cs = (a ++ ((wlG L i K cs).map fl).flatten, 0)
  | [], i, K, a, _, _ => by simp [txG, wlG]
  | c :: cs, i, K, a, h, hb => by
    rw [wlG, lws_app] at hb
    have h1 : ∀ l ∈ wl1 L i K c, lnB l = true ∧ lw l ≤ 60000 := fun l hl => h l (by rw [wlG]; exact List.mem_append.2 (Or.inl hl))
    have e := putL_yes (wl1 L i K c) a h1 (by omega)
    rw [← cmpW_fold] at e
    have hlen : (((wl1 L i K c).map fl).flatten).length ≤ 6 * lws (wl1 L i K c) := by
      have : ∀ ls : List LV, ((ls.map fl).flatten).length ≤ 6 * lws ls := by
        intro ls
        induction ls with
        | nil => simp
        | cons l ls ih =>
          have hl : lws (l :: ls) = lw l + lws ls := by simp [lws]
          have h3 : (fl l).length ≤ 4 * lw l + 2 := Fld.foldL_len (lineF l)
          have h4 := lw_eq l
          rw [hl, List.map_cons, List.flatten_cons, List.length_append]
          omega
      exact this _
    rw [txG, e, if_neg (by simp)]
    rw [txG_yes L cs _ _ _ (fun l hl => h l (by rw [wlG]; exact List.mem_append.2 (Or.inr hl))) (by rw [List.length_append]; omega), wlG]
    simp
theorem fls_len : ∀ ls : List LV, ((ls.map fl).flatten).length ≤ 6 * lws ls
  | [] => by simp
  | l :: ls => by
    have hl : lws (l :: ls) = lw l + lws ls := by simp [lws]
    have h3 : (fl l).length ≤ 4 * lw l + 2 := Fld.foldL_len (lineF l)
    have h4 := lw_eq l
    have := fls_len ls
    rw [hl, List.map_cons, List.flatten_cons, List.length_append]
    omega
theorem chk_cmp : ∀ (cs : List CV) (i : Int) (K : Stk), chkG i K cs = true → ∀ c ∈ cs, cmpB c = true
  | [], _, _, _, c, hc => by cases hc
  | c :: cs, i, K, h, d, hd => by
    rw [chkG, Bool.and_eq_true] at h
    obtain ⟨h1, h2⟩ := h
    rw [stpB, Bool.and_eq_true, Bool.and_eq_true, Bool.and_eq_true] at h1
    rcases List.mem_cons.1 hd with rfl | hd
    · exact h1.2.2.2
    · exact chk_cmp cs _ _ h2 d hd
/-- What is right and not too large is written. -/
theorem txT_yes {L : List CV} (hc : chkB L = true) (hw : cws L ≤ 60000) : ∃ T, txT L = (T, 0) ∧ T.length ≤ 360000 := by
  have hall : ∀ c ∈ L, cmpB c = true := by
    cases L with
    | nil => cases hc
    | cons x xs =>
      rw [chkB, Bool.and_eq_true] at hc
      exact chk_cmp _ _ _ hc.2
  obtain ⟨h1, h2⟩ := wlG_all L hall L 0 [] rfl (by simp)
  have h3 : pot L [] = 0 := rfl
  rw [h3] at h2
  have e0 : ((0 : Nat) : Int) = 0 := rfl
  rw [e0] at h1 h2
  have h4 := txG_yes L L 0 [] [] (fun l hl => ⟨h1 l hl, by have := lws_mem hl; omega⟩) (by simp only [List.length_nil]; omega)
  have h5 := fls_len (wlG L 0 [] L)
  refine ⟨_, by rw [txT, if_pos hc]; exact h4, ?_⟩
  rw [List.nil_append]
  omega
/-- What reading says. -/
theorem pTr_cases (S : List UInt8) : (∃ e, pTr S = ([], e) ∧ e ≠ 0) ∨ ∃ xs L, pTr S = (L, 0) ∧ lnsG (Fld.unfS S) [] = some xs ∧ bdG xs [] [] = some L ∧ chkB L = true := by
  rw [pTr]
  split
  · cases hx : lnsG (Fld.unfS S) [] with
    | none => exact Or.inl ⟨18, rfl, by decide⟩
    | some xs =>
      show (∃ e, bdR xs = ([], e) ∧ e ≠ 0) ∨ _
      cases hb : bdG xs [] [] with
      | none => exact Or.inl ⟨20, by rw [bdR, hb], by decide⟩
      | some C =>
        cases hch : chkB C with
        | false => exact Or.inl ⟨20, by rw [bdR, hb]; simp only; rw [hch, if_neg (by decide)], by decide⟩
        | true => exact Or.inr ⟨xs, C, by show bdR xs = _; rw [bdR, hb]; simp only; rw [hch, if_pos rfl], rfl, hb, hch⟩
  · exact Or.inl ⟨18, rfl, by decide⟩
theorem lw_sml {l : LV} (hn : l.nm.length ≤ 1000) (h : lw l ≤ 1000000) : smlW l := by
  have h1 := lw_eq l
  obtain ⟨h2, h3⟩ := ps_sml l.ps (by omega)
  exact ⟨⟨hn, by omega, by omega, h3⟩, by omega⟩
theorem lns_sml : ∀ (T : List (List UInt8)) (acc xs : List LV), lnsG T acc = some xs → (∀ l ∈ acc, lnB l = true) → ∀ l ∈ xs, lnB l = true
  | [], acc, xs, h, ha => by
    rw [lnsG] at h
    injection h with h
    rw [← h]; exact ha
  | t :: T, acc, xs, h, ha => by
    rw [lnsG] at h
    split at h
    · cases h
    · rename_i l hl
      refine lns_sml T _ xs h (fun x hx => ?_)
      rcases List.mem_append.1 hx with hx | hx
      · exact ha x hx
      · rw [List.mem_singleton.1 hx]; exact lnX_ok hl
/-- All that a text of at most 3000 signs says: it is small, right, written without fault and read again. -/
theorem reads_all {S : List UInt8} (hS : S.length ≤ 3000) {L : List CV} (h : pTr S = (L, 0)) : chkB L = true ∧ L.length ≤ 1000000 ∧ (∀ c ∈ L, i64B c.own) ∧ (∀ c ∈ L, smlC c) ∧ (∀ c ∈ L, ∀ l ∈ c.ls, smlW l) ∧ ∃ T, txT L = (T, 0) ∧ T.length ≤ 360000 ∧ pTr T = (L, 0) := by
  rcases pTr_cases S with ⟨e, h1, h2⟩ | ⟨xs, L', h1, h2, h3, h4⟩
  · rw [h] at h1; injection h1 with _ h1; exact absurd h1.symm h2
  · rw [h] at h1
    injection h1 with h1 _
    subst h1
    obtain ⟨g1, g2⟩ := lns_len _ _ _ h2
    have g3 := unf_tln S.length S [] (Nat.le_refl _)
    obtain ⟨g4, _⟩ := unf_bd S.length S [] (Nat.le_refl _)
    have g5 := lns_sml _ _ _ h2 (by simp)
    have g6 := bd_cws _ _ _ _ h3
    have g7 : tln (Fld.unfS S) ≤ S.length := by rw [Fld.unfS]; simpa using g3
    have g8 : (Fld.unfS S).length ≤ S.length + 1 := g4
    have e1 : lws [] = 0 := rfl
    have e2 : cws [] = 0 := rfl
    rw [e1] at g1
    rw [e2] at g6
    simp only [List.length_nil] at g2
    have g9 : ∀ x ∈ xs, smlW x := fun x hx => lw_sml (by have := lnB_nm (g5 x hx); omega) (by have := lws_mem hx; omega)
    obtain ⟨k1, k2, k3⟩ := bd_sml h3 (by omega) (fun x hx => (g9 x hx).1)
    obtain ⟨T, t1, t2⟩ := txT_yes h4 (by omega)
    refine ⟨h4, by omega, k2, k3, fun c hc l hl => ?_, T, t1, t2, tree_back t1⟩
    have q1 := lws_mem hl
    have q2 := cws_mem hc
    have q3 : cw c = 12 + 2 * c.nm.length + lws c.ls := rfl
    have q4 := (k3 c hc).2.2 l hl
    exact lw_sml q4.1 (by omega)
end Tre
end Go.Proofs.Ytdakpncfophjnaa
/-
  Package tree, plain words: a tree's text as the reference writes it is what the program writes.
-/
namespace Go.Proofs.Ytdakpncfophjnaa
open Go.RowKit
namespace Tre
open Lin CutB Cel Ap
/-- Lines as the reference writes them. -/
def rlW : List LV → List UInt8 → Option (List UInt8)
  | [], out => some out
  | l :: ls, out => if 60000 < (lineF l).length ∨ 600000 < out.length then none else rlW ls (out ++ fl l)
/-- The ends that stand at a place. -/
def pops (L : List CV) (i : Int) (K : Stk) : List LV := (K.takeWhile (fun x => decide (x.2 = i))).map (enV L)
def rtG (L : List CV) : Int → Stk → List UInt8 → List CV → Option (List UInt8)
  | i, K, out, [] => some (out ++ ((pops L i K).map fl).flatten)
  | i, K, out, c :: cs => match rlW c.ls (out ++ ((pops L i K).map fl).flatten ++ fl ⟨bgL, [], c.nm⟩) with
    | none => none
    | some o => rtG L (i + 1) ((i, i + 1 + c.own) :: lvK K i) o cs
def rtE : Option (List UInt8) → WS
  | none => ([], 2)
  | some o => if 600000 < o.length then ([], 2) else (o, 0)
def rtT (L : List CV) : WS := rtE (rtG L 0 [] [] L)
/-! ### All lines, in their order -/
def wrG (L : List CV) : Int → Stk → List CV → List LV
  | i, K, [] => pops L i K
  | i, K, c :: cs => pops L i K ++ ⟨bgL, [], c.nm⟩ :: (c.ls ++ wrG L (i + 1) ((i, i + 1 + c.own) :: lvK K i) cs)
theorem wr_wl (L : List CV) : ∀ (cs : List CV) (i : Int) (K : Stk), wrG L i K cs = pops L i K ++ wlG L i (lvK K i) cs
  | [], i, K => by simp [wrG, wlG]
  | c :: cs, i, K => by
    rw [wrG, wr_wl L cs, wlG, wl1]
    simp [pops]
def bigB (cs : List CV) : Bool := cs.any (fun c => c.ls.any (fun l => decide (60000 < (lineF l).length)))
theorem rlW_cases : ∀ (ls : List LV) (out : List UInt8), (rlW ls out = none ∧ (ls.any (fun l => decide (60000 < (lineF l).length)) = true ∨ 600000 < (out ++ (ls.map fl).flatten).length)) ∨ (rlW ls out = some (out ++ (ls.map fl).flatten) ∧ ls.any (fun l => decide (60000 < (lineF l).length)) = false)
  | [], out => Or.inr ⟨by simp [rlW], rfl⟩
  | l :: ls, out => by
    rw [rlW, List.any_cons]
    by_cases h1 : 60000 < (lineF l).length
    · rw [if_pos (Or.inl h1), decide_eq_true h1]
      exact Or.inl ⟨rfl, Or.inl rfl⟩
    · rw [decide_eq_false h1, Bool.false_or]
      by_cases h2 : 600000 < out.length
      · rw [if_pos (Or.inr h2)]
        exact Or.inl ⟨rfl, Or.inr (by rw [List.length_append]; omega)⟩
      · rw [if_neg (by omega)]
        rcases rlW_cases ls (out ++ fl l) with ⟨a, b⟩ | ⟨a, b⟩
        · refine Or.inl ⟨a, ?_⟩
          rcases b with b | b
          · exact Or.inl b
          · exact Or.inr (by simpa using b)
        · exact Or.inr ⟨by rw [a]; simp, b⟩
theorem rtG_cases (L : List CV) : ∀ (cs : List CV) (i : Int) (K : Stk) (out : List UInt8), (rtG L i K out cs = none ∧ (bigB cs = true ∨ 600000 < (out ++ ((wrG L i K cs).map fl).flatten).length)) ∨ (rtG L i K out cs = some (out ++ ((wrG L i K cs).map fl).flatten) ∧ bigB cs = false)
  | [], i, K, out => Or.inr ⟨by rw [rtG, wrG], rfl⟩
  | c :: cs, i, K, out => by
    have eb : bigB (c :: cs) = (c.ls.any (fun l => decide (60000 < (lineF l).length)) || bigB cs) := rfl
    rw [rtG, wrG, eb]
    rcases rlW_cases c.ls (out ++ ((pops L i K).map fl).flatten ++ fl ⟨bgL, [], c.nm⟩) with ⟨a, b⟩ | ⟨a, b⟩
    · rw [a]
      refine Or.inl ⟨rfl, ?_⟩
      rcases b with b | b
      · rw [b]; exact Or.inl rfl
      · refine Or.inr ?_
        simp only [List.map_append, List.map_cons, List.flatten_append, List.flatten_cons, List.length_append] at b ⊢
        omega
    · rw [a, b, Bool.false_or]
      simp only
      rcases rtG_cases L cs (i + 1) ((i, i + 1 + c.own) :: lvK K i) (out ++ ((pops L i K).map fl).flatten ++ fl ⟨bgL, [], c.nm⟩ ++ (c.ls.map fl).flatten) with ⟨p, q⟩ | ⟨p, q⟩
      · refine Or.inl ⟨p, ?_⟩
        rcases q with q | q
        · exact Or.inl q
        · refine Or.inr ?_
          simp only [List.map_append, List.map_cons, List.flatten_append, List.flatten_cons, List.length_append] at q ⊢
          omega
      · refine Or.inr ⟨?_, q⟩
        rw [p]
        simp
theorem rtT_eq (L : List CV) : rtT L = if bigB L = true ∨ 600000 < (((wlG L 0 [] L).map fl).flatten).length then ([], 2) else (((wlG L 0 [] L).map fl).flatten, 0) := by
  have e : wrG L 0 [] L = wlG L 0 [] L := by rw [wr_wl]; rfl
  rw [rtT]
  rcases rtG_cases L L 0 [] [] with ⟨a, b⟩ | ⟨a, b⟩
  · rw [a, if_pos (by rw [e] at b; simpa using b)]
    rfl
  · rw [a, b, e, List.nil_append, rtE]
    by_cases h : 600000 < (((wlG L 0 [] L).map fl).flatten).length
    · rw [if_pos h, if_pos (Or.inr h)]
    · rw [if_neg h, if_neg (by rintro (q | q); cases q; exact h q)]
/-! ### The program's -/
def bgW (W : List LV) : Bool := W.any (fun l => decide (60000 < (lineF l).length))
theorem putW_stuck : ∀ (ls : List LV) (s : WS), s.2 ≠ 0 → (ls.foldl putW s).2 = s.2
  | [], _, _ => rfl
  | l :: ls, s, h => by
    have e : putW s l = s := by rw [putW, if_pos h]
    rw [List.foldl_cons, e, putW_stuck ls s h]
theorem putL_cases : ∀ (ls : List LV) (a : List UInt8), (∀ l ∈ ls, lnB l = true) → a.length ≤ 600000 → ((ls.foldl putW (a, 0)).2 = 2 ∧ (bgW ls = true ∨ 600000 < (a ++ (ls.map fl).flatten).length)) ∨ (ls.foldl putW (a, 0) = (a ++ (ls.map fl).flatten, 0) ∧ bgW ls = false ∧ (a ++ (ls.map fl).flatten).length ≤ 600000)
  | [], a, _, ha => Or.inr ⟨by simp, rfl, by simpa using ha⟩
  | l :: ls, a, h, ha => by
    have hl := h l (by simp)
    have eb : bgW (l :: ls) = (decide (60000 < (lineF l).length) || bgW ls) := rfl
    rw [List.foldl_cons, eb]
    by_cases h1 : 60000 < (lineF l).length
    · have e : putW (a, 0) l = (a, 2) := by rw [putW, if_neg (by simp), if_neg (by rw [hl]; simp), if_pos h1]
      rw [e, decide_eq_true h1]
      exact Or.inl ⟨putW_stuck ls _ (by simp), Or.inl rfl⟩
    · rw [decide_eq_false h1, Bool.false_or]
      by_cases h2 : 600000 < a.length + (Fld.foldL (lineF l)).length
      · have e : putW (a, 0) l = (a, 2) := by rw [putW, if_neg (by simp), if_neg (by rw [hl]; simp), if_neg h1, if_pos h2]
        rw [e]
        refine Or.inl ⟨putW_stuck ls _ (by simp), Or.inr ?_⟩
        have : (fl l).length = (Fld.foldL (lineF l)).length := rfl
        rw [List.map_cons, List.flatten_cons, List.length_append, List.length_append]
        omega
      · have e : putW (a, 0) l = (a ++ fl l, 0) := by rw [putW, if_neg (by simp), if_neg (by rw [hl]; simp), if_neg h1, if_neg h2]; rfl
        rw [e]
        have e2 : a ++ ((l :: ls).map fl).flatten = (a ++ fl l) ++ (ls.map fl).flatten := by simp
        rw [e2]
        exact putL_cases ls (a ++ fl l) (fun x hx => h x (by simp [hx])) (by rw [List.length_append]; show _ + (Fld.foldL (lineF l)).length ≤ _; omega)
theorem txG_cases (L : List CV) : ∀ (cs : List CV) (i : Int) (K : Stk) (a : List UInt8), (∀ l ∈ wlG L i K cs, lnB l = true) → a.length ≤ 600000 → (txG L i K (a, 0) cs = ([], 2) ∧ (bgW (wlG L i K cs) = true ∨ 600000 < (a ++ ((wlG L i K cs).map fl).flatten).length)) ∨ (txG L i K (a, 0) cs = (a ++ ((wlG L i K cs).map fl).flatten, 0) ∧ bgW (wlG L i K cs) = false ∧ (a ++ ((wlG L i K cs).map fl).flatten).length ≤ 600000)
  | [], i, K, a, _, ha => Or.inr ⟨by simp [txG, wlG], rfl, by simpa [wlG] using ha⟩
  | c :: cs, i, K, a, h, ha => by
    have hb : ∀ a b : List LV, bgW (a ++ b) = (bgW a || bgW b) := fun a b => List.any_append
    rw [txG, cmpW_fold, wlG, hb]
    rcases putL_cases (wl1 L i K c) a (fun l hl => h l (by rw [wlG]; exact List.mem_append.2 (Or.inl hl))) ha with ⟨p, q⟩ | ⟨p, q, r⟩
    · rw [if_pos (by rw [p]; simp), p]
      refine Or.inl ⟨rfl, ?_⟩
      rcases q with q | q
      · exact Or.inl (by rw [q]; rfl)
      · refine Or.inr ?_
        rw [List.map_append, List.flatten_append, ← List.append_assoc, List.length_append]
        omega
    · rw [p, if_neg (by simp), q, Bool.false_or]
      rw [List.map_append, List.flatten_append, ← List.append_assoc]
      exact txG_cases L cs _ _ _ (fun l hl => h l (by rw [wlG]; exact List.mem_append.2 (Or.inr hl))) r
theorem bgW_map {α : Type} (f : α → LV) (hf : ∀ x, (lineF (f x)).length ≤ 60000) : ∀ K : List α, bgW (K.map f) = false
  | [] => rfl
  | x :: K => by
    have e : bgW ((x :: K).map f) = (decide (60000 < (lineF (f x)).length) || bgW (K.map f)) := rfl
    rw [e, bgW_map f hf K, decide_eq_false (by have := hf x; omega)]
    rfl
theorem bgW_wl (L : List CV) (hL : ∀ c ∈ L, c.nm.length ≤ 1000) : ∀ (cs : List CV) (i : Int) (K : Stk), (∀ c ∈ cs, c.nm.length ≤ 1000) → bgW (wlG L i K cs) = bigB cs
  | [], _, _, _ => rfl
  | c :: cs, i, K, h => by
    have hb : ∀ a b : List LV, bgW (a ++ b) = (bgW a || bgW b) := fun a b => List.any_append
    have e1 : bgW (⟨bgL, [], c.nm⟩ :: (c.ls ++ (((i, i + 1 + c.own) :: K).takeWhile (fun x => decide (x.2 = i + 1))).map (enV L))) = (decide (60000 < (lineF ⟨bgL, [], c.nm⟩).length) || bgW (c.ls ++ (((i, i + 1 + c.own) :: K).takeWhile (fun x => decide (x.2 = i + 1))).map (enV L))) := rfl
    have hn := h c (by simp)
    have e2 : (lineF ⟨bgL, [], c.nm⟩).length = 6 + c.nm.length := bg_lw c.nm
    have e3 : ∀ x : Int × Int, (lineF (enV L x)).length ≤ 60000 := fun x => by
      have e : (lineF (enV L x)).length = 4 + (nmAt L x.1).length := by
        have := ends_lws L [x]
        simp only [lws, pot, List.map_cons, List.map_nil, List.sum_cons, List.sum_nil] at this
        have : lw (enV L x) = 4 + (nmAt L x.1).length := by omega
        exact this
      have : (nmAt L x.1).length ≤ 1000 := by
        rw [nmAt]
        cases hx : L[x.1.toNat]? with
        | none => simp
        | some d => exact hL d (List.mem_of_getElem? hx)
      omega
    rw [wlG, hb, wl1, e1, hb, bgW_map _ e3, decide_eq_false (by rw [e2]; omega), bgW_wl L hL cs _ _ (fun d hd => h d (by simp [hd]))]
    rw [Bool.false_or, Bool.or_false]
    rfl
theorem nmB_len {S : List UInt8} (h : nmB S = true) : S.length ≤ 1000 := by
  rw [nmB, Bool.and_eq_true] at h
  have := of_decide_eq_true h.1
  omega
/-- Of a right tree the reference's text is the program's. -/
theorem tx_same {L : List CV} (hc : chkB L = true) : txT L = rtT L := by
  have hall : ∀ c ∈ L, cmpB c = true := by
    cases L with
    | nil => cases hc
    | cons x xs =>
      rw [chkB, Bool.and_eq_true] at hc
      exact chk_cmp _ _ _ hc.2
  have hnm : ∀ c ∈ L, c.nm.length ≤ 1000 := fun c h => by
    have := hall c h
    rw [cmpB, Bool.and_eq_true] at this
    exact nmB_len this.1
  obtain ⟨h1, _⟩ := wlG_all L hall L 0 [] rfl (by simp)
  rw [rtT_eq, txT, if_pos hc, ← bgW_wl L hnm L 0 [] hnm]
  rcases txG_cases L L 0 [] [] h1 (by simp) with ⟨a, b⟩ | ⟨a, b, c⟩
  · rw [a, if_pos (by simpa using b)]
  · rw [a, List.nil_append]
    rw [List.nil_append] at c
    rw [if_neg (by rw [b]; rintro (q | q); cases q; omega)]
end Tre
end Go.Proofs.Ytdakpncfophjnaa
/-
  Package tree, plain words: what the reference says of lines is what the program says.
-/
namespace Go.Proofs.Ytdakpncfophjnaa
open Go.RowKit
namespace Tre
open Lin CutB Cel Ap
def rbG : List LV → List CV → List Nat → Option (List CV)
  | [], C, K => if C = [] ∨ K ≠ [] then none else some C
  | x :: xs, C, K =>
    if (smN x.nm bgL || smN x.nm enL) = true ∧ (x.ps ≠ [] ∨ nmB x.vl = false) then none else
    if smN x.nm bgL = true then (if (K = [] ∧ C ≠ []) ∨ 8 ≤ K.length then none else rbG xs (C ++ [⟨x.vl, [], 0⟩]) (C.length :: K)) else
    match K with
    | [] => none
    | k :: K' =>
      if smN x.nm enL = true then (if smN (nmAt C k) x.vl = true then rbG xs (C.modify k (setO ((C.length : Int) - k - 1))) K' else none)
      else rbG xs (C.modify k (addL x)) K
def rbR (xs : List LV) : List CV × Int := match rbG xs [] [] with
  | none => ([], 20)
  | some C => (C, 0)
def rpT (S : List UInt8) : List CV × Int :=
  if Fld.okCR S = true then (match lnsG (Fld.unfS S) [] with | none => ([], 18) | some xs => rbR xs) else ([], 18)
theorem rb_cons (x : LV) (xs : List LV) (C : List CV) (K : List Nat) : rbG (x :: xs) C K = if (smN x.nm bgL || smN x.nm enL) = true ∧ (x.ps ≠ [] ∨ nmB x.vl = false) then none else
    if smN x.nm bgL = true then (if (K = [] ∧ C ≠ []) ∨ 8 ≤ K.length then none else rbG xs (C ++ [⟨x.vl, [], 0⟩]) (C.length :: K)) else
    match K with
    | [] => none
    | k :: K' =>
      if smN x.nm enL = true then (if smN (nmAt C k) x.vl = true then rbG xs (C.modify k (setO ((C.length : Int) - k - 1))) K' else none)
      else rbG xs (C.modify k (addL x)) K := by cases K <;> rfl
theorem smN_sym {a b : List UInt8} : smN a b = smN b a := by
  rw [smN, smN, Bool.eq_iff_iff, decide_eq_true_iff, decide_eq_true_iff]
  exact ⟨fun h => ⟨h.1.symm, h.2.symm⟩, fun h => ⟨h.1.symm, h.2.symm⟩⟩
theorem ok_small (c : UInt8) : Fm.okB [45] (Wrd.smB c) = Fm.okB [45] c := by
  have h : ∀ k < 256, Fm.okB [45] (Wrd.smB (UInt8.ofNat k)) = Fm.okB [45] (UInt8.ofNat k) := by decide +kernel
  have h3 := h c.toNat c.toNat_lt
  rwa [UInt8.ofNat_toNat] at h3
theorem nm_small (a : List UInt8) : nmB (Wrd.smL a) = nmB a := by
  rw [nmB, nmB, Wrd.smL, List.length_map, Fm.onlyB, Fm.onlyB, List.all_map]
  congr 2
  funext c
  exact ok_small c
theorem nm_alike {a b : List UInt8} (h : smN a b = true) : nmB a = nmB b := by
  rw [smN] at h
  rw [← nm_small a, ← nm_small b, (of_decide_eq_true h).2]
/-- Where a component's own end. -/
def eOf (D : List CV) (k : Nat) : Int := (k : Int) + 1 + ownAt D k
structure Bld (C : List CV) (K : List Nat) (D : List CV) : Prop where
  len : C.length ≤ D.length
  same : ∀ j, j < C.length → j ∉ K → D[j]? = C[j]?
  nm : ∀ j : Nat, j < C.length → nmAt D j = nmAt C j
  asc : (K.map (eOf D)).Pairwise (· ≤ ·)
  lo : ∀ k ∈ K, (C.length : Int) ≤ eOf D k ∧ eOf D k ≤ D.length
  last : K = [] → C ≠ [] → D.length = C.length
  bot : ∀ k, K.getLast? = some k → eOf D k = D.length
structure Kok (C : List CV) (K : List Nat) : Prop where
  lt : ∀ k ∈ K, k < C.length
  srt : K.Pairwise (· > ·)
theorem nmAt_mod (C : List CV) (k : Nat) (f : CV → CV) (hf : ∀ c, (f c).nm = c.nm) (j : Nat) : nmAt (C.modify k f) j = nmAt C j := by
  rw [nmAt, nmAt, Int.toNat_natCast, List.getElem?_modify]
  split
  · cases h : C[j]? with
    | none => rfl
    | some c => simp [hf]
  · cases h : C[j]? with
    | none => rfl
    | some c => rfl
theorem mod_at (C : List CV) (k : Nat) (f : CV → CV) (h : k < C.length) : (C.modify k f)[k]? = some (f C[k]) := by
  rw [List.getElem?_modify, List.getElem?_eq_getElem h]; simp
theorem mod_no (C : List CV) (k j : Nat) (f : CV → CV) (h : k ≠ j) : (C.modify k f)[j]? = C[j]? := by
  rw [List.getElem?_modify]
  cases C[j]? <;> simp [h]
theorem Kok.cons {C : List CV} {K : List Nat} (h : Kok C K) (c : CV) : Kok (C ++ [c]) (C.length :: K) :=
  ⟨fun k hk => by
    rw [List.length_append]
    rcases List.mem_cons.1 hk with rfl | hk
    · simp
    · have := h.lt k hk; omega, by
    rw [List.pairwise_cons]
    exact ⟨fun k hk => h.lt k hk, h.srt⟩⟩
theorem Kok.mod {C : List CV} {K : List Nat} (h : Kok C K) (k : Nat) (f : CV → CV) : Kok (C.modify k f) K :=
  ⟨fun j hj => by rw [List.length_modify]; exact h.lt j hj, h.srt⟩
theorem Kok.tail {C : List CV} {k : Nat} {K : List Nat} (h : Kok C (k :: K)) : Kok C K :=
  ⟨fun j hj => h.lt j (by simp [hj]), (List.pairwise_cons.1 h.srt).2⟩
theorem bld_of : ∀ (xs : List LV) (C : List CV) (K : List Nat) (D : List CV), Kok C K → bdG xs C K = some D → Bld C K D
  | [], C, K, D, hk, h => by
    rw [bdG] at h
    split at h
    · rename_i hK
      injection h with h
      subst h hK
      exact ⟨Nat.le_refl _, fun _ _ _ => rfl, fun _ _ => rfl, List.Pairwise.nil, by simp, fun _ _ => rfl, by simp⟩
    · cases h
  | x :: xs, C, K, D, hk, h => by
    rw [bd_cons] at h
    split at h
    · cases h
    split at h
    · split at h
      · cases h
      rename_i hKC
      have g := bld_of xs _ _ D (hk.cons _) h
      have hl := g.len
      rw [List.length_append] at hl
      have hl' : C.length + 1 ≤ D.length := hl
      refine ⟨by omega, fun j hj hjk => ?_, fun j hj => ?_, ?_, fun k hkk => ?_, fun e1 e2 => absurd ⟨e1, e2⟩ hKC, fun k hkk => ?_⟩
      · rw [g.same j (by rw [List.length_append]; omega) (by
          intro hm
          rcases List.mem_cons.1 hm with rfl | hm
          · omega
          · exact hjk hm), List.getElem?_append_left hj]
      · rw [g.nm j (by rw [List.length_append]; omega), nmAt, nmAt, Int.toNat_natCast, List.getElem?_append_left hj]
      · have := g.asc
        rw [List.map_cons, List.pairwise_cons] at this
        exact this.2
      · have := g.lo k (by simp [hkk])
        rw [List.length_append] at this
        exact ⟨by have := this.1; simp at this; omega, this.2⟩
      · refine g.bot k ?_
        cases K with
        | nil => cases hkk
        | cons y K => rw [List.getLast?_cons_cons]; exact hkk
    · cases K with
      | nil => cases h
      | cons k K =>
        simp only at h
        have hkn : k ∉ K := fun hm => by
          have := (List.pairwise_cons.1 hk.srt).1 k hm
          omega
        have hkl := hk.lt k (by simp)
        split at h
        · split at h
          · have g := bld_of xs _ _ D (hk.tail.mod k _) h
            have el : (C.modify k (setO ((C.length : Int) - 1 - k))).length = C.length := List.length_modify ..
            have hend : eOf D k = C.length := by
              have := g.same k (by rw [el]; exact hkl) hkn
              rw [mod_at _ _ _ hkl] at this
              rw [eOf, ownAt, Int.toNat_natCast, this]
              show (k : Int) + 1 + ((C.length : Int) - 1 - k) = _
              omega
            have hl := g.len
            rw [el] at hl
            refine ⟨hl, fun j hj hjk => ?_, fun j hj => ?_, ?_, fun j hj => ?_, (fun e => by cases e), fun j hj => ?_⟩
            · rw [g.same j (by rw [el]; exact hj) (fun hm => hjk (by simp [hm])), mod_no _ _ _ _ (fun e => hjk (by simp [e]))]
            · rw [g.nm j (by rw [el]; exact hj)]; exact nmAt_mod C k (setO _) (fun _ => rfl) j
            · rw [List.map_cons, List.pairwise_cons]
              refine ⟨fun y hy => ?_, g.asc⟩
              obtain ⟨j, hj, rfl⟩ := List.mem_map.1 hy
              have := (g.lo j hj).1
              rw [el] at this
              rw [hend]; exact this
            · rcases List.mem_cons.1 hj with rfl | hj
              · rw [hend]; exact ⟨by omega, by omega⟩
              · have := g.lo j hj
                rw [el] at this
                exact this
            · cases K with
              | nil =>
                simp at hj
                subst hj
                have := g.last rfl (by intro e; have := congrArg List.length e; rw [el] at this; have : C.length = 0 := this; omega)
                rw [el] at this
                rw [hend, this]
              | cons y K =>
                rw [List.getLast?_cons_cons] at hj
                exact g.bot j hj
          · cases h
        · have g := bld_of xs _ _ D (hk.mod k _) h
          have el : (C.modify k (addL x)).length = C.length := List.length_modify ..
          have hl := g.len
          rw [el] at hl
          refine ⟨hl, fun j hj hjk => ?_, fun j hj => ?_, g.asc, fun j hj => ?_, (fun e => by cases e), g.bot⟩
          · rw [g.same j (by rw [el]; exact hj) hjk, mod_no _ _ _ _ (fun e => hjk (by simp [e]))]
          · rw [g.nm j (by rw [el]; exact hj)]; exact nmAt_mod C k (addL x) (fun _ => rfl) j
          · have := g.lo j hj
            rw [el] at this
            exact this
theorem mem_mod {f : CV → CV} {k : Nat} {C : List CV} {c : CV} (h : c ∈ C.modify k f) : c ∈ C ∨ ∃ d ∈ C, c = f d := by
  obtain ⟨j, hj⟩ := List.mem_iff_getElem?.1 h
  rw [List.getElem?_modify] at hj
  cases hd : C[j]? with
  | none => rw [hd] at hj; cases hj
  | some d =>
    rw [hd] at hj
    have hm := List.mem_of_getElem? hd
    injection hj with hj
    split at hj
    · exact Or.inr ⟨d, hm, hj.symm⟩
    · exact Or.inl (by rw [← hj]; exact hm)
theorem bd_lins : ∀ (xs : List LV) (C : List CV) (K : List Nat) (D : List CV), bdG xs C K = some D → (∀ x ∈ xs, lnB x = true) → (∀ c ∈ C, ∀ l ∈ c.ls, linB l = true) → ∀ c ∈ D, ∀ l ∈ c.ls, linB l = true
  | [], C, K, D, h, _, hC => by
    rw [bdG] at h
    split at h
    · injection h with h
      subst h
      exact hC
    · cases h
  | x :: xs, C, K, D, h, hx, hC => by
    have hx' : ∀ y ∈ xs, lnB y = true := fun y hy => hx y (by simp [hy])
    rw [bd_cons] at h
    split at h
    · cases h
    split at h
    · split at h
      · cases h
      refine bd_lins xs _ _ D h hx' (fun c hc => ?_)
      rcases List.mem_append.1 hc with hc | hc
      · exact hC c hc
      · rw [List.mem_singleton.1 hc]; simp
    · rename_i hbg
      cases K with
      | nil => cases h
      | cons k K =>
        simp only at h
        split at h
        · split at h
          · refine bd_lins xs _ _ D h hx' (fun c hc => ?_)
            rcases mem_mod hc with hc | ⟨d, hd, rfl⟩
            · exact hC c hc
            · exact hC d hd
          · cases h
        · rename_i hen
          refine bd_lins xs _ _ D h hx' (fun c hc => ?_)
          rcases mem_mod hc with hc | ⟨d, hd, rfl⟩
          · exact hC c hc
          · intro l hl
            rcases List.mem_append.1 hl with hl | hl
            · exact hC d hd l hl
            · rw [List.mem_singleton.1 hl, linB, hx x (by simp)]
              simp at hbg hen
              rw [hbg, hen]
              rfl
theorem rb_bd : ∀ (xs : List LV) (C : List CV) (K : List Nat) (D : List CV), rbG xs C K = some D → bdG xs C K = some D
  | [], C, K, D, h => by
    rw [rbG] at h
    rw [bdG]
    split at h
    · cases h
    · rename_i hh
      rw [if_pos (by
        cases K with
        | nil => rfl
        | cons y K => exact absurd (Or.inr (by simp)) hh)]
      exact h
  | x :: xs, C, K, D, h => by
    rw [rb_cons] at h
    rw [bd_cons]
    split at h
    · cases h
    rename_i h1
    rw [if_neg (fun e => h1 ⟨e.1, Or.inl e.2⟩)]
    split at h
    · rename_i h2
      rw [if_pos h2]
      split at h
      · cases h
      rename_i h3
      rw [if_neg (fun e => h3 (Or.inl e))]
      exact rb_bd xs _ _ D h
    · rename_i h2
      rw [if_neg h2]
      cases K with
      | nil => cases h
      | cons k K =>
        simp only at h ⊢
        split at h
        · rename_i h3
          rw [if_pos h3]
          split at h
          · rename_i h4
            rw [if_pos (by rw [smN_sym]; exact h4)]
            have e : (C.length : Int) - 1 - k = (C.length : Int) - k - 1 := by omega
            rw [e]
            exact rb_bd xs _ _ D h
          · cases h
        · rename_i h3
          rw [if_neg h3]
          exact rb_bd xs _ _ D h
/-- The chain's stack: ends that stand at the place, then those that are open. -/
def stkOf (D : List CV) (K : List Nat) : Stk := K.map (fun (k : Nat) => ((k : Int), eOf D k))
theorem lv_skip : ∀ (Z KS : Stk) (i : Int), (∀ z ∈ Z, z.2 = i) → lvK (Z ++ KS) i = lvK KS i
  | [], _, _, _ => rfl
  | z :: Z, KS, i, h => by
    rw [List.cons_append, lv_cons, if_pos (h z (by simp)), lv_skip Z KS i (fun y hy => h y (by simp [hy]))]
theorem lv_stk {D : List CV} {K : List Nat} {i : Int} (h : ∀ k ∈ K, i < eOf D k) : lvK (stkOf D K) i = stkOf D K := by
  cases K with
  | nil => rfl
  | cons k K =>
    have := h k (by simp)
    rw [stkOf, List.map_cons, lv_cons, if_neg (by simp only; omega)]
theorem ownAt_get {D : List CV} {i : Nat} (h : i < D.length) : ownAt D i = D[i].own := by
  rw [ownAt, Int.toNat_natCast, List.getElem?_eq_getElem h]; rfl
theorem nmAt_get {D : List CV} {i : Nat} (h : i < D.length) : nmAt D i = D[i].nm := by
  rw [nmAt, Int.toNat_natCast, List.getElem?_eq_getElem h]; rfl
theorem rb_chk : ∀ (xs : List LV) (C : List CV) (K : List Nat) (D : List CV) (Z : Stk), bdG xs C K = some D → Kok C K → (∀ x ∈ xs, lnB x = true) → (∀ c ∈ C, nmB c.nm = true ∧ ∀ l ∈ c.ls, linB l = true) → K.length ≤ 8 → (∀ z ∈ Z, z.2 = (C.length : Int)) → (C ≠ [] ∨ xs ≠ []) →
    rbG xs C K = if chkG C.length (Z ++ stkOf D K) (D.drop C.length) = true then some D else none
  | [], C, K, D, Z, h, _, _, _, _, _, hne => by
    rw [bdG] at h
    split at h
    · rename_i hK
      injection h with h
      subst h hK
      have hC : C ≠ [] := by
        rcases hne with h | h
        · exact h
        · exact absurd rfl h
      rw [rbG, if_neg (by rintro (e | e); exact hC e; exact e rfl), List.drop_length, chkG, if_pos rfl]
    · cases h
  | x :: xs, C, K, D, Z, h, hk, hx, hC, h8, hZ, hne => by
    have h0 := h
    have hx' : ∀ y ∈ xs, lnB y = true := fun y hy => hx y (by simp [hy])
    rw [bd_cons] at h
    split at h
    · cases h
    rename_i hps
    have hps' : (smN x.nm bgL || smN x.nm enL) = true → x.ps = [] := fun e => by
      cases hp : x.ps with
      | nil => rfl
      | cons a b => exact absurd ⟨e, by rw [hp]; simp⟩ hps
    rw [rb_cons]
    split at h
    · rename_i hbg
      split at h
      · cases h
      rename_i hKC
      have hbd := bld_of xs _ _ D (hk.cons _) h
      have hlins := bd_lins (x :: xs) C K D h0 hx (fun c hc => (hC c hc).2)
      have hl : C.length < D.length := by have := hbd.len; rw [List.length_append] at this; have h2 : C.length + 1 ≤ D.length := this; omega
      have hnm : D[C.length].nm = x.vl := by
        rw [← nmAt_get hl, hbd.nm C.length (by simp), nmAt, Int.toNat_natCast]
        simp
      have hcmp : cmpB D[C.length] = nmB x.vl := by
        rw [cmpB, hnm, List.all_eq_true.2 (hlins _ (List.getElem_mem hl)), Bool.and_true]
      have hlo : ∀ k ∈ C.length :: K, ((C.length + 1 : Nat) : Int) ≤ eOf D k ∧ eOf D k ≤ D.length := fun k hkk => by
        have := hbd.lo k hkk
        rw [List.length_append] at this
        exact this
      have hlv : lvK (Z ++ stkOf D K) (C.length : Int) = stkOf D K := by
        rw [lv_skip _ _ _ hZ, lv_stk (fun k hkk => by have := (hlo k (by simp [hkk])).1; omega)]
      have hei : eOf D C.length = (C.length : Int) + 1 + D[C.length].own := by rw [eOf, ownAt_get hl]
      have hown : 0 ≤ D[C.length].own := by have := (hlo C.length (by simp)).1; omega
      have htop : (decide ((C.length : Int) = 0) || decide (D[C.length].own ≤ topE (stkOf D K) - (C.length : Int) - 1)) = true := by
        cases hK : K with
        | nil =>
          have : C = [] := by
            cases hc : C with
            | nil => rfl
            | cons a b => exact absurd ⟨hK, by rw [hc]; simp⟩ hKC
          subst this
          rfl
        | cons k K' =>
          have := hbd.asc
          rw [hK, List.map_cons, List.map_cons, List.pairwise_cons] at this
          have h2 := this.1 (eOf D k) (by simp)
          have e : topE (stkOf D (k :: K')) = eOf D k := rfl
          rw [e, decide_eq_true (show D[C.length].own ≤ eOf D k - (C.length : Int) - 1 by omega), Bool.or_true]
      rw [List.drop_eq_getElem_cons hl, chkG, stpB, hlv, decide_eq_true hown, htop, hcmp]
      have hsl : (stkOf D K).length = K.length := List.length_map ..
      rw [hsl]
      by_cases hv : nmB x.vl = true
      · rw [if_neg (by rintro ⟨_, e | e⟩; exact e (hps' (by rw [hbg]; rfl)); rw [hv] at e; cases e), if_pos hbg, hv]
        by_cases h8' : K.length = 8
        · rw [if_pos (Or.inr (by omega)), decide_eq_true h8']
          rfl
        · rw [if_neg (by rintro (e | e); exact hKC e; omega), decide_eq_false h8']
          have hC2 : ∀ c ∈ C ++ [(⟨x.vl, [], 0⟩ : CV)], nmB c.nm = true ∧ ∀ l ∈ c.ls, linB l = true := fun c hc => by
            rcases List.mem_append.1 hc with hc | hc
            · exact hC c hc
            · rw [List.mem_singleton.1 hc]; exact ⟨hv, by simp⟩
          have g := rb_chk xs _ _ D [] h (hk.cons _) hx' hC2 (by rw [List.length_cons]; omega) (by simp) (Or.inl (by simp))
          have e1 : (C ++ [(⟨x.vl, [], 0⟩ : CV)]).length = C.length + 1 := by simp
          rw [e1] at g
          have e2 : ([] : Stk) ++ stkOf D (C.length :: K) = ((C.length : Int), (C.length : Int) + 1 + D[C.length].own) :: stkOf D K := by
            rw [List.nil_append, ← hei]; rfl
          rw [e2] at g
          rw [g]
          have e3 : ((C.length + 1 : Nat) : Int) = (C.length : Int) + 1 := by omega
          rw [e3]
          rfl
      · have hv' : nmB x.vl = false := by simpa using hv
        rw [if_pos ⟨by rw [hbg]; rfl, Or.inr hv'⟩, hv']
        simp
    · rename_i hbg
      cases K with
      | nil => cases h
      | cons k K =>
        have hkl := hk.lt k (by simp)
        have hckm := (hC _ (List.getElem_mem hkl)).1
        simp only at h
        split at h
        · rename_i hen
          split at h
          · rename_i hsm
            have hnv : nmB x.vl = true := by rw [nm_alike hsm, nmAt_get hkl]; exact hckm
            rw [if_neg (by rintro ⟨_, e | e⟩; exact e (hps' (by rw [hen]; simp)); rw [hnv] at e; cases e), if_neg hbg]
            simp only
            rw [if_pos hen, if_pos (by rw [smN_sym]; exact hsm)]
            have e : (C.length : Int) - k - 1 = (C.length : Int) - 1 - k := by omega
            rw [e]
            have el : (C.modify k (setO ((C.length : Int) - 1 - k))).length = C.length := List.length_modify ..
            have hbd0 := bld_of (x :: xs) C (k :: K) D hk h0
            have hbd := bld_of xs _ _ D (hk.tail.mod k _) h
            have hkn : k ∉ K := fun hm => by
              have := (List.pairwise_cons.1 hk.srt).1 k hm
              omega
            have hend : eOf D k = C.length := by
              have := hbd.same k (by rw [el]; exact hkl) hkn
              rw [mod_at _ _ _ hkl] at this
              rw [eOf, ownAt, Int.toNat_natCast, this]
              show (k : Int) + 1 + ((C.length : Int) - 1 - k) = _
              omega
            have hC2 : ∀ c ∈ C.modify k (setO ((C.length : Int) - 1 - k)), nmB c.nm = true ∧ ∀ l ∈ c.ls, linB l = true := fun c hc => by
              rcases mem_mod hc with hc | ⟨d, hd, rfl⟩
              · exact hC c hc
              · exact hC d hd
            have g := rb_chk xs _ _ D (Z ++ [((k : Int), (C.length : Int))]) h (hk.tail.mod k _) hx' hC2 (by rw [List.length_cons] at h8; omega) (fun z hz => by
              rw [el]
              rcases List.mem_append.1 hz with hz | hz
              · exact hZ z hz
              · rw [List.mem_singleton.1 hz]) (Or.inl (by intro e; have := congrArg List.length e; rw [el] at this; have : C.length = 0 := this; omega))
            rw [g, el]
            have e2 : Z ++ stkOf D (k :: K) = Z ++ [((k : Int), (C.length : Int))] ++ stkOf D K := by
              rw [List.append_assoc, ← hend]; rfl
            rw [e2]
          · cases h
        · rename_i hen
          rw [if_neg (by rintro ⟨e, _⟩; simp at e hbg hen; rcases e with e | e; rw [hbg] at e; cases e; rw [hen] at e; cases e), if_neg hbg]
          simp only
          rw [if_neg hen]
          have el : (C.modify k (addL x)).length = C.length := List.length_modify ..
          have hC2 : ∀ c ∈ C.modify k (addL x), nmB c.nm = true ∧ ∀ l ∈ c.ls, linB l = true := fun c hc => by
            rcases mem_mod hc with hc | ⟨d, hd, rfl⟩
            · exact hC c hc
            · refine ⟨(hC d hd).1, fun l hl => ?_⟩
              rcases List.mem_append.1 hl with hl | hl
              · exact (hC d hd).2 l hl
              · rw [List.mem_singleton.1 hl, linB, hx x (by simp)]
                simp at hbg hen
                rw [hbg, hen]
                rfl
          have g := rb_chk xs _ _ D Z h (hk.mod k _) hx' hC2 h8 (by rw [el]; exact hZ) (Or.inl (by intro e; have := congrArg List.length e; rw [el] at this; have : C.length = 0 := this; omega))
          rw [g, el]
theorem bd_same (xs : List LV) (hx : ∀ x ∈ xs, lnB x = true) : bdR xs = rbR xs := by
  rw [bdR, rbR]
  cases hb : bdG xs [] [] with
  | none =>
    cases hr : rbG xs [] [] with
    | none => rfl
    | some D => rw [rb_bd xs [] [] D hr] at hb; cases hb
  | some D =>
    have hk0 : Kok [] [] := ⟨by simp, List.Pairwise.nil⟩
    cases xs with
    | nil =>
      rw [bdG, if_pos rfl] at hb
      injection hb with hb
      subst hb
      rfl
    | cons x xs =>
      have g := rb_chk (x :: xs) [] [] D [] hb hk0 hx (by simp) (by simp) (by simp) (Or.inr (by simp))
      have hroot : ∃ c cs, D = c :: cs ∧ c.own = (cs.length : Int) := by
        rw [bd_cons] at hb
        split at hb
        · cases hb
        split at hb
        · split at hb
          · cases hb
          have gb := bld_of xs _ _ D (hk0.cons _) hb
          have h1 := gb.bot 0 rfl
          have h2 := gb.len
          cases D with
          | nil => simp at h2
          | cons c cs =>
            refine ⟨c, cs, rfl, ?_⟩
            rw [eOf, ownAt] at h1
            have e : ((c :: cs).length : Int) = (cs.length : Int) + 1 := by simp
            have h3 : ((0 : Nat) : Int) + 1 + c.own = ((c :: cs).length : Int) := h1
            omega
        · cases hb
      obtain ⟨c, cs, rfl, hown⟩ := hroot
      have hg : rbG (x :: xs) [] [] = if chkG 0 [] (c :: cs) = true then some (c :: cs) else none := g
      rw [hg]
      simp only
      rw [chkB, decide_eq_true hown, Bool.true_and]
      cases chkG 0 [] (c :: cs) <;> rfl
theorem pt_same (S : List UInt8) : pTr S = rpT S := by
  rw [pTr, rpT]
  split
  · cases h : lnsG (Fld.unfS S) [] with
    | none => rfl
    | some xs =>
      simp only
      exact bd_same xs (lns_sml _ _ _ h (by simp))
  · rfl
end Tre
end Go.Proofs.Ytdakpncfophjnaa
