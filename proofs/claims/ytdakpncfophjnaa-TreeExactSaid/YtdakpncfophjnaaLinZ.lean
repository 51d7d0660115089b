/-
  LineQuotes: any value may stand between quotes, whether it needs them or not.
-/
import Derived.Test.YtdakpncfophjnaaBdAG
import Derived.Test.YtdakpncfophjnaaBdAI
import Derived.Test.YtdakpncfophjnaaLinN
namespace Go.Proofs.Ytdakpncfophjnaa
open Go.RowKit
namespace Lin
open CutB Cel
open Opn (TxtV)
/-! ### Plain words -/
def mapI {α β : Type} (f : Nat → α → β) : Nat → List α → List β
  | _, [] => []
  | i, a :: l => f i a :: mapI f (i + 1) l
theorem mapI_snoc {α β : Type} (f : Nat → α → β) : ∀ (l : List α) (i k : Nat) (hk : k < l.length), mapI f i (l.take (k + 1)) = mapI f i (l.take k) ++ [f (i + k) l[k]]
  | [], _, _, hk => by simp at hk
  | a :: l, i, 0, _ => by simp [mapI]
  | a :: l, i, k + 1, hk => by
    have := mapI_snoc f l (i + 1) k (by simpa using hk)
    rw [List.take_succ_cons, List.take_succ_cons, mapI, mapI, this]
    simp only [List.cons_append, List.getElem_cons_succ]
    rw [show i + 1 + k = i + (k + 1) by omega]
theorem mapI_len {α β : Type} (f : Nat → α → β) : ∀ (l : List α) (i : Nat), (mapI f i l).length = l.length
  | [], _ => rfl
  | a :: l, i => by rw [mapI, List.length_cons, List.length_cons, mapI_len f l]
def quT (b : Bool) (v : List UInt8) : List UInt8 := if b = true then 34 :: (v ++ [34]) else v
def wsI (f : Nat → Bool) (vs : List (List UInt8)) : List (List UInt8) := mapI (fun j v => quT (f j || qtB v) v) 0 vs
theorem wv_mapI (f : Nat → Bool) : ∀ (vs : List (List UInt8)) (i : Nat), vs.all valB = true → WV (mapI (fun j v => quT (f j || qtB v) v) i vs) vs
  | [], _, _ => trivial
  | v :: vs, i, h => by
    rw [List.all_cons, Bool.and_eq_true] at h
    refine ⟨?_, wv_mapI f vs (i + 1) h.2⟩
    show Wv (quT (f i || qtB v) v) v
    rw [quT]
    split
    · exact wv_quote h.1
    · rename_i q
      have : qtB v = false := by
        cases hq : qtB v with
        | false => rfl
        | true => rw [hq, Bool.or_true] at q; exact absurd rfl q
      exact wv_bare h.1 this
def qfn (a k i j : Nat) : Bool := decide (i = a ∧ j = k)
def qsI (a k : Nat) (ps : List PV) : List (PV × List (List UInt8)) := mapI (fun i p => (p, wsI (qfn a k i) p.vs)) 0 ps
theorem mapI_fst (g : Nat → PV → List (List UInt8)) : ∀ (ps : List PV) (i : Nat), (mapI (fun i p => (p, g i p)) i ps).map (·.1) = ps
  | [], _ => rfl
  | p :: ps, i => by rw [mapI, List.map_cons, mapI_fst g ps]
theorem mapI_all (g : Nat → PV → List (List UInt8)) (Q : PV × List (List UInt8) → Prop) : ∀ (ps : List PV) (i : Nat), (∀ i, ∀ p ∈ ps, Q (p, g i p)) → ∀ q ∈ mapI (fun i p => (p, g i p)) i ps, Q q
  | [], _, _, q, hq => by simp [mapI] at hq
  | p :: ps, i, h, q, hq => by
    rw [mapI] at hq
    rcases List.mem_cons.1 hq with e | e
    · rw [e]; exact h i p (by simp)
    · exact mapI_all g Q ps (i + 1) (fun i x hx => h i x (by simp [hx])) q e
theorem lq_plain (a k : Nat) (l : LV) (hb : lnB l = true) : lnP (l.nm ++ (psW (qsI a k l.ps) ++ 58 :: l.vl)) = (0, l) := by
  obtain ⟨nm, ps, vl⟩ := l
  have e : (qsI a k ps).map (·.1) = ps := mapI_fst _ ps 0
  have hp : ps.all parB = true := by rw [lnB, Bool.and_eq_true, Bool.and_eq_true] at hb; exact hb.2.2
  have := lnX_go nm vl (qsI a k ps) (mapI_all _ okQ ps 0 (fun i p hx => by
    have h := List.all_eq_true.1 hp p hx
    rw [parB, Bool.and_eq_true, Bool.and_eq_true] at h
    exact ⟨h.1, of_decide_eq_true h.2.1, wv_mapI _ p.vs 0 h.2.2⟩)) (by rw [e]; exact hb)
  rw [e] at this
  exact this
theorem psW_app : ∀ (a b : List (PV × List (List UInt8))), psW (a ++ b) = psW a ++ psW b
  | [], _ => rfl
  | p :: a, b => by rw [List.cons_append, psW, psW, psW_app a b, List.append_assoc]
/-- Values as the law writes them: the mark, then commas between. -/
def vsE : List (List UInt8) → List UInt8
  | [] => [61]
  | w :: ws => 61 :: (w ++ vsW 44 ws)
theorem vsW_app : ∀ (a b : List (List UInt8)), vsW 44 (a ++ b) = vsW 44 a ++ vsW 44 b
  | [], _ => rfl
  | w :: a, b => by rw [List.cons_append, vsW, vsW, vsW_app a b]; simp
theorem vsE_snoc (ws : List (List UInt8)) (x : List UInt8) : vsE (ws ++ [x]) = vsE ws ++ ((if ws.length = 0 then [] else [44]) ++ x) := by
  cases ws with
  | nil => simp [vsE, vsW]
  | cons w ws =>
    rw [List.cons_append, vsE, vsE, vsW_app, vsW, vsW, if_neg (by simp)]
    simp
theorem vsE_eq (ws : List (List UInt8)) (h : ws ≠ []) : vsE ws = vsW 61 ws := by
  cases ws with
  | nil => exact absurd rfl h
  | cons w ws => rw [vsE, vsW]
/-! ### How long -/
theorem wsI_len (f : Nat → Bool) : ∀ (vs : List (List UInt8)) (i : Nat), (∀ v ∈ vs, v.length ≤ 200) → (vsW 44 (mapI (fun j v => quT (f j || qtB v) v) i vs)).length ≤ vs.length * 203
  | [], _, _ => Nat.le_refl _
  | v :: vs, i, h => by
    have h1 := wsI_len f vs (i + 1) (fun x hx => h x (by simp [hx]))
    have h2 := h v (by simp)
    have h3 : (quT (f i || qtB v) v).length ≤ v.length + 2 := by
      rw [quT]
      split <;> simp
    rw [mapI, vsW]
    simp only [List.length_cons, List.length_append]
    omega
theorem vsE_len (ws : List (List UInt8)) : (vsE ws).length ≤ (vsW 44 ws).length + 1 := by
  cases ws with
  | nil => rw [vsE]; simp
  | cons w ws => rw [vsE, vsW]; simp
theorem vsW_m (m : UInt8) (ws : List (List UInt8)) : (vsW m ws).length = (vsW 44 ws).length := by
  cases ws with
  | nil => rfl
  | cons w ws => rw [vsW, vsW]; simp
theorem qsI_len (a k : Nat) : ∀ (ps : List PV) (i : Nat), (∀ p ∈ ps, LightP p) → (psW (mapI (fun i p => (p, wsI (qfn a k i) p.vs)) i ps)).length ≤ ps.length * 4300
  | [], _, _ => Nat.le_refl _
  | p :: ps, i, h => by
    have h1 := qsI_len a k ps (i + 1) (fun x hx => h x (by simp [hx]))
    obtain ⟨a1, a2, a3⟩ := h p (by simp)
    have h2 := wsI_len (qfn a k i) p.vs 0 a3
    rw [mapI, psW, parW, wsI]
    simp only [List.length_cons, List.length_append]
    rw [vsW_m]
    have : p.vs.length * 203 ≤ 20 * 203 := Nat.mul_le_mul_right _ a2
    omega
theorem qtb_snoc (V : List UInt8) (c : Nat) (hc : c < V.length) : qtB (V.take (c + 1)) = (qtB (V.take c) || ([58, 59, 44] : List UInt8).contains V[c]) := by
  rw [qtB, List.take_succ_eq_append_getElem hc, List.any_append, ← qtB]
  simp
theorem take_len_light {α : Type} {Q : α → Prop} {L : List α} (h : ∀ x ∈ L, Q x) (k : Nat) : ∀ x ∈ L.take k, Q x := fun x hx => h x (List.mem_of_mem_take hx)
theorem ba_cat2 (X : ByteArray) (P : List UInt8) (hX : X.data.toList = P) (A : List UInt8) : (X ++ ⟨A.toArray⟩).data.toList = P ++ A := by
  rw [Rws.cat_data, hX]
end Lin
end Go.Proofs.Ytdakpncfophjnaa
