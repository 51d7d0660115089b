/-
  recur.Parse in plain words; what stays of a world in which a rule is being read. (Written by gen/gen_rcpi.py.)
-/
import Derived.Test.YtbeefhmnoihmcaaGreatDoorBdP1
import Derived.Test.YtbeefhmnoihmcaaGreatDoorBdK1
namespace Go.Proofs.YtbeefhmnoihmcaaGreatDoor
open Go.RowKit
namespace Rcp
open Cel
open Spc
open Wrd (MaxL smL)
open Ap (RowI Grew)
open Civ (Ahead)
open Rcv (CV)
open Rck (Small ckE ckB)

/-- The rule before anything is said of it. -/
def r0 : CV := ⟨0, 1, 0, false, 0, false, [], [], [], [], [], [], [], [], [], 1⟩
def paG : List (List UInt8) → List (List UInt8) → CV → Option CV
  | [], _, x => some x
  | q :: r, seen, x => if (Lib.cut q [61]).2.2 = true ∧ smL (Lib.cut q [61]).1 ∉ seen ∧ (rpP (smL (Lib.cut q [61]).1) (Lib.cut q [61]).2.1 x).2 = true then paG r (seen ++ [smL (Lib.cut q [61]).1]) (rpP (smL (Lib.cut q [61]).1) (Lib.cut q [61]).2.1 x).1 else none
def pxP (S : List UInt8) : CV × Int := match paG (spG 59 [] S) [] r0 with | none => (CV.zero, 21) | some x => if ckE x = 0 then (x, 0) else (CV.zero, ckE x)
theorem pa_bad {Q seen : List (List UInt8)} {k : Nat} {x : CV} {q X Y N : List UInt8} {ok r : Bool} {x2 : CV} (hk : k < Q.length) (h : paG Q [] r0 = paG (Q.drop k) seen x) (hq : Q[k] = q) (hc : Lib.cut q [61] = (X, Y, ok)) (hN : smL X = N) (hr : rpP N Y x = (x2, r)) (hb : (ok && (!decide (N ∈ seen) && r)) = false) : paG Q [] r0 = none := by
  rw [h, List.drop_eq_getElem_cons hk, hq, paG, hc]
  refine if_neg ?_
  rintro ⟨h1, h2, h3⟩
  simp only at h1 h2 h3
  rw [hN] at h2 h3
  rw [hr] at h3
  rw [h1, decide_eq_false h2, show r = true from h3] at hb
  cases hb
theorem pa_next {Q seen : List (List UInt8)} {k : Nat} {x : CV} {q X Y N : List UInt8} {ok r : Bool} {x2 : CV} (hk : k < Q.length) (h : paG Q [] r0 = paG (Q.drop k) seen x) (hq : Q[k] = q) (hc : Lib.cut q [61] = (X, Y, ok)) (hN : smL X = N) (hr : rpP N Y x = (x2, r)) (hb : (ok && (!decide (N ∈ seen) && r)) = true) : paG Q [] r0 = paG (Q.drop (k + 1)) (seen ++ [N]) x2 := by
  rw [Bool.and_eq_true, Bool.and_eq_true, Bool.not_eq_true'] at hb
  obtain ⟨rfl, h2, rfl⟩ := hb
  rw [h, List.drop_eq_getElem_cons hk, hq, paG, hc]
  simp only
  rw [hN, hr, if_pos ⟨by trivial, of_decide_eq_false h2, by trivial⟩]
theorem rl_len {α : Type} {f : List UInt8 → α × Bool} : ∀ (Q : List (List UInt8)) (L : List α), rlG f Q = some L → L.length = Q.length
  | [], L, h => by rw [rlG] at h; cases h; rfl
  | q :: r, L, h => by
    rw [rlG] at h
    split at h
    · cases hr : rlG f r with
      | none => rw [hr] at h; cases h
      | some M =>
        rw [hr] at h
        cases h
        simp [rl_len r M hr]
    · cases h
theorem rlP_len {α : Type} (f : List UInt8 → α × Bool) (S : List UInt8) : (rlP f S).1.length ≤ S.length + 1 := by
  rw [rlP]
  split
  · rename_i L h
    show L.length ≤ _
    rw [rl_len _ L h]
    exact sp_len S []
  · show ([] : List α).length ≤ _
    simp
theorem pt_bd (S : List UInt8) : -1000000000000 ≤ (Val.ptP S).1 ∧ (Val.ptP S).1 ≤ 1000000000000 := by
  rw [Val.ptP]
  split
  · show -1000000000000 ≤ _ * 86400 + _ ∧ _ * 86400 + _ ≤ (1000000000000 : Int)
    have a := Val.numV_bd (Sol.parseV ((Lib.trimSuffix S [90]).take 4)) (Sol.parseV (((Lib.trimSuffix S [90]).drop 4).take 2)) (Sol.parseV (((Lib.trimSuffix S [90]).drop 6).take 2))
    have b := Val.sx_bd (S := (Lib.trimSuffix S [90]).drop 9)
    omega
  · exact ⟨by decide, by decide⟩
/-- Of a size that is walked. -/
structure OkX (x : CV) : Prop where
  sm : Small x
  lo : -1000000000000 ≤ x.ua
  hi : x.ua ≤ 1000000000000
theorem ok_r0 : OkX r0 := ⟨⟨by decide, by decide, by decide, by decide, by decide, by decide, by decide, by decide, by decide⟩, by decide, by decide⟩
theorem ok_step {x : CV} (h : OkX x) (N S : List UInt8) (hS : S.length ≤ 10000) : OkX (rpP N S x).1 := by
  obtain ⟨⟨h1, h2, h3, h4, h5, h6, h7, h8, h9⟩, hlo, hhi⟩ := h
  have a := rlP_len rnP S
  have b := rlP_len rsP S
  have c := rlP_len rdP S
  have d := pt_bd S
  unfold rpP
  by_cases n0 : N = [102, 114, 101, 113]
  · rw [if_pos n0]; exact ⟨⟨h1, h2, h3, h4, h5, h6, h7, h8, h9⟩, hlo, hhi⟩
  rw [if_neg n0]
  by_cases n1 : N = [105, 110, 116, 101, 114, 118, 97, 108]
  · rw [if_pos n1]; exact ⟨⟨h1, h2, h3, h4, h5, h6, h7, h8, h9⟩, hlo, hhi⟩
  rw [if_neg n1]
  by_cases n2 : N = [99, 111, 117, 110, 116]
  · rw [if_pos n2]; exact ⟨⟨h1, h2, h3, h4, h5, h6, h7, h8, h9⟩, hlo, hhi⟩
  rw [if_neg n2]
  by_cases n3 : N = [117, 110, 116, 105, 108]
  · rw [if_pos n3]; exact ⟨⟨h1, h2, h3, h4, h5, h6, h7, h8, h9⟩, d.1, d.2⟩
  rw [if_neg n3]
  by_cases n4 : N = [98, 121, 109, 111, 110, 116, 104]
  · rw [if_pos n4]; exact ⟨⟨h1, h2, h3, h4, h5, h6, h7, Nat.le_trans a (by omega), h9⟩, hlo, hhi⟩
  rw [if_neg n4]
  by_cases n5 : N = [98, 121, 119, 101, 101, 107, 110, 111]
  · rw [if_pos n5]; exact ⟨⟨h1, h2, h3, h4, h5, h6, Nat.le_trans b (by omega), h8, h9⟩, hlo, hhi⟩
  rw [if_neg n5]
  by_cases n6 : N = [98, 121, 121, 101, 97, 114, 100, 97, 121]
  · rw [if_pos n6]; exact ⟨⟨h1, h2, h3, h4, h5, Nat.le_trans b (by omega), h7, h8, h9⟩, hlo, hhi⟩
  rw [if_neg n6]
  by_cases n7 : N = [98, 121, 109, 111, 110, 116, 104, 100, 97, 121]
  · rw [if_pos n7]; exact ⟨⟨h1, h2, h3, h4, Nat.le_trans b (by omega), h6, h7, h8, h9⟩, hlo, hhi⟩
  rw [if_neg n7]
  by_cases n8 : N = [98, 121, 100, 97, 121]
  · rw [if_pos n8]; exact ⟨⟨h1, h2, h3, Nat.le_trans c (by omega), h5, h6, h7, h8, h9⟩, hlo, hhi⟩
  rw [if_neg n8]
  by_cases n9 : N = [98, 121, 104, 111, 117, 114]
  · rw [if_pos n9]; exact ⟨⟨h1, h2, Nat.le_trans a (by omega), h4, h5, h6, h7, h8, h9⟩, hlo, hhi⟩
  rw [if_neg n9]
  by_cases n10 : N = [98, 121, 109, 105, 110, 117, 116, 101]
  · rw [if_pos n10]; exact ⟨⟨h1, Nat.le_trans a (by omega), h3, h4, h5, h6, h7, h8, h9⟩, hlo, hhi⟩
  rw [if_neg n10]
  by_cases n11 : N = [98, 121, 115, 101, 99, 111, 110, 100]
  · rw [if_pos n11]; exact ⟨⟨Nat.le_trans a (by omega), h2, h3, h4, h5, h6, h7, h8, h9⟩, hlo, hhi⟩
  rw [if_neg n11]
  by_cases n12 : N = [98, 121, 115, 101, 116, 112, 111, 115]
  · rw [if_pos n12]; exact ⟨⟨h1, h2, h3, h4, h5, h6, h7, h8, Nat.le_trans b (by omega)⟩, hlo, hhi⟩
  rw [if_neg n12]
  by_cases n13 : N = [119, 107, 115, 116]
  · rw [if_pos n13]; exact ⟨⟨h1, h2, h3, h4, h5, h6, h7, h8, h9⟩, hlo, hhi⟩
  rw [if_neg n13]
  exact ⟨⟨h1, h2, h3, h4, h5, h6, h7, h8, h9⟩, hlo, hhi⟩
theorem own_upd {g B : Nat} {w w' : World} {e : TypeId} {size : Nat} {v : Value} {n : Nat} {xs : List Value} (h : w.ownsRow B e size v n xs) (hu : Upd g w w') (hg : g < B) : w'.ownsRow B e size v n xs := by
  refine ⟨h.1, ?_⟩
  rcases h.2 with h1 | ⟨g', cap, cur, hv, hg', hh, r⟩
  · exact Or.inl h1
  · exact Or.inr ⟨g', cap, cur, hv, hg', (hu.block g' (Array.getElem?_eq_some_iff.1 hh).1 (by omega)).trans hh, r⟩
theorem SpR.upd {g b : Nat} {w w' : World} {Q : List (List UInt8)} (h : SpR b w Q) (hu : Upd g w w') (hne : b ≠ g) : SpR b w' Q :=
  ⟨Nat.lt_of_lt_of_le h.1 hu.size, fun j hj => (World.cell?_of_block (hu.block b h.1 hne)).trans (h.2 j hj)⟩
theorem cs_upd {g b : Nat} {w w' : World} {vs : List Value} (h : Cs b w vs) (hu : Upd g w w') (hne : b ≠ g) : Cs b w' vs :=
  ⟨Nat.lt_of_lt_of_le h.1 hu.size, fun j v hj => ⟨(World.cell?_of_block (hu.block b h.1 hne)).trans (h.2 j v hj).1, (World.frozen?_of_block (hu.block b h.1 hne)).trans (h.2 j v hj).2⟩⟩
theorem far {w : World} {B B' : Nat} {e e' : TypeId} {s s' : Nat} {v v' : Value} {n n' : Nat} {xs xs' : List Value} (h : w.ownsRow B e s v n xs) (h' : w.ownsRow B' e' s' v' n' xs') (hne : e ≠ e') : v.ownBlock = none ∨ v.ownBlock ≠ v'.ownBlock := by
  rcases h.2 with ⟨rfl, _⟩ | ⟨g, cap, cur, rfl, _, hg, _⟩
  · exact Or.inl rfl
  · refine Or.inr ?_
    rcases h'.2 with ⟨rfl, _⟩ | ⟨g', cap', cur', rfl, _, hg', _⟩
    · simp [Value.ownBlock]
    · intro e
      simp only [Value.ownBlock, Option.some.injEq] at e
      subst e
      rw [hg] at hg'
      injection hg' with e
      injection e with _ e _
      exact hne e
theorem own_ne {B g : Nat} {w : World} {e : TypeId} {s : Nat} {v : Value} {n : Nat} {xs : List Value} (h : w.ownsRow B e s v n xs) (hg : g < B) : some g ≠ v.ownBlock := fun e => by
  have := (World.ownsRow.lt h g e.symm).1
  omega
theorem cs_grew {g B : Nat} {v : Value} {w w' : World} {vs : List Value} (h : Cs g w vs) (hg : Grew B v w w') (hne : some g ≠ v.ownBlock) : Cs g w' vs :=
  ⟨Nat.lt_of_lt_of_le h.1 hg.size, fun i x hi => ⟨(hg.cell (p := ⟨g, i, none⟩) h.1 hne).trans (h.2 i x hi).1, (hg.frozen (p := ⟨g, i, none⟩) h.1 hne).trans (h.2 i x hi).2⟩⟩
theorem SpR.grew {g B : Nat} {v : Value} {w w' : World} {Q : List (List UInt8)} (h : SpR g w Q) (hg : Grew B v w w') (hne : some g ≠ v.ownBlock) : SpR g w' Q :=
  ⟨Nat.lt_of_lt_of_le h.1 hg.size, fun j hj => (hg.cell (p := ⟨g, j, none⟩) h.1 hne).trans (h.2 j hj)⟩
theorem RulB.grew {g B : Nat} {v : Value} {w w' : World} {x : CV} {L : List (List UInt8)} (h : RulB g w x) (hr : RowT B w v L) (hB : g < B) (hg : Grew B v w w') : RulB g w' x := by
  obtain ⟨s6, s7, s8, s9, s10, s11, s12, s13, s14, h1, h2⟩ := h
  exact ⟨s6, s7, s8, s9, s10, s11, s12, s13, s14, cs_grew h1 hg (own_ne hr hB), ⟨hg.other _ _ _ _ _ _ (far h2.h6 hr (by decide)) h2.h6, hg.other _ _ _ _ _ _ (far h2.h7 hr (by decide)) h2.h7, hg.other _ _ _ _ _ _ (far h2.h8 hr (by decide)) h2.h8, hg.other _ _ _ _ _ _ (far h2.h9 hr (by decide)) h2.h9, hg.other _ _ _ _ _ _ (far h2.h10 hr (by decide)) h2.h10, hg.other _ _ _ _ _ _ (far h2.h11 hr (by decide)) h2.h11, hg.other _ _ _ _ _ _ (far h2.h12 hr (by decide)) h2.h12, hg.other _ _ _ _ _ _ (far h2.h13 hr (by decide)) h2.h13, hg.other _ _ _ _ _ _ (far h2.h14 hr (by decide)) h2.h14⟩⟩
theorem own_slice {B : Nat} {w : World} {e : TypeId} {s : Nat} {v : Value} {n : Nat} {xs : List Value} (h : w.ownsRow B e s v n xs) : ∃ a c, v = .slice a n c := by
  rcases h.2 with ⟨h1, h2⟩ | ⟨g, cap, cur, h1, _⟩
  · exact ⟨none, 0, by rw [h1, h2]⟩
  · exact ⟨_, _, h1⟩
theorem Lsts.row {B g : Nat} {x : CV} {s6 s7 s8 s9 s10 s11 s12 s13 s14 : Value} (hg : g < B) : ∀ (us : List Value) (o : Nat) (w : World), Lsts B w x s6 s7 s8 s9 s10 s11 s12 s13 s14 → Lsts B (w.setCells g o us) x s6 s7 s8 s9 s10 s11 s12 s13 s14
  | [], _, _, h => h
  | v :: r, o, w, h => by
    rw [World.setCells]
    exact Lsts.row hg r (o + 1) _ (h.cell hg v)
end Rcp
end Go.Proofs.YtbeefhmnoihmcaaGreatDoor
