/-
  strings.Split at one sign; recur.readList of numbers. (Written by gen/gen_rcpc.py.)
-/
import Derived.Test.YtfdamkiocefgmaaDoorRcpB
import Derived.Test.YtfdamkiocefgmaaDoorSpc
import Derived.Test.YtfdamkiocefgmaaDoorAppX
import Derived.Test.YtfdamkiocefgmaaDoorRcvA
namespace Go.Proofs.YtfdamkiocefgmaaDoor
open Go.RowKit
namespace Rcp
open Cel
open Spc
open Wrd (MaxL)
open Ap (RowI Grew)
theorem mx_below {w w' : World} (h : MaxL w) (hb : Below w.heap.size w w') : MaxL w' := by
  obtain ⟨m, h1, h2⟩ := h
  exact ⟨m, Nat.lt_of_lt_of_le h1 hb.size, (hb.cell (p := ⟨_, 0, none⟩) h1).trans h2⟩
/-- The row of texts at g. -/
def SpR (g : Nat) (w : World) (Q : List (List UInt8)) : Prop := g < w.heap.size ∧ ∀ (j : Nat) (hj : j < Q.length), w.cell? ⟨g, j, none⟩ = some (.string ⟨Q[j].toArray⟩)
theorem SpR.below {g : Nat} {w w' : World} {Q : List (List UInt8)} (h : SpR g w Q) (hb : Below w.heap.size w w') : SpR g w' Q :=
  ⟨Nat.lt_of_lt_of_le h.1 hb.size, fun j hj => (hb.cell (p := ⟨g, j, none⟩) h.1).trans (h.2 j hj)⟩
theorem split_to (c : UInt8) (s : ByteArray) (S : List UInt8) (Q : List (List UInt8)) (w : World) (hM : MaxL w) (hs : s.size ≤ 1000000) (hS : Hid (s.data.toList = S)) (h : Hid (spG c [] S = Q)) :
    Calls Tryd.prog 18 #[.string s, .string ⟨#[c]⟩] w fun e w' => e = .returned (.slice (some ⟨w.heap.size, 0, none⟩) Q.length Q.length) ∧ SpR w.heap.size w' Q ∧ Below w.heap.size w w' := by
  refine (Tryd.strings_Split s ⟨#[c]⟩ hM.choose _ (by omega) hM.choose_spec.2 (by show 1 ≤ 1; omega)).mono ?_
  rintro e w1 ⟨rfl, rfl⟩
  have hP := sp_split (d := c) s
  rw [hS.out, h.out] at hP
  have hl := Lib.splitB_all ⟨#[c]⟩ (by show 1 ≤ 1; omega) 0 _ s rfl
  obtain ⟨P, hPe⟩ : ∃ P, Lib.splitB ⟨#[c]⟩ 0 (Lib.countB s ⟨#[c]⟩) s = P := ⟨_, rfl⟩
  rw [hPe] at hP hl ⊢
  have hQl : Q.length = Lib.countB s ⟨#[c]⟩ + 1 := by rw [← hP, List.length_map, hl]
  refine ⟨by rw [hQl], ⟨by simp, fun j hj => ?_⟩, (Below.refl _ _).alloc (Nat.le_refl _) _⟩
  subst hP
  rw [World.cell?_alloc_new]
  have hj2 : j < P.length := by simpa using hj
  simp [hj2]
/-- What each of these texts reads as, if all of them do. -/
def rlG {α : Type} (f : List UInt8 → α × Bool) : List (List UInt8) → Option (List α)
  | [] => some []
  | q :: r => if (f q).2 = true then (rlG f r).map (fun x => (f q).1 :: x) else none
def rlP {α : Type} (f : List UInt8 → α × Bool) (S : List UInt8) : List α × Bool := match rlG f (spG 44 [] S) with | some L => (L, true) | none => ([], false)
theorem rl_no {α : Type} {f : List UInt8 → α × Bool} {Q : List (List UInt8)} {M : List α} {k : Nat} (hk : k < Q.length) (h : rlG f Q = (rlG f (Q.drop k)).map (fun x => M ++ x)) (hf : (f Q[k]).2 = false) : rlG f Q = none := by
  rw [h, List.drop_eq_getElem_cons hk, rlG, if_neg (by rw [hf]; decide)]; rfl
theorem rl_yes {α : Type} {f : List UInt8 → α × Bool} {Q : List (List UInt8)} {M : List α} {k : Nat} {x : α} (hk : k < Q.length) (h : rlG f Q = (rlG f (Q.drop k)).map (fun x => M ++ x)) (hf : f Q[k] = (x, true)) : rlG f Q = (rlG f (Q.drop (k + 1))).map (fun y => (M ++ [x]) ++ y) := by
  rw [h, List.drop_eq_getElem_cons hk, rlG, hf, if_pos rfl, Option.map_map]
  congr 1
  funext y
  simp
theorem rl_all {α : Type} {f : List UInt8 → α × Bool} {Q : List (List UInt8)} {M : List α} {k : Nat} (hk : Q.length ≤ k) (h : rlG f Q = (rlG f (Q.drop k)).map (fun x => M ++ x)) : rlG f Q = some M := by
  rw [h, List.drop_eq_nil_of_le hk, rlG]; simp
theorem rl_start {α : Type} {f : List UInt8 → α × Bool} (Q : List (List UInt8)) : rlG f Q = (rlG f (Q.drop 0)).map (fun x => ([] : List α) ++ x) := by
  rw [List.drop_zero]; cases rlG f Q <;> rfl
set_option maxHeartbeats 6400000 in
set_option maxRecDepth 100000 in
theorem rln_to (s : ByteArray) (S : List UInt8) (L : List Int) (b : Bool) (w : World) (hM : MaxL w) (hs : s.size ≤ 100000) (hS : Hid (s.data.toList = S)) (h : Hid (rlP rnP S = (L, b))) :
    Calls Tryd.prog 40 #[.string s, .func (.func 38) #[] #[]] w fun e w' => ∃ v B, e = .returned (.tuple #[v, .bool b]) ∧ Hid (RowI B w' v L) ∧ w.heap.size ≤ B ∧ Below w.heap.size w w' := by
  obtain ⟨Q, hQ⟩ : ∃ Q, spG 44 [] S = Q := ⟨_, rfl⟩
  have hl : S.length = s.size := by rw [← hS.out]; simp
  have hlen := sp_len (d := 44) S []
  have hsz := sp_sz (d := 44) S []
  rw [hQ] at hlen hsz
  have HQ := Lib.hid hQ
  have HZ : Hid (∀ (j : Nat) (hj : j < Q.length), Q[j].length ≤ 1000000) := Lib.hid (fun j hj => by
    have := hsz _ (List.getElem_mem hj)
    simp at this; omega)
  have HH : Hid ((rlG rnP Q = none → [] = L ∧ false = b) ∧ (∀ M, rlG rnP Q = some M → M = L ∧ true = b)) := Lib.hid (by
    have e := h.out
    rw [rlP, hQ] at e
    exact ⟨fun q => by rw [q] at e; exact Prod.mk.inj e, fun M q => by rw [q] at e; exact Prod.mk.inj e⟩)
  obtain ⟨n, hn⟩ : ∃ n, Q.length = n := ⟨_, rfl⟩
  have HN := Lib.hid hn
  have hn1 : n ≤ 100001 := by omega
  clear hQ hlen hsz h hl hn
  go_enter Tryd.func40, Tryd.ntmps40
  go_wp2_with fail
  refine (split_to 44 s S Q _ hM (by omega) hS HQ).mono ?_
  rintro e w1 ⟨rfl, hR, hB⟩
  have R := Lib.hid hR
  have B1 := Lib.hid hB
  have hz1 : w.heap.size ≤ w1.heap.size := hB.size
  rw [HN.out]
  clear hR hB
  go_wp2_with fail
  go_loopw [6, 14] (fun lv iv wr => ∃ (k : Nat) (M : List Int), k ≤ n ∧ M.length = k ∧ iv = .int .i64 k ∧ Hid (rlG rnP Q = (rlG rnP (Q.drop k)).map (fun x => M ++ x)) ∧ Hid (RowI w1.heap.size wr lv M) ∧ Hid (Below w1.heap.size w1 wr)) (fun _ iv _ => n - (intOf iv).toNat)
  case atStart => exact ⟨0, [], Nat.zero_le _, rfl, rfl, Lib.hid (rl_start Q), Lib.hid (RowI.nil _ _), Lib.hid (Below.refl _ _)⟩
  case round =>
    obtain ⟨k, M, hk, hM2, rfl, HT, HR, B2⟩ := hrel
    obtain ⟨wo, rfl⟩ : ∃ wo : World, wo = wr := ⟨_, rfl⟩
    by_cases hlt : k < n
    · have h1L : k < Q.length := by rw [HN.out]; exact hlt
      have c1 := (R.out.below B2.out |>.2) k h1L
      have hzk := HZ.out k h1L
      obtain ⟨q, hq⟩ : ∃ q, Q[k] = q := ⟨_, rfl⟩
      have Hq := Lib.hid hq
      rw [hq] at c1 hzk
      clear hq
      obtain ⟨x, c, hx⟩ : ∃ x c, rnP q = (x, c) := ⟨_, _, rfl⟩
      have HX := Lib.hid hx
      clear hx
      go_wp2_with fail
      refine (rn_to ⟨q.toArray⟩ q x c _ (by show q.toArray.size ≤ _; simpa using hzk) (Lib.hid rfl) HX).mono ?_
      rintro e w2 ⟨rfl, rfl⟩
      cases c with
      | false =>
        obtain ⟨rfl, rfl⟩ := HH.out.1 (rl_no h1L HT.out (by rw [Hq.out, HX.out]))
        clear HH HT HZ
        go_wp2
        go_ret2
        exact ⟨_, w1.heap.size, rfl, Lib.hid (RowI.nil _ _), hz1, bstep B1.out B2.out⟩
      | true =>
        have HT2 := Lib.hid (rl_yes h1L HT.out (by rw [Hq.out, HX.out]))
        have hl8 : M.length ≤ 100000000 := by omega
        have hsz := B2.out.size
        clear HT HX Hq h1L
        go_wp2_with (at_builtin; refine Ap.appI rfl _ _ rfl w1.heap.size _ M rfl HR.out x rfl hl8 hsz ?_)
        intro w5 gg gcap r5 g5
        have B5 := Lib.hid (g5.below w1.heap.size w1 (Nat.le_refl _) B2.out B2.out.size)
        have R5 := Lib.hid r5
        clear r5 g5 HR
        go_wp2
        go_roundw
        case rel => exact ⟨k + 1, M ++ [x], by omega, by rw [List.length_append]; simp; omega, by go_num, HT2, R5, B5⟩
        case measure => simp [intOf]; omega
    · have hkn : k = n := by omega
      obtain ⟨rfl, rfl⟩ := HH.out.2 M (rl_all (by rw [HN.out]; omega) HT.out)
      clear HH HT
      go_wp2
      go_ret2
      exact ⟨_, w1.heap.size, rfl, HR, hz1, bstep B1.out B2.out⟩
set_option maxHeartbeats 6400000 in
set_option maxRecDepth 100000 in
theorem rls_to (s : ByteArray) (S : List UInt8) (L : List Int) (b : Bool) (w : World) (hM : MaxL w) (hs : s.size ≤ 100000) (hS : Hid (s.data.toList = S)) (h : Hid (rlP rsP S = (L, b))) :
    Calls Tryd.prog 40 #[.string s, .func (.func 41) #[] #[]] w fun e w' => ∃ v B, e = .returned (.tuple #[v, .bool b]) ∧ Hid (RowI B w' v L) ∧ w.heap.size ≤ B ∧ Below w.heap.size w w' := by
  obtain ⟨Q, hQ⟩ : ∃ Q, spG 44 [] S = Q := ⟨_, rfl⟩
  have hl : S.length = s.size := by rw [← hS.out]; simp
  have hlen := sp_len (d := 44) S []
  have hsz := sp_sz (d := 44) S []
  rw [hQ] at hlen hsz
  have HQ := Lib.hid hQ
  have HZ : Hid (∀ (j : Nat) (hj : j < Q.length), Q[j].length ≤ 1000000) := Lib.hid (fun j hj => by
    have := hsz _ (List.getElem_mem hj)
    simp at this; omega)
  have HH : Hid ((rlG rsP Q = none → [] = L ∧ false = b) ∧ (∀ M, rlG rsP Q = some M → M = L ∧ true = b)) := Lib.hid (by
    have e := h.out
    rw [rlP, hQ] at e
    exact ⟨fun q => by rw [q] at e; exact Prod.mk.inj e, fun M q => by rw [q] at e; exact Prod.mk.inj e⟩)
  obtain ⟨n, hn⟩ : ∃ n, Q.length = n := ⟨_, rfl⟩
  have HN := Lib.hid hn
  have hn1 : n ≤ 100001 := by omega
  clear hQ hlen hsz h hl hn
  go_enter Tryd.func40, Tryd.ntmps40
  go_wp2_with fail
  refine (split_to 44 s S Q _ hM (by omega) hS HQ).mono ?_
  rintro e w1 ⟨rfl, hR, hB⟩
  have R := Lib.hid hR
  have B1 := Lib.hid hB
  have hz1 : w.heap.size ≤ w1.heap.size := hB.size
  rw [HN.out]
  clear hR hB
  go_wp2_with fail
  go_loopw [6, 14] (fun lv iv wr => ∃ (k : Nat) (M : List Int), k ≤ n ∧ M.length = k ∧ iv = .int .i64 k ∧ Hid (rlG rsP Q = (rlG rsP (Q.drop k)).map (fun x => M ++ x)) ∧ Hid (RowI w1.heap.size wr lv M) ∧ Hid (Below w1.heap.size w1 wr)) (fun _ iv _ => n - (intOf iv).toNat)
  case atStart => exact ⟨0, [], Nat.zero_le _, rfl, rfl, Lib.hid (rl_start Q), Lib.hid (RowI.nil _ _), Lib.hid (Below.refl _ _)⟩
  case round =>
    obtain ⟨k, M, hk, hM2, rfl, HT, HR, B2⟩ := hrel
    obtain ⟨wo, rfl⟩ : ∃ wo : World, wo = wr := ⟨_, rfl⟩
    by_cases hlt : k < n
    · have h1L : k < Q.length := by rw [HN.out]; exact hlt
      have c1 := (R.out.below B2.out |>.2) k h1L
      have hzk := HZ.out k h1L
      obtain ⟨q, hq⟩ : ∃ q, Q[k] = q := ⟨_, rfl⟩
      have Hq := Lib.hid hq
      rw [hq] at c1 hzk
      clear hq
      obtain ⟨x, c, hx⟩ : ∃ x c, rsP q = (x, c) := ⟨_, _, rfl⟩
      have HX := Lib.hid hx
      clear hx
      go_wp2_with fail
      refine (rs_to ⟨q.toArray⟩ q x c _ (by show q.toArray.size ≤ _; simpa using hzk) (Lib.hid rfl) HX).mono ?_
      rintro e w2 ⟨rfl, rfl⟩
      cases c with
      | false =>
        obtain ⟨rfl, rfl⟩ := HH.out.1 (rl_no h1L HT.out (by rw [Hq.out, HX.out]))
        clear HH HT HZ
        go_wp2
        go_ret2
        exact ⟨_, w1.heap.size, rfl, Lib.hid (RowI.nil _ _), hz1, bstep B1.out B2.out⟩
      | true =>
        have HT2 := Lib.hid (rl_yes h1L HT.out (by rw [Hq.out, HX.out]))
        have hl8 : M.length ≤ 100000000 := by omega
        have hsz := B2.out.size
        clear HT HX Hq h1L
        go_wp2_with (at_builtin; refine Ap.appI rfl _ _ rfl w1.heap.size _ M rfl HR.out x rfl hl8 hsz ?_)
        intro w5 gg gcap r5 g5
        have B5 := Lib.hid (g5.below w1.heap.size w1 (Nat.le_refl _) B2.out B2.out.size)
        have R5 := Lib.hid r5
        clear r5 g5 HR
        go_wp2
        go_roundw
        case rel => exact ⟨k + 1, M ++ [x], by omega, by rw [List.length_append]; simp; omega, by go_num, HT2, R5, B5⟩
        case measure => simp [intOf]; omega
    · have hkn : k = n := by omega
      obtain ⟨rfl, rfl⟩ := HH.out.2 M (rl_all (by rw [HN.out]; omega) HT.out)
      clear HH HT
      go_wp2
      go_ret2
      exact ⟨_, w1.heap.size, rfl, HR, hz1, bstep B1.out B2.out⟩
end Rcp
end Go.Proofs.YtfdamkiocefgmaaDoor
