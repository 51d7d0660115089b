/-
  recur.appendList: the part of a list, at the end of a row of texts.
-/
import Derived.Test.YtbeefhmnoihmcaaGreatDoorRcpI
import Derived.Test.YtbeefhmnoihmcaaGreatDoorBdC
import Derived.Lib.ItoaLen
import Derived.Laws.MakeOwn
import Derived.Lib.Join
namespace Go.Proofs.YtbeefhmnoihmcaaGreatDoor
open Go.RowKit
namespace Rct
open Cel
open Rcp
open Ap (Grew)
open Rcv (IntV DayV)
theorem itoa_to (n : Int) (T : List UInt8) (w : World) (hp : Pow w) (h0 : -9223372036854775808 ≤ n) (h1 : n ≤ 9223372036854775807) (h : Hid (Lib.itoa n = T)) :
    Calls Tryz.prog 37 #[.int .i64 n] w fun e w' => e = .returned (.string ⟨T.toArray⟩) ∧ Below w.heap.size w w' := by
  refine (Tryz.strconv_Itoa n h0 h1 w (Lib.TabBelow.here hp)).mono ?_
  rintro e w' ⟨rfl, k, os, rfl⟩
  exact ⟨by rw [h.out], Lib.below_grow w.heap.size w (Nat.le_refl _) k os⟩
/-- A row of texts at g that is being filled. -/
def TxR (g : Nat) (w : World) (n : Nat) (f : Nat → List UInt8) : Prop := g < w.heap.size ∧ ∀ j, j < n → w.cell? ⟨g, j, none⟩ = some (.string ⟨(f j).toArray⟩) ∧ w.frozen? ⟨g, j, none⟩ = false
theorem TxR.below {g n : Nat} {w w' : World} {f : Nat → List UInt8} (h : TxR g w n f) (hb : Below w.heap.size w w') : TxR g w' n f :=
  ⟨Nat.lt_of_lt_of_le h.1 hb.size, fun i hi => ⟨(hb.cell (p := ⟨g, i, none⟩) h.1).trans (h.2 i hi).1, (hb.frozen (p := ⟨g, i, none⟩) h.1).trans (h.2 i hi).2⟩⟩
theorem TxR.set {g n i : Nat} {w : World} {f : Nat → List UInt8} (h : TxR g w n f) (hi : i < n) (t : List UInt8) : TxR g (w.setCell ⟨g, i, none⟩ (.string ⟨t.toArray⟩)) n (fun j => if j = i then t else f j) := by
  refine ⟨by have := h.1; simpa [World.setCell] using this, fun j hj => ?_⟩
  rw [World.frozen?_setCell]
  refine ⟨?_, (h.2 j hj).2⟩
  by_cases e : j = i
  · subst e
    rw [World.cell?_setCell_same _ _ _ (h.2 j hj).1]; simp
  · rw [World.cell?_setCell_other _ _ _ _ (fun k => by injection k with _ k _; exact e k.symm), (h.2 j hj).1]; simp [e]
theorem TxR.like {g n : Nat} {w : World} {f f' : Nat → List UInt8} (h : TxR g w n f) (hf : ∀ j, j < n → f j = f' j) : TxR g w n f' :=
  ⟨h.1, fun i hi => by rw [← hf i hi]; exact h.2 i hi⟩
theorem own_out {w : World} {B : Nat} {e : TypeId} {size : Nat} {v : Value} {n : Nat} {xs : List Value} (h : w.ownsRow B e size v n xs) {g i : Nat} (hg : some g ≠ v.ownBlock) (x : Value) : (w.setCell ⟨g, i, none⟩ x).ownsRow B e size v n xs := by
  refine ⟨h.1, ?_⟩
  rcases h.2 with h1 | ⟨g', cap, cur, hv, hg', hh, r⟩
  · exact Or.inl h1
  · refine Or.inr ⟨g', cap, cur, hv, hg', (Below.heap_setCell _ _ _ _ (by show g' ≠ g; rintro rfl; exact hg (by rw [hv]; rfl))).trans hh, r⟩
theorem own_old {w : World} {B : Nat} {e : TypeId} {size : Nat} {v : Value} {n : Nat} {xs : List Value} (h : w.ownsRow B e size v n xs) : some w.heap.size ≠ v.ownBlock := fun e => by
  have := (World.ownsRow.lt h _ e.symm).2
  omega
theorem join_le (c : UInt8) (m : Nat) : ∀ (xs : List (List UInt8)), (∀ x ∈ xs, x.length ≤ m) → (Lib.join xs [c]).length ≤ xs.length * (m + 1) := by
  intro xs h
  have key : ∀ r : List (List UInt8), (∀ x ∈ r, x.length ≤ m) → (Lib.joinTail [c] r).length ≤ r.length * (m + 1) := by
    intro r
    induction r with
    | nil => intro _; simp [Lib.joinTail]
    | cons y r ih =>
      intro hr
      have a := ih (fun x hx => hr x (List.mem_cons_of_mem _ hx))
      have b := hr y List.mem_cons_self
      have e : Lib.joinTail [c] (y :: r) = ([c] ++ y) ++ Lib.joinTail [c] r := by simp [Lib.joinTail]
      rw [e]
      simp only [List.length_append, List.length_cons, List.length_nil, Nat.add_mul, Nat.one_mul] at a ⊢
      omega
  cases xs with
  | nil => simp [Lib.join]
  | cons y r =>
    have a := key r (fun x hx => h x (List.mem_cons_of_mem _ hx))
    have b := h y List.mem_cons_self
    rw [Lib.join_cons, List.length_append, List.length_cons, Nat.add_mul, Nat.one_mul]
    omega
theorem jn_to (c : UInt8) (g n : Nat) (Ts : List (List UInt8)) (J : List UInt8) (w : World) (hT : TxR g w n (fun j => Ts.getD j [])) (hl : Ts.length = n) (hn : n ≤ 100000) (hJ : Hid (Lib.join Ts [c] = J)) (hJl : J.length ≤ 10000000) :
    Calls Tryz.prog 21 #[.slice (some ⟨g, 0, none⟩) n n, .string ⟨#[c]⟩] w fun e w' => e = .returned (.string ⟨J.toArray⟩) ∧ Below w.heap.size w w' := by
  subst hl
  have e : (Ts.map (fun t => (⟨t.toArray⟩ : ByteArray))).map (·.data.toList) = Ts := by rw [List.map_map]; exact List.map_id Ts
  have h := Tryz.strings_Join g 0 Ts.length (Ts.map (fun t => (⟨t.toArray⟩ : ByteArray))) ⟨#[c]⟩ w (fun j x hj => by
    rw [Nat.zero_add]
    rw [List.getElem?_map] at hj
    obtain ⟨t, ht, rfl⟩ := Option.map_eq_some_iff.1 hj
    have hlt : j < Ts.length := (List.getElem?_eq_some_iff.1 ht).1
    have q := (hT.2 j hlt).1
    simp only [List.getD_eq_getElem?_getD, ht, Option.getD_some] at q
    exact q) hT.1 (by simp; omega) (by simp) (by rw [e]; show (Lib.join Ts [c]).length ≤ _; rw [hJ.out]; omega)
  rw [List.length_map, e] at h
  exact h.mono fun _ _ ⟨h1, h2⟩ => ⟨by rw [h1]; show Ending.returned (.string ⟨(Lib.join Ts [c]).toArray⟩) = _; rw [hJ.out], h2⟩
/-- The part of a list, behind what is written. -/
def alX (Ls : List (List UInt8)) (N : List UInt8) (L : List Int) : List (List UInt8) := if L = [] then Ls else Ls ++ [N ++ [61] ++ Lib.join (L.map Lib.itoa) [44]]
/-- What is below a bound stands. -/
def Still (B : Nat) (w w' : World) : Prop := ∀ (B0 : Nat) (W0 : World), B0 ≤ B → B0 ≤ w.heap.size → Below B0 W0 w → Below B0 W0 w'
set_option maxHeartbeats 6400000 in
set_option maxRecDepth 100000 in
theorem al_to (lv : Value) (Ls : List (List UInt8)) (nm : ByteArray) (N : List UInt8) (v : Value) (L : List Int) (B : Nat) (w : World) (hp : Pow w) (hr : RowT B w lv Ls) (hB : B ≤ w.heap.size) (hn : Ls.length ≤ 100) (hv : IntV w v L) (hL : L.length ≤ 1000) (hN : Hid (nm.data.toList = N)) (hN2 : N.length ≤ 100) (hb : Hid (∀ n ∈ L, -9223372036854775808 ≤ n ∧ n ≤ 9223372036854775807)) :
    Calls Tryz.prog 19 #[lv, .string nm, v] w fun e w' => ∃ v', e = .returned v' ∧ Hid (RowT B w' v' (alX Ls N L)) ∧ Still B w w' := by
  by_cases h0 : L.length = 0
  · have e1 : L = [] := List.length_eq_zero_iff.1 h0
    subst e1
    obtain ⟨q, c, rfl⟩ := hv.nil
    have HR := Lib.hid hr
    clear hv h0 hL hp hb hr
    go_enter Tryz.func19, Tryz.ntmps19
    go_wp2
    go_ret
    exact ⟨_, rfl, Lib.hid (by rw [alX, if_pos rfl]; exact HR.out), fun _ _ _ _ h => h⟩
  · obtain ⟨b1, o1, c1, rfl, hb1, k1⟩ := hv.form (by omega)
    obtain ⟨n, hn'⟩ : ∃ n, L.length = n := ⟨_, rfl⟩
    have K1 : Hid (∀ (j : Nat) (hj : j < L.length), w.cell? ⟨b1, o1 + j, Option.none⟩ = some (.int .i64 L[j])) := Lib.hid k1
    have HN := Lib.hid hn'
    have HB1 := Lib.hid hb1
    have HP := Lib.hid hp
    have HR := Lib.hid hr
    rw [hn'] at hL h0 ⊢
    have n0 : ((n : Int) == 0) = false := beq_eq_false_iff_ne.2 (by omega)
    obtain ⟨i0, hi, hz0, hz1, hz2⟩ := info_parts infoT
    obtain ⟨M, hM⟩ : ∃ M, madeCells (Value.string ⟨#[]⟩).cells n = M := ⟨_, rfl⟩
    have HM : Hid (∀ j, j < n → M[j]? = some (.string ⟨#[]⟩)) := Lib.hid (fun j hj => by
      rw [← hM]; unfold madeCells
      rw [Array.getElem?_map, Array.getElem?_range]
      simp [hj, Value.cells, Nat.mod_one])
    have hmk : (Instr.makeSlice 49 (.int .i64 n) (.int .i64 n)).run Tryz.prog w = .ok (.slice (some ⟨w.heap.size, 0, Option.none⟩) n n) (w.alloc (.cells M 9)) := by
      have h := run_make (P := Tryz.prog) w 49 9 i0 (.string ⟨#[]⟩) (by kernel_rfl) hi hz0 .i64 .i64 (n : Int) (n : Int) (by omega) (by omega) (by rw [hz2]; omega) (by omega)
      rw [hz1, Int.toNat_natCast, Nat.mul_one, hM] at h
      exact h
    clear k1 hv hn' hb1 hp hr hM
    go_enter Tryz.func19, Tryz.ntmps19
    go_upto_region 3 with fail
    go_cut [7] (fun p w1 => p = .slice (some ⟨w.heap.size, 0, none⟩) n n ∧ Hid (TxR w.heap.size w1 n (fun _ => [])) ∧ Hid (RowT B w1 lv Ls) ∧ Hid (Below w.heap.size w w1))
    case first =>
      go_wp2
      go_meet
      refine ⟨rfl, Lib.hid ⟨by simp, fun j hj => ⟨?_, by rw [World.frozen?_alloc_new]⟩⟩, Lib.hid (HR.out.below ((Below.refl _ _).alloc (Nat.le_refl _) _)), Lib.hid ((Below.refl _ _).alloc (Nat.le_refl _) _)⟩
      rw [World.cell?_alloc_new]
      exact HM.out j hj
    case rest =>
    obtain ⟨w1, rfl⟩ : ∃ x : World, x = wc := ⟨_, rfl⟩
    obtain ⟨rfl, T1, R1, B1⟩ := hcut
    have HO := Lib.hid (own_old HR.out)
    clear hmk HM
    go_wp2_with fail
    go_loopw [19] (fun iv wr => ∃ k : Nat, k ≤ n ∧ iv = .int .i64 k ∧ Hid (TxR w.heap.size wr n (fun j => if j < k then Lib.itoa (L.getD j 0) else [])) ∧ Hid (RowT B wr lv Ls) ∧ Hid (Below w.heap.size w wr)) (fun iv _ => n - (intOf iv).toNat)
    case atStart => exact ⟨0, Nat.zero_le _, rfl, Lib.hid (T1.out.like (fun j _ => by simp)), R1, B1⟩
    case round =>
      obtain ⟨k, hk, rfl, T2, R2, B2⟩ := hrel
      obtain ⟨wo, rfl⟩ : ∃ wo : World, wo = wr := ⟨_, rfl⟩
      by_cases hlt : k < n
      · have h1L : k < L.length := by rw [HN.out]; exact hlt
        have g1 := (B2.out.cell (p := ⟨b1, o1 + k, Option.none⟩) HB1.out).trans (K1.out k h1L)
        have hbx := hb.out _ (List.getElem_mem h1L)
        obtain ⟨X, hX⟩ : ∃ X : Int, L[k] = X := ⟨_, rfl⟩
        have HX : Hid (L.getD k 0 = X) := Lib.hid (by rw [List.getD_eq_getElem?_getD, List.getElem?_eq_getElem h1L]; exact hX)
        rw [hX] at g1 hbx
        obtain ⟨T, hT⟩ : ∃ T, Lib.itoa X = T := ⟨_, rfl⟩
        have HT := Lib.hid hT
        clear hX hT h1L
        go_wp2_with fail
        refine (itoa_to X T _ (HP.out.stays B2.out) hbx.1 hbx.2 HT).mono ?_
        rintro e w3 ⟨rfl, k3⟩
        have T3 := Lib.hid (T2.out.below k3)
        have R3 := Lib.hid (R2.out.below k3)
        have B3 := Lib.hid (bstep B2.out k3)
        have t1 := (T3.out.2 k hlt).1
        have t2 := (T3.out.2 k hlt).2
        have T4 : Hid (TxR w.heap.size (w3.setCell ⟨w.heap.size, k, none⟩ (.string ⟨T.toArray⟩)) n (fun j => if j < k + 1 then Lib.itoa (L.getD j 0) else [])) := Lib.hid ((T3.out.set hlt T).like (fun j _ => by
          by_cases e : j = k
          · subst e
            show (if j = j then T else _) = (if j < j + 1 then Lib.itoa (L.getD j 0) else [])
            rw [if_pos rfl, if_pos (by omega), HX.out, HT.out]
          · by_cases e2 : j < k
            · simp [e, e2, show j < k + 1 by omega]
            · simp [e, e2, show ¬ j < k + 1 by omega]))
        have R4 := Lib.hid (own_out (i := k) R3.out HO.out (.string ⟨T.toArray⟩))
        clear k3 T2 R2 B2 HX HT
        go_wp2
        go_roundw
        case rel => exact ⟨k + 1, by omega, by go_num, T4, R4, Lib.hid (B3.out.setCell (Nat.le_refl _) _)⟩
        case measure => simp [intOf]; omega
      · have hkn : k = n := by omega
        subst hkn
        obtain ⟨J, hJ⟩ : ∃ J, Lib.join (L.map Lib.itoa) [44] = J := ⟨_, rfl⟩
        have HJ := Lib.hid hJ
        have hJl : J.length ≤ 100000 := by
          have q := join_le 44 21 (L.map Lib.itoa) (fun x hx => by
            obtain ⟨z, hz, rfl⟩ := List.mem_map.1 hx
            exact Lib.itoa_length_le z (hb.out z hz).1 (hb.out z hz).2)
          rw [hJ, List.length_map, HN.out] at q
          omega
        have T5 : Hid (TxR w.heap.size wo k (fun j => (L.map Lib.itoa).getD j [])) := Lib.hid (T2.out.like (fun j hj => by
          have hj2 : j < L.length := by rw [HN.out]; exact hj
          simp [hj, hj2]))
        have hLk : (L.map Lib.itoa).length = k := by rw [List.length_map, HN.out]
        have hnm : nm.size = N.length := by rw [← hN.out]; simp
        clear hJ T2
        go_wp2_with fail
        refine (jn_to 44 w.heap.size k (L.map Lib.itoa) J _ T5.out hLk (by omega) HJ (by omega)).mono ?_
        rintro e w3 ⟨rfl, k3⟩
        have R3 := Lib.hid (R2.out.below k3)
        have B3 := Lib.hid (bstep B2.out k3)
        have hB3 : B ≤ w3.heap.size := Nat.le_trans hB B3.out.size
        have hn8 : Ls.length ≤ 100000000 := by omega
        have q1 : ¬ 9223372036854775807 < nm.size + 1 := by omega
        have q2 : ¬ 9223372036854775807 < nm.size + 1 + J.length := by omega
        have HY : Hid (nm ++ ⟨#[61]⟩ ++ ⟨J.toArray⟩ = (⟨(N ++ [61] ++ J).toArray⟩ : ByteArray)) := Lib.hid (ByteArray.ext (Array.toList_inj.1 (by simp [hN.out])))
        have HA : Hid (alX Ls N L = Ls ++ [N ++ [61] ++ J]) := Lib.hid (by rw [alX, if_neg (fun e => h0 (by rw [← HN.out, e]; rfl)), HJ.out])
        go_wp2_with (at_builtin; refine appT rfl _ _ rfl B lv Ls rfl R3.out (N ++ [61] ++ J) _ HY.out rfl hn8 hB3 ?_)
        intro w5 gg gcap r5 g5
        have R5 := Lib.hid (show RowT B w5 _ (alX Ls N L) from by rw [HA.out, List.append_assoc]; exact r5)
        have G5 := Lib.hid g5
        clear r5 g5
        go_wp2
        go_ret
        exact ⟨_, rfl, R5, fun B0 W0 h1 h2 h3 => G5.out.below B0 W0 h1 (h3.trans (B3.out.mono h2)) (Nat.le_trans h2 B3.out.size)⟩
end Rct
end Go.Proofs.YtbeefhmnoihmcaaGreatDoor
