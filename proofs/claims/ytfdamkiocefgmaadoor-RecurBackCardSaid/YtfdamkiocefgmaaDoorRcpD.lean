/-
  Rows of weekdays that a call owns; recur.readList of weekdays. (Written by gen/gen_rcpd.py.)
-/
import Derived.Test.YtfdamkiocefgmaaDoorRcpC
namespace Go.Proofs.YtfdamkiocefgmaaDoor
open Go.RowKit
namespace Rcp
open Cel
open Spc
open Wrd (MaxL)
open Ap (RowI Grew)
theorem infoD : (Tryd.prog.info? 37).map (fun i => (i.zero, i.size, i.bytes)) = some (some (.agg #[.int .i64 0, .int .i64 0]), 2, 16) := by kernel_rfl
def dvL (L : List (Int × Int)) : List Value := L.flatMap fun d => [.int .i64 d.1, .int .i64 d.2]
theorem dv_len (L : List (Int × Int)) : (dvL L).length = L.length * 2 := by
  induction L with
  | nil => rfl
  | cons d r ih => simp only [dvL, List.flatMap_cons, List.length_append, List.length_cons, List.length_nil] at ih ⊢; omega
theorem dv_at : ∀ (L : List (Int × Int)) (j : Nat) (hj : j < L.length), (dvL L)[j * 2]? = some (.int .i64 L[j].1) ∧ (dvL L)[j * 2 + 1]? = some (.int .i64 L[j].2)
  | [], j, hj => by simp at hj
  | d :: r, 0, _ => by simp [dvL]
  | d :: r, j + 1, hj => by
    have ih := dv_at r j (by simpa using hj)
    have e : dvL (d :: r) = .int .i64 d.1 :: .int .i64 d.2 :: dvL r := rfl
    rw [e, show (j + 1) * 2 = j * 2 + 1 + 1 by omega]
    simpa using ih
/-- A row of weekdays that the call owns. -/
def RowD (B : Nat) (w : World) (v : Value) (L : List (Int × Int)) : Prop := w.ownsRow B 37 2 v L.length (dvL L)
theorem RowD.nil (B : Nat) (w : World) : RowD B w (.slice none 0 0) [] := World.ownsRow_nil _ _ _ _
theorem RowD.below {B : Nat} {w w' : World} {v : Value} {L : List (Int × Int)} (h : RowD B w v L) (hb : Below w.heap.size w w') : RowD B w' v L := Ap.own_below h hb
theorem RowD.days {B : Nat} {w : World} {v : Value} {L : List (Int × Int)} (h : RowD B w v L) : Rcv.DayV w v L := by
  by_cases h0 : L.length = 0
  · rcases h.2 with ⟨h1, h2⟩ | ⟨g, cap, cur, h1, _⟩
    · exact ⟨none, 0, 0, h1, h2.symm, fun j hj => by omega⟩
    · exact ⟨_, _, _, h1, rfl, fun j hj => by omega⟩
  · obtain ⟨g, c, rfl, hb, hl⟩ := World.ownsRow.form h (by omega)
    refine ⟨_, _, _, rfl, rfl, fun j hj => ⟨g, 0, rfl, hl, ?_, ?_⟩⟩
    · rw [Nat.zero_add, World.ownsRow.cellAt h (j * 2) (by omega), (dv_at L j hj).1]
    · rw [Nat.zero_add, World.ownsRow.cellAt h (j * 2 + 1) (by omega), (dv_at L j hj).2]
theorem appD {w : World} {ops : Array Oper} {rest : List Oper} {o : Oper} {a : Act} {Q : Exit → Act → World → Prop} (hgd : o.guard = none) (s x : Operand)
    (ho : o.op = .call { callee := .builtin .append, args := #[s, x], argTypes := #[23, 23] })
    (B : Nat) (v : Value) (L : List (Int × Int)) (hs : a.eval s = v) (hown : RowD B w v L) (y z : Int)
    (hx : a.eval x = .slice (some ⟨w.heap.size, 0, none⟩) 1 1) (hn : L.length ≤ 100000000) (hB : B ≤ w.heap.size)
    (h : ∀ w' g cap, RowD B w' (.slice (some ⟨g, 0, none⟩) (L.length + 1) cap) (L ++ [(y, z)]) → Grew B v w w' → wpList Tryd.prog ops Q rest (a.put o.dst (.slice (some ⟨g, 0, none⟩) (L.length + 1) cap)) w') :
    wpList Tryd.prog ops Q (o :: rest) a (w.alloc (.cells #[.int .i64 y, .int .i64 z] 37)) := by
  obtain ⟨i0, hi0, hz0, hz1, hz2⟩ := info_parts infoD
  refine Ap.appX hgd s x 23 ho B 37 i0 (.agg #[.int .i64 0, .int .i64 0]) 2 16 (by kernel_rfl) hi0 hz0 hz1 hz2 rfl (by decide) v L.length _ hs hown #[.int .i64 y, .int .i64 z] 37 rfl (by intro u hu; simp at hu; rcases hu with rfl | rfl <;> rfl) hx hn (by decide) hB ?_
  intro w' g cap r g' _
  refine h w' g cap ?_ g'
  have e : dvL (L ++ [(y, z)]) = dvL L ++ [.int .i64 y, .int .i64 z] := by simp [dvL]
  unfold RowD
  rw [e, List.length_append]
  exact r
set_option maxHeartbeats 6400000 in
set_option maxRecDepth 100000 in
theorem rld_to (s : ByteArray) (S : List UInt8) (L : List (Int × Int)) (b : Bool) (w : World) (hM : MaxL w) (hT : DayT w) (hs : s.size ≤ 100000) (hS : Hid (s.data.toList = S)) (h : Hid (rlP rdP S = (L, b))) :
    Calls Tryd.prog 42 #[.string s, .func (.func 43) #[] #[]] w fun e w' => ∃ v B, e = .returned (.tuple #[v, .bool b]) ∧ Hid (RowD B w' v L) ∧ w.heap.size ≤ B ∧ Below w.heap.size w w' := by
  obtain ⟨Q, hQ⟩ : ∃ Q, spG 44 [] S = Q := ⟨_, rfl⟩
  have hl : S.length = s.size := by rw [← hS.out]; simp
  have hlen := sp_len (d := 44) S []
  have hsz := sp_sz (d := 44) S []
  rw [hQ] at hlen hsz
  have HQ := Lib.hid hQ
  have HZ : Hid (∀ (j : Nat) (hj : j < Q.length), Q[j].length ≤ 1000000) := Lib.hid (fun j hj => by
    have := hsz _ (List.getElem_mem hj)
    simp at this; omega)
  have HH : Hid ((rlG rdP Q = none → [] = L ∧ false = b) ∧ (∀ M, rlG rdP Q = some M → M = L ∧ true = b)) := Lib.hid (by
    have e := h.out
    rw [rlP, hQ] at e
    exact ⟨fun q => by rw [q] at e; exact Prod.mk.inj e, fun M q => by rw [q] at e; exact Prod.mk.inj e⟩)
  obtain ⟨n, hn⟩ : ∃ n, Q.length = n := ⟨_, rfl⟩
  have HN := Lib.hid hn
  have hn1 : n ≤ 100001 := by omega
  clear hQ hlen hsz h hl hn
  have HT0 := Lib.hid hT
  clear hT
  go_enter Tryd.func42, Tryd.ntmps42
  go_wp2_with fail
  refine (split_to 44 s S Q _ hM (by omega) hS HQ).mono ?_
  rintro e w1 ⟨rfl, hR, hB⟩
  have R := Lib.hid hR
  have B1 := Lib.hid hB
  have hz1 : w.heap.size ≤ w1.heap.size := hB.size
  rw [HN.out]
  clear hR hB
  go_wp2_with fail
  go_loopw [6, 14] (fun lv iv wr => ∃ (k : Nat) (M : List (Int × Int)), k ≤ n ∧ M.length = k ∧ iv = .int .i64 k ∧ Hid (rlG rdP Q = (rlG rdP (Q.drop k)).map (fun x => M ++ x)) ∧ Hid (RowD w1.heap.size wr lv M) ∧ Hid (Below w1.heap.size w1 wr)) (fun _ iv _ => n - (intOf iv).toNat)
  case atStart => exact ⟨0, [], Nat.zero_le _, rfl, rfl, Lib.hid (rl_start Q), Lib.hid (RowD.nil _ _), Lib.hid (Below.refl _ _)⟩
  case round =>
    obtain ⟨k, M, hk, hM2, rfl, HT, HR, B2⟩ := hrel
    obtain ⟨wo, rfl⟩ : ∃ wo : World, wo = wr := ⟨_, rfl⟩
    by_cases hlt : k < n
    · have h1L : k < Q.length := by rw [HN.out]; exact hlt
      have c1 := (R.out.below B2.out |>.2) k h1L
      have hzk := HZ.out k h1L
      obtain ⟨q, hq⟩ : ∃ q, Q[k] = q := ⟨_, rfl⟩
      have Hq := Lib.hid hq
      rw [hq] at c1 hzk
      clear hq
      obtain ⟨x, y, c, hx⟩ : ∃ x y c, rdP q = ((x, y), c) := ⟨_, _, _, rfl⟩
      have HX := Lib.hid hx
      clear hx
      go_wp2_with fail
      refine (rd_to ⟨q.toArray⟩ q x y c _ ((HT0.out.below B1.out).below B2.out) (by show q.toArray.size ≤ _; simpa using hzk) (Lib.hid rfl) HX).mono ?_
      rintro e w2 ⟨rfl, k2⟩
      have HR := Lib.hid (HR.out.below k2)
      have B2 := Lib.hid (bstep B2.out k2)
      clear k2
      cases c with
      | false =>
        obtain ⟨rfl, rfl⟩ := HH.out.1 (rl_no h1L HT.out (by rw [Hq.out, HX.out]))
        clear HH HT HZ
        go_wp2
        go_ret2
        exact ⟨_, w1.heap.size, rfl, Lib.hid (RowD.nil _ _), hz1, (bstep B1.out B2.out).alloc (bstep B1.out B2.out).size _⟩
      | true =>
        have HT2 := Lib.hid (rl_yes h1L HT.out (by rw [Hq.out, HX.out]))
        have hl8 : M.length ≤ 100000000 := by omega
        clear HT HX Hq h1L
        go_upto_region 8 with fail
        have hsz := B2.out.size
        have HR8 := Lib.hid (HR.out.below ((Below.refl _ _).alloc (Nat.le_refl _) (Obj.cells #[.int .i64 x, .int .i64 y] 37)))
        have B8 := Lib.hid (B2.out.alloc B2.out.size (Obj.cells #[.int .i64 x, .int .i64 y] 37))
        have hs8 : w1.heap.size ≤ (w2.alloc (Obj.cells #[.int .i64 x, .int .i64 y] 37)).heap.size := B8.out.size
        have HZ8 : Hid (w2.heap.size + 1 = (w2.alloc (Obj.cells #[.int .i64 x, .int .i64 y] 37)).heap.size) := Lib.hid (by simp)
        go_wp2_with (at_builtin; refine appD rfl _ _ rfl w1.heap.size _ M rfl HR8.out x y (by exact congrArg (fun z => Value.slice (some ⟨z, 0, none⟩) 1 1) HZ8.out) hl8 hs8 ?_)
        intro w5 gg gcap r5 g5
        have B5 := Lib.hid (g5.below w1.heap.size w1 (Nat.le_refl _) B8.out B8.out.size)
        have R5 := Lib.hid r5
        clear r5 g5 HR HR8
        go_wp2
        go_roundw
        case rel => exact ⟨k + 1, M ++ [(x, y)], by omega, by rw [List.length_append]; simp; omega, by go_num, HT2, R5, B5⟩
        case measure => simp [intOf]; omega
    · have hkn : k = n := by omega
      obtain ⟨rfl, rfl⟩ := HH.out.2 M (rl_all (by rw [HN.out]; omega) HT.out)
      clear HH HT
      go_wp2
      go_ret2
      exact ⟨_, w1.heap.size, rfl, HR, hz1, bstep B1.out B2.out⟩
end Rcp
end Go.Proofs.YtfdamkiocefgmaaDoor
