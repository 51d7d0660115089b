/-
  Package tree: Kids of whatever list of components.
-/
import Derived.Test.YtdakpncfophjnaaTrA
namespace Go.Proofs.Ytdakpncfophjnaa
open Go.RowKit
namespace Tre
open Lin CutB Cel Ap
open Opn (TxtV)
def i64B (n : Int) : Prop := -9223372036854775808 ≤ n ∧ n ≤ 9223372036854775807
/-- A row of numbers of the call's own. -/
def KdQ (R : List Int) (w : World) (e : Ending) (w' : World) : Prop := ∃ v, e = .returned v ∧ RowI w.heap.size w' v R ∧ Below w.heap.size w w'
theorem own_nat (L : List CV) (m : Nat) (h : m < L.length) : ownAt L (m : Int) = (L[m]).own := by
  rw [ownAt, Int.toNat_natCast, List.getElem?_eq_getElem h]; rfl
theorem kd_step (L : List CV) (bh : Int) (f : Nat) (i : Int) (acc : List Int) : kdG L bh (f + 1) i acc = if i < bh then (if ownAt L i < 0 ∨ bh - i - 1 < ownAt L i then [] else kdG L bh f (i + 1 + ownAt L i) (acc ++ [i])) else acc := rfl
theorem kq_nil (w w' : World) (hb : Below w.heap.size w w') : KdQ [] w (.returned (.slice none 0 0)) w' := ⟨_, rfl, RowI.nil _ _, hb⟩
set_option maxHeartbeats 3200000 in
set_option maxRecDepth 100000 in
theorem kd_no (A : Option Addr) (n c : Nat) (at' : Int) (w : World) (_ : n ≤ 100000000) (hi : i64B at') (h : at' < 0 ∨ (n : Int) ≤ at') :
    Calls Try.prog 32 #[.slice A n c, .int .i64 at'] w (KdQ [] w) := by
  obtain ⟨h1, h2⟩ := hi
  by_cases h0 : at' < 0
  · clear h
    go_enter Try.func32, Try.ntmps32
    go_wp2
    go_ret
    exact kq_nil _ _ (Below.refl _ _)
  · have h3 : (n : Int) ≤ at' := by omega
    clear h
    go_enter Try.func32, Try.ntmps32
    go_wp2
    go_ret
    exact kq_nil _ _ (Below.refl _ _)
set_option maxHeartbeats 3200000 in
set_option maxRecDepth 100000 in
theorem kd_bad (b off n c m : Nat) (o : Int) (w : World) (_ : n ≤ 100000000) (hm : m < n) (ho : i64B o) (hc : w.cell? ⟨b, off + m * 3 + 2, none⟩ = some (.int .i64 o)) (h : o < 0 ∨ (n : Int) - m - 1 < o) :
    Calls Try.prog 32 #[.slice (some ⟨b, off, none⟩) n c, .int .i64 (m : Int)] w (KdQ [] w) := by
  obtain ⟨h1, h2⟩ := ho
  by_cases h0 : o < 0
  · clear h
    go_enter Try.func32, Try.ntmps32
    go_wp2
    go_ret
    exact kq_nil _ _ (Below.refl _ _)
  · have h3 : (n : Int) - m - 1 < o := by omega
    clear h
    go_enter Try.func32, Try.ntmps32
    go_wp2
    go_ret
    exact kq_nil _ _ (Below.refl _ _)
set_option maxHeartbeats 12800000 in
set_option maxRecDepth 100000 in
theorem kd_ok (b off n c m q : Nat) (L : List CV) (R : List Int) (w : World) (hnl : Hid (L.length = n)) (hn : n ≤ 100000000) (hm : m < n) (hq : q ≤ n - m - 1) (hbl : b < w.heap.size) (hc0 : w.cell? ⟨b, off + m * 3 + 2, none⟩ = some (.int .i64 (q : Int))) (hc : Hid (CmpC w b off L)) (hL : Hid (∀ c ∈ L, i64B c.own))
    (hR : Hid (kdG L ((m : Int) + 1 + q) (L.length + 1) ((m : Int) + 1) [] = R)) :
    Calls Try.prog 32 #[.slice (some ⟨b, off, none⟩) n c, .int .i64 (m : Int)] w (KdQ R w) := by
  obtain ⟨e, he⟩ : ∃ e : Nat, m + 1 + q = e := ⟨_, rfl⟩
  have hen : e ≤ n := by omega
  have HR : Hid (kdG L (e : Int) (n + 1) ((m + 1 : Nat) : Int) [] = R) := Lib.hid (by rw [← hR.out, hnl.out, ← he]; simp)
  have x1 : ¬ (q : Int) < 0 := by omega
  have x2 : ¬ (n : Int) - m - 1 < (q : Int) := by omega
  go_enter Try.func32, Try.ntmps32
  go_wp2_with fail
  rw [show ((m : Int) + 1 + (q : Int)) = (e : Int) by omega]
  go_loopw [5, 7] (fun sv iv wr => ∃ (k f : Nat) (acc : List Int) (A : Option Addr) (cp : Nat), sv = .slice A acc.length cp ∧ iv = .int .i64 k ∧ k ≤ e ∧ acc.length ≤ k ∧ e < k + f ∧ Hid (kdG L (e : Int) f (k : Int) acc = R) ∧ Hid (RowI w.heap.size wr (.slice A acc.length cp) acc) ∧ Below w.heap.size w wr) (fun _ iv _ => e - (intOf iv).toNat)
  case atStart => exact ⟨m + 1, n + 1, [], none, 0, rfl, rfl, by omega, by simp, by omega, HR, Lib.hid (RowI.nil _ _), Below.refl _ _⟩
  case round =>
    obtain ⟨k, f, acc, A, cp, rfl, rfl, hk, hacc, hf, hG, hrow, hb⟩ := hrel
    obtain ⟨f, rfl⟩ : ∃ g, f = g + 1 := ⟨f - 1, by omega⟩
    obtain ⟨al, hal⟩ : ∃ x, acc.length = x := ⟨_, rfl⟩
    have HAL := Lib.hid hal
    rw [hal] at hrow hacc ⊢
    by_cases hlt : k < e
    · have hkl : k < L.length := by rw [hnl.out]; omega
      obtain ⟨sv, _, _, d2, _⟩ := hc.out k hkl
      obtain ⟨o, ho⟩ : ∃ o, (L[k]'hkl).own = o := ⟨_, rfl⟩
      obtain ⟨o1, o2⟩ := hL.out _ (List.getElem_mem hkl)
      rw [ho] at d2 o1 o2
      have y2 := (hb.cell (p := ⟨b, off + k * 3 + 2, none⟩) hbl).trans d2
      have hG' := hG.out
      rw [kd_step, if_pos (by omega), own_nat L k hkl, ho] at hG'
      have HG := Lib.hid hG'
      clear hG' hal d2 ho
      by_cases h0 : o < 0
      · have HE : Hid (([] : List Int) = R) := Lib.hid (by rw [← HG.out, if_pos (Or.inl h0)])
        go_wp2
        go_ret
        rw [← HE.out]
        exact kq_nil _ _ hb
      · by_cases h3 : (e : Int) - k - 1 < o
        · have HE : Hid (([] : List Int) = R) := Lib.hid (by rw [← HG.out, if_pos (Or.inr h3)])
          go_wp2
          go_ret
          rw [← HE.out]
          exact kq_nil _ _ hb
        · obtain ⟨p, hp⟩ : ∃ p : Nat, o = (p : Int) := ⟨o.toNat, by omega⟩
          subst hp
          have HE : Hid (kdG L (e : Int) f ((k + 1 + p : Nat) : Int) (acc ++ [(k : Int)]) = R) := Lib.hid (by
            rw [← HG.out, if_neg (by omega)]
            congr 1)
          have hB := hb.size
          clear hG HG
          go_wp2_with (at_builtin; refine appI rfl _ _ rfl w.heap.size _ acc rfl hrow.out (k : Int) rfl (by rw [HAL.out]; omega) hB ?_)
          intro w' g cap r5 g5
          have HB := Lib.hid (g5.below w.heap.size w (Nat.le_refl _) hb hb.size)
          have HW := Lib.hid r5
          rw [HAL.out] at HW ⊢
          have y3 := (HB.out.cell (p := ⟨b, off + k * 3 + 2, none⟩) hbl).trans ((hb.cell (p := ⟨b, off + k * 3 + 2, none⟩) hbl).symm.trans y2)
          have e1 : (acc ++ [(k : Int)]).length = al + 1 := by rw [List.length_append, HAL.out]; rfl
          have E1 := Lib.hid e1
          clear r5 g5 hb y2 hrow e1
          go_wp2
          go_roundw
          case rel => exact ⟨k + 1 + p, f, acc ++ [(k : Int)], _, cap, by rw [E1.out], by go_num, by omega, by rw [E1.out]; omega, by omega, HE, by rw [E1.out]; exact HW, HB.out⟩
          case measure => simp [intOf]; omega
    · have HE : Hid (acc = R) := Lib.hid (by
        have h1 := hG.out
        rw [kd_step, if_neg (by omega)] at h1
        exact h1)
      go_wp2
      go_ret
      refine ⟨_, rfl, ?_, hb⟩
      rw [← HE.out]
      exact hrow.out
theorem kd_to (v : Value) (L : List CV) (at' : Int) (R : List Int) (w : World) (hv : CmpsV w v L) (hn : L.length ≤ 100000000) (hi : i64B at') (hL : ∀ c ∈ L, i64B c.own) (hR : Hid (kids L at' = R)) :
    Calls Try.prog 32 #[v, .int .i64 at'] w (KdQ R w) := by
  have hR' := hR.out
  by_cases h : at' < 0 ∨ (L.length : Int) ≤ at'
  · obtain ⟨A, c, rfl⟩ := hv.slice
    have : kdR L at' = false := decide_eq_false (by omega)
    rw [kids, this, if_neg (by decide)] at hR'
    subst hR'
    exact kd_no A _ c at' w hn hi h
  · obtain ⟨m, rfl⟩ : ∃ m : Nat, at' = (m : Int) := ⟨at'.toNat, by omega⟩
    have hm : m < L.length := by omega
    obtain ⟨b, off, c, rfl, hb, hc⟩ := hv.form (by omega)
    obtain ⟨sv, _, _, c2, _⟩ := hc m hm
    have hown := own_nat L m hm
    have hb2 := hL _ (List.getElem_mem hm)
    obtain ⟨o, ho⟩ : ∃ o, (L[m]'hm).own = o := ⟨_, rfl⟩
    rw [ho] at c2 hown hb2
    by_cases h2 : o < 0 ∨ (L.length : Int) - m - 1 < o
    · have : kdR L (m : Int) = false := decide_eq_false (by rw [hown]; omega)
      rw [kids, this, if_neg (by decide)] at hR'
      subst hR'
      exact kd_bad b off _ c m o w hn hm hb2 c2 h2
    · obtain ⟨q, rfl⟩ : ∃ q : Nat, o = (q : Int) := ⟨o.toNat, by omega⟩
      have : kdR L (m : Int) = true := decide_eq_true (by rw [hown]; omega)
      rw [kids, this, if_pos rfl, hown] at hR'
      exact kd_ok b off _ c m q L R w (Lib.hid rfl) hn hm (by omega) hb c2 (Lib.hid hc) (Lib.hid hL) (Lib.hid hR')
end Tre
end Go.Proofs.Ytdakpncfophjnaa
