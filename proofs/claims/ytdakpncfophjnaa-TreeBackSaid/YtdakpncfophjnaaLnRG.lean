/-
  Twins of texts, wherever they came from.
-/
import Derived.Test.YtdakpncfophjnaaLinY
import Derived.Test.YtdakpncfophjnaaLinU
namespace Go.Proofs.Ytdakpncfophjnaa
open Go.RowKit
namespace Lin
open CutB Cel
open Opn (TxtV)
open Rws (RowS)
set_option maxHeartbeats 3200000 in
set_option maxRecDepth 100000 in
theorem twt_to (v : Value) (L : List (List UInt8)) (w : World) (hv : TxtV w v L) (hL : L.length ≤ 1000000) :
    Calls Try.prog 38 #[v] w fun e w' => ∃ u, e = .returned u ∧ RowS w.heap.size w' u L ∧ Below w.heap.size w w' := by
  obtain ⟨i0, hi, hz0, hz1, hz2⟩ := info_parts Esc.is
  by_cases h0 : L.length = 0
  · obtain rfl : L = [] := List.length_eq_zero_iff.1 h0
    obtain ⟨A, c, rfl⟩ := hv.nil
    by_cases hA : A = none
    · subst hA
      go_enter Try.func38, Try.ntmps38
      go_wp2
      go_ret
      exact ⟨_, rfl, RowS.nil _ _, Below.refl _ _⟩
    · obtain ⟨ad, rfl⟩ : ∃ ad, A = some ad := Option.ne_none_iff_exists'.1 hA
      go_enter Try.func38, Try.ntmps38
      go_wp2_with (at_builtin; refine wpList_append_own _ rfl _ _ 32 rfl w.heap.size 9 i0 (.string ⟨#[]⟩) 1 16 (by kernel_rfl) hi hz0 hz1 hz2 rfl (by decide) _ _ _ rfl (World.ownsRow_nil w _ _ _) ad 0 c [] rfl rfl ?d1 ?d2 ?d3 ?d4 ?d5 ?_)
      case d1 => intro j u hj; simp at hj
      case d2 => intro u hu; simp at hu
      case d3 => unfold maxLen; omega
      case d4 => omega
      case d5 => omega
      intro v' w5 r3 g3 hne
      have hb5 : Below w.heap.size w w5 := (Below.refl _ _).grown g3 (Nat.le_refl _) (fun j hj => by simp [Value.ownBlock] at hj)
      have hT : Hid (RowS w.heap.size w5 v' []) := Lib.hid (by first | exact r3 | (unfold RowS; simpa using r3))
      clear r3 g3 hne
      go_wp2
      go_ret
      exact ⟨_, rfl, hT.out, hb5⟩
  · obtain ⟨bk, off, c, rfl, hbk, hcell⟩ := hv.form (by omega)
    have HC := Lib.hid hcell
    obtain ⟨n, hn⟩ : ∃ n, L.length = n := ⟨_, rfl⟩
    have HN := Lib.hid hn
    rw [hn] at hL h0 ⊢
    clear hv hcell hn
    go_enter Try.func38, Try.ntmps38
    go_wp2_with (at_builtin; refine wpList_append_own _ rfl _ _ 32 rfl w.heap.size 9 i0 (.string ⟨#[]⟩) 1 16 (by kernel_rfl) hi hz0 hz1 hz2 rfl (by decide) _ _ _ rfl (World.ownsRow_nil w _ _ _) ⟨bk, off, none⟩ n c (L.map Opn.sv) rfl ?d0 ?d1 ?d2 ?d3 ?d4 ?d5 ?_)
    case d0 => rw [List.length_map, HN.out, Nat.mul_one]
    case d1 =>
      intro j u hj
      rw [List.getElem?_map] at hj
      have hj2 : j < L.length := by
        rcases Nat.lt_or_ge j L.length with h | h
        · exact h
        · rw [List.getElem?_eq_none h] at hj; cases hj
      rw [List.getElem?_eq_getElem hj2] at hj
      injection hj with hj
      subst hj
      rw [show (⟨bk, off, none⟩ : Addr).add j = ⟨bk, off + j, none⟩ from by simp [Addr.add]]
      exact HC.out j hj2
    case d2 =>
      intro u hu
      obtain ⟨t, _, rfl⟩ := List.mem_map.1 hu
      rfl
    case d3 => unfold maxLen; omega
    case d4 => omega
    case d5 => omega
    intro v' w5 r3 g3 hne
    have hb5 : Below w.heap.size w w5 := (Below.refl _ _).grown g3 (Nat.le_refl _) (fun j hj => by simp [Value.ownBlock] at hj)
    have hT : Hid (RowS w.heap.size w5 v' L) := Lib.hid (by
      have h := r3
      rw [← HN.out] at h
      first | exact h | (unfold RowS; simpa using h))
    clear r3 g3 hne
    go_wp2
    go_ret
    exact ⟨_, rfl, hT.out, hb5⟩
end Lin
end Go.Proofs.Ytdakpncfophjnaa
