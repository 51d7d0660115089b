/-
  solsticekeep.TwinInts: the same numbers, in memory of their own.
-/
import Derived.Test.YtbeefhmnoihmcaaGreatDoorRcvA
import Derived.Test.YtbeefhmnoihmcaaGreatDoorAppX
import Derived.Laws.OwnMore
namespace Go.Proofs.YtbeefhmnoihmcaaGreatDoor
open Go.RowKit
namespace Twn
open Ap (RowI Grew)
open Rcv (IntV)
set_option maxHeartbeats 6400000 in
set_option maxRecDepth 100000 in
theorem twini_to (v : Value) (L : List Int) (w : World) (hv : IntV w v L) (hL : L.length ≤ 1000000) :
    Calls Tryz.prog 16 #[v] w fun e w' => ∃ v', e = .returned v' ∧ RowI w.heap.size w' v' L ∧ Below w.heap.size w w' := by
  obtain ⟨i0, hi, hz0, hz1, hz2⟩ := info_parts Ap.infoI
  by_cases h0 : L.length = 0
  · obtain rfl : L = [] := List.length_eq_zero_iff.1 h0
    obtain ⟨A, c, rfl⟩ := hv.nil
    by_cases hA : A = none
    · subst hA
      go_enter Tryz.func16, Tryz.ntmps16
      go_wp2
      go_ret
      exact ⟨_, rfl, RowI.nil _ _, Below.refl _ _⟩
    · obtain ⟨ad, rfl⟩ : ∃ ad, A = some ad := Option.ne_none_iff_exists'.1 hA
      go_enter Tryz.func16, Tryz.ntmps16
      go_wp2_with (at_builtin; refine wpList_append_own _ rfl _ _ 22 rfl w.heap.size 3 i0 (.int .i64 0) 1 8 (by kernel_rfl) hi hz0 hz1 hz2 rfl (by decide) _ _ _ rfl (World.ownsRow_nil w _ _ _) ad 0 c [] rfl rfl ?d1 ?d2 ?d3 ?d4 ?d5 ?_)
      case d1 => intro j u hj; simp at hj
      case d2 => intro u hu; simp at hu
      case d3 => unfold maxLen; omega
      case d4 => omega
      case d5 => omega
      intro v' w5 r3 g3 hne
      have hb5 : Below w.heap.size w w5 := (Below.refl _ _).grown g3 (Nat.le_refl _) (fun j hj => by simp [Value.ownBlock] at hj)
      have hT : RowI w.heap.size w5 v' [] := by unfold RowI; simpa using r3
      clear r3 g3 hne
      go_wp2
      go_ret
      exact ⟨_, rfl, hT, hb5⟩
  · obtain ⟨bk, off, c, rfl, hbk, hcell⟩ := hv.form (by omega)
    obtain ⟨n, hn⟩ : ∃ n, L.length = n := ⟨_, rfl⟩
    have HN := Lib.hid hn
    have HC := Lib.hid hcell
    rw [hn] at hL h0 ⊢
    clear hv hcell hn
    go_enter Tryz.func16, Tryz.ntmps16
    go_wp2_with (at_builtin; refine wpList_append_own _ rfl _ _ 22 rfl w.heap.size 3 i0 (.int .i64 0) 1 8 (by kernel_rfl) hi hz0 hz1 hz2 rfl (by decide) _ _ _ rfl (World.ownsRow_nil w _ _ _) ⟨bk, off, none⟩ n c (L.map Ap.iv) rfl ?d0 ?d1 ?d2 ?d3 ?d4 ?d5 ?_)
    case d0 => rw [List.length_map, HN.out, Nat.mul_one]
    case d1 =>
      intro j u hj
      rw [List.getElem?_map] at hj
      obtain ⟨a, ha, rfl⟩ := Option.map_eq_some_iff.1 hj
      obtain ⟨hj2, rfl⟩ := List.getElem?_eq_some_iff.1 ha
      rw [show (⟨bk, off, none⟩ : Addr).add j = ⟨bk, off + j, none⟩ from by simp [Addr.add]]
      exact HC.out j hj2
    case d2 =>
      intro u hu
      obtain ⟨t, _, rfl⟩ := List.mem_map.1 hu
      rfl
    case d3 => unfold maxLen; omega
    case d4 => omega
    case d5 => omega
    intro v' w5 r3 g3 hne
    have hb5 : Below w.heap.size w w5 := (Below.refl _ _).grown g3 (Nat.le_refl _) (fun j hj => by simp [Value.ownBlock] at hj)
    have hT : RowI w.heap.size w5 v' L := by unfold RowI; rw [HN.out]; simpa using r3
    clear r3 g3 hne
    go_wp2
    go_ret
    exact ⟨_, rfl, hT, hb5⟩
end Twn
end Go.Proofs.YtbeefhmnoihmcaaGreatDoor
