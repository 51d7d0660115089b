/-
  Package escape, at the waking call's texts: Unlist.
-/
import Derived.Test.YtbfknaccffiafaaEscB
import Derived.LoopN
import Derived.Lib.Strings
namespace Go.Proofs.Ytbfknaccffiafaa
open Go.RowKit
namespace Esc
theorem owns_below {w w' : World} {B : Nat} {e : TypeId} {size : Nat} {v : Value} {n : Nat} {xs : List Value} (h : w.ownsRow B e size v n xs) (hb : Below w.heap.size w w') : w'.ownsRow B e size v n xs := by
  obtain ⟨hl, h0 | ⟨g, cap, cur, hv, hB, hh, r⟩⟩ := h
  · exact ⟨hl, .inl h0⟩
  · have hg : g < w.heap.size := by
      rcases Nat.lt_or_ge g w.heap.size with h1 | h1
      · exact h1
      · rw [Array.getElem?_eq_none h1] at hh
        cases hh
    exact ⟨hl, .inr ⟨g, cap, cur, hv, hB, by rw [hb.block g hg]; exact hh, r⟩⟩
theorem is : (Try.prog.info? 9).map (fun i => (i.zero, i.size, i.bytes)) = some (some (.string ⟨#[]⟩), 1, 16) := by kernel_rfl
theorem wk_g1 : getR [97, 92, 44, 98] = ([97, 44, 98], 0) := by decide +kernel
theorem wk_g2 : getR [99] = ([99], 0) := by decide +kernel
set_option maxHeartbeats 6400000 in
set_option maxRecDepth 100000 in
theorem unl_wk (s : ByteArray) (w : World) (hS : Hid (s.data.toList = [97, 92, 44, 98, 44, 99])) :
    Calls Try.prog 11 #[.string s] w fun e w' => ∃ v, e = .returned (.tuple #[v, .int .i64 0]) ∧ w'.ownsRow w.heap.size 9 1 v 2 [.string ⟨#[97, 44, 98]⟩, .string ⟨#[99]⟩] ∧ Below w.heap.size w w' := by
  have z : s.size = 6 := by have := congrArg List.length hS.out; simpa using this
  have gx : ∀ (k : Nat) (h : k < s.size), s[k] = ([97, 92, 44, 98, 44, 99] : List UInt8)[k]'(by rw [z] at h; exact h) := fun k h => by
    have : s[k] = s.data.toList[k]'(by simpa using h) := by simp [ByteArray.getElem_eq_getElem_data]
    rw [this]
    exact List.getElem_of_eq hS.out _
  have g0 : s[0]'(by omega) = 97 := gx 0 (by omega)
  have g1 : s[1]'(by omega) = 92 := gx 1 (by omega)
  have g3 : s[3]'(by omega) = 98 := gx 3 (by omega)
  have g4 : s[4]'(by omega) = 44 := gx 4 (by omega)
  have g5 : s[5]'(by omega) = 99 := gx 5 (by omega)
  have E1 : Hid ((s.extract 0 4).data.toList = [97, 92, 44, 98]) := Lib.hid (by rw [Lib.extract_data, hS.out]; rfl)
  have E2 : Hid ((s.extract 5 6).data.toList = [99]) := Lib.hid (by rw [Lib.extract_data, hS.out]; rfl)
  have Z1 : Hid ((s.extract 0 4).size ≤ 1000000) := Lib.hid (by rw [Lib.size_eq, E1.out]; decide)
  have Z2 : Hid ((s.extract 5 6).size ≤ 1000000) := Lib.hid (by rw [Lib.size_eq, E2.out]; decide)
  clear gx
  obtain ⟨i0, hi, hz0, hz1, hz2⟩ := info_parts is
  go_enter Try.func11, Try.ntmps11
  go_wp2
  refine wp_loop_rounds 3 ?_
  rw [rounds_succ]
  go_wp2
  refine wp_loop_rounds 4 ?_
  rw [rounds_succ]
  go_wp2
  rw [rounds_succ]
  go_wp2
  rw [rounds_succ]
  go_wp2
  rw [rounds_succ]
  go_wp2_with fail
  refine (get_to _ _ _ _ _ Z1.out E1 (Lib.hid wk_g1)).mono ?_
  rintro e w1 ⟨rfl, b1⟩
  go_wp2_with (at_builtin; refine wpList_append_own _ rfl _ _ 22 rfl w.heap.size 9 i0 (.string ⟨#[]⟩) 1 16 (by kernel_rfl) hi hz0 hz1 hz2 rfl (by decide) _ _ _ rfl (World.ownsRow_nil _ _ _ _) ⟨w1.heap.size, 0, none⟩ 1 1 [.string ⟨#[97, 44, 98]⟩] rfl rfl ?c1 ?c2 ?c3 ?c4 ?c5 ?_)
  case c1 =>
    intro j u hj
    match j, hj with
    | 0, hj => simp at hj; subst hj; simp [Addr.add]
  case c2 => intro u hu; simp at hu; subst hu; rfl
  case c3 => decide
  case c4 => decide
  case c5 => have := b1.size; simp; omega
  intro v' w3 r1 g9 hne
  have b3 : Below w.heap.size w w3 := (b1.alloc b1.size _).grown g9 (by have := b1.size; simp; omega) (by intro k hk; cases hk)
  go_wp2
  rw [rounds_succ]
  go_wp2
  refine wp_loop_rounds 2 ?_
  rw [rounds_succ]
  go_wp2
  rw [rounds_succ]
  go_wp2_with fail
  refine (get_to _ _ _ _ _ Z2.out E2 (Lib.hid wk_g2)).mono ?_
  rintro e w4 ⟨rfl, b4⟩
  have b5 := b3.trans (b4.mono b3.size)
  have r2 := owns_below r1 b4
  clear r1 g9 hne b4
  go_wp2_with (at_builtin; refine wpList_append_own _ rfl _ _ 22 rfl w.heap.size 9 i0 (.string ⟨#[]⟩) 1 16 (by kernel_rfl) hi hz0 hz1 hz2 rfl (by decide) _ _ _ rfl (r2.alloc _) ⟨w4.heap.size, 0, none⟩ 1 1 [.string ⟨#[99]⟩] rfl rfl ?d1 ?d2 ?d3 ?d4 ?d5 ?_)
  case d1 =>
    intro j u hj
    match j, hj with
    | 0, hj => simp at hj; subst hj; simp [Addr.add]
  case d2 => intro u hu; simp at hu; subst hu; rfl
  case d3 => decide
  case d4 => decide
  case d5 => have := b5.size; simp; omega
  intro v'' w5 r3 g3' hne
  have b7 : Below w.heap.size w w5 := (b5.alloc b5.size _).grown g3' (by have := b5.size; simp; omega) (fun k hk => (r2.alloc (Obj.cells #[.string ⟨#[99]⟩] 9)).lt k hk |>.1)
  go_wp2
  rw [rounds_succ]
  go_wp2
  go_ret2
  exact ⟨v'', rfl, r3, b7⟩
end Esc
end Go.Proofs.Ytbfknaccffiafaa
