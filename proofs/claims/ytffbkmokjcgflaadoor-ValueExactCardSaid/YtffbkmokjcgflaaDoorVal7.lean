/-
  Package value: Times at the waking call's text.
-/
import Derived.Test.YtffbkmokjcgflaaDoorVal6
import Derived.LoopN
namespace Go.Proofs.YtffbkmokjcgflaaDoor
open Go.RowKit
namespace Val
open Sol Civ Wk
def MaxL (w : World) : Prop := ∃ m, 1 < w.heap.size ∧ w.cell? ⟨1, 0, none⟩ = some (.int .i64 m)
theorem MaxL.stays {w w' : World} (h : MaxL w) (hb : Below w.heap.size w w') : MaxL w' := by
  obtain ⟨m, h1, h2⟩ := h
  exact ⟨m, Nat.lt_of_lt_of_le h1 hb.size, (hb.cell (p := ⟨1, 0, none⟩) h1).trans h2⟩
theorem MaxL.of_shape {w : World} (h : w.ShapedOpen Tryd.prog) : MaxL w := by
  obtain ⟨m, hm⟩ := Tryd.laysM219.s1_3 w h
  refine ⟨m, ?_, hm⟩
  rcases Nat.lt_or_ge 1 w.heap.size with h | h
  · exact h
  · have e : w.cell? ⟨1, 0, none⟩ = none := by
      unfold World.cell?
      rw [Array.getElem?_eq_none h]
    have hm' : w.cell? ⟨1, 0, none⟩ = some (.int .i64 m) := hm
    rw [e] at hm'
    cases hm'
def wkL : List UInt8 := [49, 57, 55, 48, 48, 49, 48, 49, 84, 48, 48, 48, 48, 48, 48, 44, 49, 57, 55, 48, 48, 49, 48, 50, 84, 48, 48, 48, 48, 48, 48]
def wkS : ByteArray := ⟨#[49, 57, 55, 48, 48, 49, 48, 49, 84, 48, 48, 48, 48, 48, 48, 44, 49, 57, 55, 48, 48, 49, 48, 50, 84, 48, 48, 48, 48, 48, 48]⟩
def wkA : ByteArray := ⟨#[49, 57, 55, 48, 48, 49, 48, 49, 84, 48, 48, 48, 48, 48, 48]⟩
def wkB : ByteArray := ⟨#[49, 57, 55, 48, 48, 49, 48, 50, 84, 48, 48, 48, 48, 48, 48]⟩
theorem wk_n : Lib.countB wkS ⟨#[44]⟩ = 1 := by decide +kernel
theorem wk_s : Lib.splitB ⟨#[44]⟩ 0 1 wkS = [wkA, wkB] := by decide +kernel
theorem owns_below {w w' : World} {B : Nat} {e : TypeId} {size : Nat} {v : Value} {n : Nat} {xs : List Value} (h : w.ownsRow B e size v n xs) (hb : Below w.heap.size w w') : w'.ownsRow B e size v n xs := by
  obtain ⟨hl, h0 | ⟨g, cap, cur, hv, hB, hh, r⟩⟩ := h
  · exact ⟨hl, .inl h0⟩
  · have hg : g < w.heap.size := by
      rcases Nat.lt_or_ge g w.heap.size with h1 | h1
      · exact h1
      · rw [Array.getElem?_eq_none h1] at hh
        cases hh
    exact ⟨hl, .inr ⟨g, cap, cur, hv, hB, by rw [hb.block g hg]; exact hh, r⟩⟩
theorem i3 : (Tryd.prog.info? 3).map (fun i => (i.zero, i.size, i.bytes)) = some (some (.int .i64 0), 1, 8) := by kernel_rfl
set_option maxHeartbeats 6400000 in
set_option maxRecDepth 100000 in
theorem times_wk (w : World) (hA : Ahead w) (hsh : MaxL w) :
    Calls Tryd.prog 8 #[.string wkS] w fun e w' => ∃ v, e = .returned (.tuple #[v, .bool false, .int .i64 0]) ∧ w'.ownsRow w.heap.size 3 1 v 2 [.int .i64 0, .int .i64 86400] ∧ Below w.heap.size w w' := by
  have HA := Lib.hid hA
  have HS := Lib.hid hsh
  clear hA hsh
  go_enter Tryd.func8, Tryd.ntmps8
  go_wp2_with fail
  refine (Tryd.strings_Split _ _ HS.out.choose _ (by decide) HS.out.choose_spec.2 (by decide)).mono ?_
  rintro e w1 ⟨rfl, rfl⟩
  rw [wk_n, wk_s]
  go_wp2_with fail
  have hb0 : Below w.heap.size w (w.alloc (Obj.cells #[.string wkA, .string wkB] 9)) := (Below.refl _ _).alloc (by simp) _
  have k0 : (w.alloc (Obj.cells #[.string wkA, .string wkB] 9)).cell? ⟨w.heap.size, 0, none⟩ = some (.string wkA) := by go_simp
  have k1 : (w.alloc (Obj.cells #[.string wkA, .string wkB] 9)).cell? ⟨w.heap.size, 1, none⟩ = some (.string wkB) := by go_simp
  have hz : w.heap.size < (w.alloc (Obj.cells #[.string wkA, .string wkB] 9)).heap.size := by simp
  generalize w.alloc (Obj.cells #[.string wkA, .string wkB] 9) = w1 at hb0 k0 k1 hz ⊢
  refine wp_loop_rounds 3 ?_
  rw [rounds_succ]
  go_wp2_with fail
  refine (ptime_to _ _ 0 0 false _ (HA.out.stays hb0) (by decide) (Lib.hid rfl) (Lib.hid wk_5.1)).mono ?_
  rintro e w2 ⟨rfl, hb1⟩
  have k2 : w2.cell? ⟨w.heap.size, 1, none⟩ = some (.string wkB) := (hb1.cell hz).trans k1
  have hsz : w.heap.size ≤ w2.heap.size := Nat.le_trans hb0.size hb1.size
  obtain ⟨i0, hi, hz0, hz1, hz2⟩ := info_parts i3
  go_wp2_with (at_builtin; refine wpList_append_own _ rfl _ _ 30 rfl w.heap.size 3 i0 (.int .i64 0) 1 8 (by kernel_rfl) hi hz0 hz1 hz2 rfl (by decide) _ _ _ rfl (World.ownsRow_nil _ _ _ _) ⟨w2.heap.size, 0, none⟩ 1 1 [.int .i64 0] rfl rfl ?c1 ?c2 ?c3 ?c4 ?c5 ?_)
  case c1 =>
    intro j u hj
    match j, hj with
    | 0, hj => simp at hj; subst hj; simp [Addr.add]
  case c2 => intro u hu; simp at hu; subst hu; rfl
  case c3 => decide
  case c4 => decide
  case c5 => simp; omega
  intro v' w3 r1 g1 hne
  have hb3 : Below w.heap.size w w3 := ((hb0.trans (hb1.mono hb0.size)).alloc hsz _).grown g1 (by simp; omega) (by intro k hk; cases hk)
  have hb4 : Below w1.heap.size w1 w3 := (hb1.alloc hb1.size _).grown g1 (by have := hb1.size; simp; omega) (by intro k hk; cases hk)
  have k3 : w3.cell? ⟨w.heap.size, 1, none⟩ = some (.string wkB) := (hb4.cell hz).trans k1
  go_wp2_with fail
  rw [rounds_succ]
  go_wp2_with fail
  refine (ptime_to _ _ 86400 0 false _ (HA.out.stays hb3) (by decide) (Lib.hid rfl) (Lib.hid wk_5.2)).mono ?_
  rintro e w4 ⟨rfl, hb5⟩
  have hz3 : w.heap.size ≤ w3.heap.size := hb3.size
  have hb6 : Below w.heap.size w w4 := hb3.trans (hb5.mono hz3)
  have r2 : w4.ownsRow w.heap.size 3 1 v' 1 [.int .i64 0] := owns_below r1 hb5
  clear r1 g1 hne hb4
  go_wp2_with (at_builtin; refine wpList_append_own _ rfl _ _ 30 rfl w.heap.size 3 i0 (.int .i64 0) 1 8 (by kernel_rfl) hi hz0 hz1 hz2 rfl (by decide) _ _ _ rfl (r2.alloc _) ⟨w4.heap.size, 0, none⟩ 1 1 [.int .i64 86400] rfl rfl ?d1 ?d2 ?d3 ?d4 ?d5 ?_)
  case d1 =>
    intro j u hj
    match j, hj with
    | 0, hj => simp at hj; subst hj; simp [Addr.add]
  case d2 => intro u hu; simp at hu; subst hu; rfl
  case d3 => decide
  case d4 => decide
  case d5 => have := hb6.size; simp; omega
  intro v'' w5 r3 g3 hne
  have hb7 : Below w.heap.size w w5 := (hb6.alloc hb6.size _).grown g3 (by have := hb6.size; simp; omega) (fun k hk => (r2.alloc (Obj.cells #[.int .i64 86400] 3)).lt k hk |>.1)
  go_wp2_with fail
  rw [rounds_succ]
  go_wp2
  go_ret3
  exact ⟨v'', rfl, r3, hb7⟩
end Val
end Go.Proofs.YtffbkmokjcgflaaDoor
