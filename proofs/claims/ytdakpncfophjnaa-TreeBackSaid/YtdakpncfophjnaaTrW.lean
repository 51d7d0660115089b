/-
  Package tree: a writer: its builder is its first field; put.
-/
import Derived.Test.YtdakpncfophjnaaTrC
import Derived.Test.YtdakpncfophjnaaBldK
import Derived.Lib.UnsafeStr
import Derived.Lib.OthersKept
namespace Go.Proofs.Ytdakpncfophjnaa
open Go.RowKit
namespace Tre
open Lin CutB Cel Ap
open Opn (TxtV)
/-- A writer in a block of its own: what it has written, its error. -/
def WrtP (B b : Nat) (p : Value) (l : List UInt8) (e : Int) (w : World) : Prop := B ≤ b ∧ ∃ v, w.heap[b]? = some (.cells #[p, v, .int .i64 e] 84 (0, 0)) ∧ w.ownsRow B 5 1 v l.length (Lib.byteCells l)
def Wrt (B b : Nat) (l : List UInt8) (e : Int) (w : World) : Prop := WrtP B b (.pointer none) l e w ∨ WrtP B b (.pointer (some ⟨b, 0, none⟩)) l e w
theorem Wrt.any {B b : Nat} {l : List UInt8} {e : Int} {w : World} (h : Wrt B b l e w) : ∃ p v, B ≤ b ∧ w.heap[b]? = some (.cells #[p, v, .int .i64 e] 84 (0, 0)) ∧ w.ownsRow B 5 1 v l.length (Lib.byteCells l) := by
  rcases h with ⟨hB, v, h1, h2⟩ | ⟨hB, v, h1, h2⟩
  · exact ⟨_, v, hB, h1, h2⟩
  · exact ⟨_, v, hB, h1, h2⟩
theorem blk_lt {w : World} {b : Nat} {o : Obj} (h : w.heap[b]? = some o) : b < w.heap.size := (Array.getElem?_eq_some_iff.1 h).1
theorem Wrt.lt {B b : Nat} {l : List UInt8} {e : Int} {w : World} (h : Wrt B b l e w) : B ≤ b ∧ b < w.heap.size := by
  obtain ⟨p, v, hB, h1, _⟩ := h.any
  exact ⟨hB, blk_lt h1⟩
theorem Wrt.below {B b : Nat} {l : List UInt8} {e : Int} {w w' : World} (h : Wrt B b l e w) (hb : Below w.heap.size w w') : Wrt B b l e w' := by
  rcases h with ⟨hB, v, h1, h2⟩ | ⟨hB, v, h1, h2⟩
  · exact Or.inl ⟨hB, v, (hb.block b (blk_lt h1)).trans h1, own_below h2 hb⟩
  · exact Or.inr ⟨hB, v, (hb.block b (blk_lt h1)).trans h1, own_below h2 hb⟩
theorem Wrt.err {B b : Nat} {l : List UInt8} {e : Int} {w : World} (h : Wrt B b l e w) : w.cell? ⟨b, 2, none⟩ = some (.int .i64 e) ∧ w.frozen? ⟨b, 2, none⟩ = false := by
  obtain ⟨p, v, _, h1, _⟩ := h.any
  exact ⟨by rw [Lib.cell_of_heap h1]; rfl, Lib.frozen_of_heap h1 2⟩
theorem Wrt.new (w : World) : Wrt w.heap.size w.heap.size [] 0 (w.alloc (.cells #[.pointer none, .slice none 0 0, .int .i64 0] 84)) :=
  Or.inl ⟨Nat.le_refl _, .slice none 0 0, heap_alloc_new w _, World.ownsRow_nil _ _ _ _⟩
theorem Wrt.fail {B b : Nat} {l : List UInt8} {e : Int} {w : World} (h : Wrt B b l e w) (e' : Int) : Wrt B b l e' (w.setCell ⟨b, 2, none⟩ (.int .i64 e')) := by
  have key : ∀ p, WrtP B b p l e w → WrtP B b p l e' (w.setCell ⟨b, 2, none⟩ (.int .i64 e')) := fun p ⟨hB, v, h1, h2⟩ =>
    ⟨hB, v, by simp [World.setCell, Array.getElem?_modify, h1], ownsRow_setCell_other h2 (Lib.ownBlock_ne h2 h1 (by decide)) _⟩
  rcases h with h | h
  · exact Or.inl (key _ h)
  · exact Or.inr (key _ h)
theorem others_below {e : TypeId} {b : Option Nat} {w w' : World} (h : Below w.heap.size w w') : Lib.OthersKept e b w w' := fun k _ hk _ _ => (h.block k (blk_lt hk)).trans hk
/-- What holds of a writer behind a call: what is below stands, and so does all but its rows of bytes. -/
def WrtQ (B b : Nat) (s : WS) (w w' : World) : Prop := Wrt B b s.1 s.2 w' ∧ Below B w w' ∧ Lib.OthersKept 5 (some b) w w'
set_option maxRecDepth 100000 in
theorem wcc_fresh (b : Nat) (w : World) (h0 : w.cell? ⟨b, 0, none⟩ = some (.pointer none)) (hsh : w.shape? b = some (84, 3)) (hfz : w.frozen? ⟨b, 0, none⟩ = false) :
    Calls Try.prog 61 #[.pointer (some ⟨b, 0, none⟩)] w fun e w' => e = .returned (.tuple #[]) ∧ w' = w.setCell ⟨b, 0, none⟩ (.pointer (some ⟨b, 0, none⟩)) := by
  obtain ⟨j, hj, hjs⟩ := Option.map_eq_some_iff.1 Bld.infoB
  go_enter Try.func61, Try.ntmps61
  go_wp2
  rw [Lib.run_to_unsafe w ⟨b, 0, none⟩ Try.underlying66 Try.underlying113 hj (by rw [hjs]; decide) hsh (Nat.zero_lt_succ 2)]
  simp only [Result.andThen]
  rw [Oper.upon_value]
  go_wp2
  rw [run_callFunc_extern Try.func77 (by kernel_rfl) (by kernel_rfl) (by kernel_rfl) (e := Extern.AbiNoEscape.same) (by kernel_rfl)]
  rw [Lib.run_noEscape]
  simp only [Result.andThen]
  rw [Oper.upon_value]
  go_wp2
  rw [Lib.run_from_unsafe w ⟨b, 0, none⟩ Try.underlying113 Try.underlying66 hj hsh (by kernel_rfl)]
  simp only [Result.andThen]
  rw [Oper.upon_value]
  go_wp2
  go_end0
  exact ⟨rfl, rfl⟩
theorem wcc_to (B b : Nat) (l : List UInt8) (e : Int) (w : World) (h : Wrt B b l e w) :
    Calls Try.prog 61 #[.pointer (some ⟨b, 0, none⟩)] w fun x w' => x = .returned (.tuple #[]) ∧ WrtP B b (.pointer (some ⟨b, 0, none⟩)) l e w' ∧ Below B w w' ∧ Lib.OthersKept 5 (some b) w w' := by
  rcases h with ⟨hB, v, h1, h2⟩ | ⟨hB, v, h1, h2⟩
  · refine (wcc_fresh b w (by rw [Lib.cell_of_heap h1]; rfl) (by simp [World.shape?, h1]) (Lib.frozen_of_heap h1 0)).mono fun x w' ⟨he, hw⟩ => ⟨he, hw ▸ ⟨hB, v, ?_, ?_⟩, hw ▸ (Below.refl B w).setCell (p := ⟨b, 0, none⟩) hB _, hw ▸ (Lib.OthersKept.refl _ _ w).setCell ⟨b, 0, none⟩ rfl _⟩
    · simp [World.setCell, Array.getElem?_modify, h1]
    · exact ownsRow_setCell_other h2 (Lib.ownBlock_ne h2 h1 (by decide)) _
  · exact (Bld.cc_used b w (by rw [Lib.cell_of_heap h1]; rfl)).mono fun x w' ⟨he, hw⟩ => ⟨he, hw ▸ ⟨hB, v, h1, h2⟩, hw ▸ Below.refl B _, hw ▸ Lib.OthersKept.refl _ _ _⟩
set_option maxHeartbeats 2000000 in
set_option maxRecDepth 100000 in
theorem wws_to (B b : Nat) (l : List UInt8) (er : Int) (s : ByteArray) (w : World) (h : Wrt B b l er w) (hlen : l.length + s.size ≤ 1000000000) (hBw : B ≤ w.heap.size) :
    Calls Try.prog 39 #[.pointer (some ⟨b, 0, none⟩), .string s] w fun e w' => e = .returned (.tuple #[.int .i64 s.size, .nilIface]) ∧ WrtQ B b (l ++ s.data.toList, er) w w' := by
  obtain ⟨i0, hi, hz0, hz1, hz2⟩ := info_parts Esc.iu
  go_enter Try.func39, Try.ntmps39
  go_wp2_with fail
  refine (wcc_to B b _ _ _ h).mono ?_
  rintro e w1 ⟨rfl, h1, hb1, k1⟩
  obtain ⟨hB, v, hbk, hown⟩ := h1
  have hne := Lib.ownBlock_ne hown hbk (by decide)
  have c0 : w1.cell? ⟨b, 0, none⟩ = some (.pointer (some ⟨b, 0, none⟩)) := by rw [Lib.cell_of_heap hbk]; rfl
  have c1 : w1.cell? ⟨b, 1, none⟩ = some v := by rw [Lib.cell_of_heap hbk]; rfl
  go_wp2_with (at_builtin; refine Lib.wpList_append_own_string _ rfl _ _ 67 9 rfl B 5 i0 Try.underlying67 Try.underlying9 hi hz0 hz1 hz2 _ _ _ rfl hown s rfl ?c3 ?c4 ?c5 ?_)
  case c3 => unfold maxLen; omega
  case c4 => omega
  case c5 => have := hb1.size; omega
  intro v' w2 hown' hgrow _
  have hb2 : w2.heap[b]? = some (.cells #[.pointer (some ⟨b, 0, none⟩), v, .int .i64 er] 84 (0, 0)) := by
    rw [hgrow.block b (blk_lt hbk) (fun e => hne e.symm)]
    exact hbk
  have d0 : w2.cell? ⟨b, 0, none⟩ = some (.pointer (some ⟨b, 0, none⟩)) := by rw [Lib.cell_of_heap hb2]; rfl
  have d1 : w2.cell? ⟨b, 1, none⟩ = some v := by rw [Lib.cell_of_heap hb2]; rfl
  have f1 : w2.frozen? ⟨b, 1, none⟩ = false := Lib.frozen_of_heap hb2 1
  obtain ⟨ao, n', cap, rfl⟩ : ∃ ao n' cap, v' = .slice ao n' cap := by
    rcases hown'.2 with ⟨hv, _⟩ | ⟨g, cap, cur, hv, _⟩
    · exact ⟨_, _, _, hv⟩
    · exact ⟨_, _, _, hv⟩
  have HO := Lib.hid hown'
  clear hown'
  go_wp2
  go_ret2
  refine ⟨rfl, Or.inr ⟨hB, .slice ao n' cap, ?_, ?_⟩, ?_, ?_⟩
  · simp [World.setCell, Array.getElem?_modify, hb2]
  · have h1 := HO.out
    have e1 : (l ++ s.data.toList).length = l.length + s.size := by simp
    have e2 : Lib.byteCells (l ++ s.data.toList) = Lib.byteCells l ++ Lib.strCells s := by simp [Lib.byteCells, Lib.strCells]
    show World.ownsRow _ B 5 1 _ (l ++ s.data.toList).length (Lib.byteCells (l ++ s.data.toList))
    rw [e1, e2]
    exact ownsRow_setCell_other h1 (Lib.ownBlock_ne h1 hb2 (by decide)) _
  · exact (hb1.grown hgrow (by have := hb1.size; omega) (fun k hk => (hown.lt k hk).1)).setCell (p := ⟨b, 1, none⟩) hB _
  · exact (k1.grown hgrow (BldK.row_at hown)).setCell ⟨b, 1, none⟩ rfl _
set_option maxRecDepth 100000 in
theorem wln_to (B b : Nat) (l : List UInt8) (er : Int) (w : World) (h : Wrt B b l er w) :
    Calls Try.prog 75 #[.pointer (some ⟨b, 0, none⟩)] w fun e w' => e = .returned (.int .i64 (l.length : Int)) ∧ w = w' := by
  obtain ⟨p, v, hbk, hn⟩ : ∃ p v, w.heap[b]? = some (.cells #[p, v, .int .i64 er] 84 (0, 0)) ∧ ∃ a c, v = .slice a l.length c := by
    obtain ⟨p, v, _, h1, hown⟩ := h.any
    refine ⟨p, v, h1, ?_⟩
    rcases hown.2 with ⟨hv, h0⟩ | ⟨g, cap, cur, hv, _⟩
    · exact ⟨_, _, by rw [hv, h0]⟩
    · exact ⟨_, _, hv⟩
  obtain ⟨a, c, rfl⟩ := hn
  have c1 : w.cell? ⟨b, 1, none⟩ = some (.slice a l.length c) := by rw [Lib.cell_of_heap hbk]; rfl
  clear h hbk
  obtain ⟨n, hn⟩ : ∃ n, l.length = n := ⟨_, rfl⟩
  rw [hn] at c1 ⊢
  go_enter Try.func75, Try.ntmps75
  go_wp2
  go_ret
  exact ⟨rfl, rfl⟩
set_option maxHeartbeats 2000000 in
set_option maxRecDepth 100000 in
theorem wst_to (B b : Nat) (l : List UInt8) (er : Int) (w : World) (h : Wrt B b l er w) (h0 : l ≠ []) :
    Calls Try.prog 42 #[.pointer (some ⟨b, 0, none⟩)] w fun e w' => e = .returned (.string ⟨l.toArray⟩) ∧ Below B w w' := by
  obtain ⟨p, v, hB, hbk, hown⟩ := h.any
  have hl0 : l.length ≠ 0 := by simpa using h0
  obtain ⟨g, cap, cur, rfl, hbg, hg, hnc, hcm, hcs, htake⟩ : ∃ g cap cur, v = .slice (some ⟨g, 0, none⟩) l.length cap ∧ B ≤ g ∧ w.heap[g]? = some (.cells cur 5 (0, 0)) ∧ l.length ≤ cap ∧ cap ≤ maxLen ∧ cur.size = cap * 1 ∧ cur.toList.take (l.length * 1) = Lib.byteCells l := by
    rcases hown.2 with ⟨_, hz⟩ | ⟨g, cap, cur, hv, r⟩
    · exact absurd hz hl0
    · exact ⟨g, cap, cur, hv, r⟩
  have c1 : w.drew.cell? ⟨b, 1, none⟩ = some (.slice (some ⟨g, 0, none⟩) l.length cap) := by
    have : w.drew.heap[b]? = some (.cells #[p, .slice (some ⟨g, 0, none⟩) l.length cap, .int .i64 er] 84 (0, 0)) := hbk
    rw [Lib.cell_of_heap this]; rfl
  have hSD : (Builtin.unsafeSliceData_ #[67] 96 #[.slice (some ⟨g, 0, none⟩) l.length cap]).run Try.prog w.drew = .ok (.pointer (some ⟨g, 0, none⟩)) w.drew :=
    Lib.run_unsafeSliceData_row _ _ _ _ _ _ (by omega)
  have hUS : (Builtin.unsafeString_ #[96, 3] 9 #[.pointer (some ⟨g, 0, none⟩), .int .i64 l.length]).run Try.prog w.drew = .ok (.string ⟨l.toArray⟩) (w.drew.freeze ⟨g, 0, none⟩ l.length) := by
    refine Lib.run_unsafeString_row w.drew 96 3 9 5 Try.underlying96 (by kernel_rfl) g cur.size (by have hg' : w.drew.heap[g]? = some (.cells cur 5 (0, 0)) := hg; simp [World.shape?, hg']) l h0 (by omega) (by unfold maxLen at hcm; omega) ?_
    intro j x hx
    have := hown.cells (g := g) rfl j (.int .u8 x.toNat) (by simp [Lib.byteCells, hx])
    exact this
  go_enter Try.func42, Try.ntmps42
  go_wp2
  go_region
  all_goals (go_wp2; go_ret; exact ⟨rfl, Lib.below_freeze (Below.drew (Below.refl B w)) (p := ⟨g, 0, none⟩) hbg _⟩)
end Tre
end Go.Proofs.Ytdakpncfophjnaa
