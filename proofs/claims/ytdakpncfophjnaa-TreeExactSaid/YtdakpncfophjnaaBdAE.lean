/-
  Several texts in one (TrW, TrP, TrQ).
-/
import Derived.Test.YtdakpncfophjnaaTrC
import Derived.Test.YtdakpncfophjnaaBldK
import Derived.Lib.UnsafeStr
import Derived.Lib.OthersKept
/-
  Package tree: a writer: its builder is its first field; put.
-/
namespace Go.Proofs.Ytdakpncfophjnaa
open Go.RowKit
namespace Tre
open Lin CutB Cel Ap
open Opn (TxtV)
/-- A writer in a block of its own: what it has written, its error. -/
def WrtP (B b : Nat) (p : Value) (l : List UInt8) (e : Int) (w : World) : Prop := B ≤ b ∧ ∃ v, w.heap[b]? = some (.cells #[p, v, .int .i64 e] 84 (0, 0)) ∧ w.ownsRow B 5 1 v l.length (Lib.byteCells l)
def Wrt (B b : Nat) (l : List UInt8) (e : Int) (w : World) : Prop := WrtP B b (.pointer none) l e w ∨ WrtP B b (.pointer (some ⟨b, 0, none⟩)) l e w
theorem Wrt.any {B b : Nat} {l : List UInt8} {e : Int} {w : World} (h : Wrt B b l e w) : ∃ p v, B ≤ b ∧ w.heap[b]? = some (.cells #[p, v, .int .i64 e] 84 (0, 0)) ∧ w.ownsRow B 5 1 v l.length (Lib.byteCells l) := by
  rcases h with ⟨hB, v, h1, h2⟩ | ⟨hB, v, h1, h2⟩
  · exact ⟨_, v, hB, h1, h2⟩
  · exact ⟨_, v, hB, h1, h2⟩
theorem blk_lt {w : World} {b : Nat} {o : Obj} (h : w.heap[b]? = some o) : b < w.heap.size := (Array.getElem?_eq_some_iff.1 h).1
theorem Wrt.lt {B b : Nat} {l : List UInt8} {e : Int} {w : World} (h : Wrt B b l e w) : B ≤ b ∧ b < w.heap.size := by
  obtain ⟨p, v, hB, h1, _⟩ := h.any
  exact ⟨hB, blk_lt h1⟩
theorem Wrt.below {B b : Nat} {l : List UInt8} {e : Int} {w w' : World} (h : Wrt B b l e w) (hb : Below w.heap.size w w') : Wrt B b l e w' := by
  rcases h with ⟨hB, v, h1, h2⟩ | ⟨hB, v, h1, h2⟩
  · exact Or.inl ⟨hB, v, (hb.block b (blk_lt h1)).trans h1, own_below h2 hb⟩
  · exact Or.inr ⟨hB, v, (hb.block b (blk_lt h1)).trans h1, own_below h2 hb⟩
theorem Wrt.err {B b : Nat} {l : List UInt8} {e : Int} {w : World} (h : Wrt B b l e w) : w.cell? ⟨b, 2, none⟩ = some (.int .i64 e) ∧ w.frozen? ⟨b, 2, none⟩ = false := by
  obtain ⟨p, v, _, h1, _⟩ := h.any
  exact ⟨by rw [Lib.cell_of_heap h1]; rfl, Lib.frozen_of_heap h1 2⟩
theorem Wrt.new (w : World) : Wrt w.heap.size w.heap.size [] 0 (w.alloc (.cells #[.pointer none, .slice none 0 0, .int .i64 0] 84)) :=
  Or.inl ⟨Nat.le_refl _, .slice none 0 0, heap_alloc_new w _, World.ownsRow_nil _ _ _ _⟩
theorem Wrt.fail {B b : Nat} {l : List UInt8} {e : Int} {w : World} (h : Wrt B b l e w) (e' : Int) : Wrt B b l e' (w.setCell ⟨b, 2, none⟩ (.int .i64 e')) := by
  have key : ∀ p, WrtP B b p l e w → WrtP B b p l e' (w.setCell ⟨b, 2, none⟩ (.int .i64 e')) := fun p ⟨hB, v, h1, h2⟩ =>
    ⟨hB, v, by simp [World.setCell, Array.getElem?_modify, h1], ownsRow_setCell_other h2 (Lib.ownBlock_ne h2 h1 (by decide)) _⟩
  rcases h with h | h
  · exact Or.inl (key _ h)
  · exact Or.inr (key _ h)
theorem others_below {e : TypeId} {b : Option Nat} {w w' : World} (h : Below w.heap.size w w') : Lib.OthersKept e b w w' := fun k _ hk _ _ => (h.block k (blk_lt hk)).trans hk
/-- What holds of a writer behind a call: what is below stands, and so does all but its rows of bytes. -/
def WrtQ (B b : Nat) (s : WS) (w w' : World) : Prop := Wrt B b s.1 s.2 w' ∧ Below B w w' ∧ Lib.OthersKept 5 (some b) w w'
set_option maxRecDepth 100000 in
theorem wcc_fresh (b : Nat) (w : World) (h0 : w.cell? ⟨b, 0, none⟩ = some (.pointer none)) (hsh : w.shape? b = some (84, 3)) (hfz : w.frozen? ⟨b, 0, none⟩ = false) :
    Calls Try.prog 61 #[.pointer (some ⟨b, 0, none⟩)] w fun e w' => e = .returned (.tuple #[]) ∧ w' = w.setCell ⟨b, 0, none⟩ (.pointer (some ⟨b, 0, none⟩)) := by
  obtain ⟨j, hj, hjs⟩ := Option.map_eq_some_iff.1 Bld.infoB
  go_enter Try.func61, Try.ntmps61
  go_wp2
  rw [Lib.run_to_unsafe w ⟨b, 0, none⟩ Try.underlying66 Try.underlying113 hj (by rw [hjs]; decide) hsh (Nat.zero_lt_succ 2)]
  simp only [Result.andThen]
  rw [Oper.upon_value]
  go_wp2
  rw [run_callFunc_extern Try.func77 (by kernel_rfl) (by kernel_rfl) (by kernel_rfl) (e := Extern.AbiNoEscape.same) (by kernel_rfl)]
  rw [Lib.run_noEscape]
  simp only [Result.andThen]
  rw [Oper.upon_value]
  go_wp2
  rw [Lib.run_from_unsafe w ⟨b, 0, none⟩ Try.underlying113 Try.underlying66 hj hsh (by kernel_rfl)]
  simp only [Result.andThen]
  rw [Oper.upon_value]
  go_wp2
  go_end0
  exact ⟨rfl, rfl⟩
theorem wcc_to (B b : Nat) (l : List UInt8) (e : Int) (w : World) (h : Wrt B b l e w) :
    Calls Try.prog 61 #[.pointer (some ⟨b, 0, none⟩)] w fun x w' => x = .returned (.tuple #[]) ∧ WrtP B b (.pointer (some ⟨b, 0, none⟩)) l e w' ∧ Below B w w' ∧ Lib.OthersKept 5 (some b) w w' := by
  rcases h with ⟨hB, v, h1, h2⟩ | ⟨hB, v, h1, h2⟩
  · refine (wcc_fresh b w (by rw [Lib.cell_of_heap h1]; rfl) (by simp [World.shape?, h1]) (Lib.frozen_of_heap h1 0)).mono fun x w' ⟨he, hw⟩ => ⟨he, hw ▸ ⟨hB, v, ?_, ?_⟩, hw ▸ (Below.refl B w).setCell (p := ⟨b, 0, none⟩) hB _, hw ▸ (Lib.OthersKept.refl _ _ w).setCell ⟨b, 0, none⟩ rfl _⟩
    · simp [World.setCell, Array.getElem?_modify, h1]
    · exact ownsRow_setCell_other h2 (Lib.ownBlock_ne h2 h1 (by decide)) _
  · exact (Bld.cc_used b w (by rw [Lib.cell_of_heap h1]; rfl)).mono fun x w' ⟨he, hw⟩ => ⟨he, hw ▸ ⟨hB, v, h1, h2⟩, hw ▸ Below.refl B _, hw ▸ Lib.OthersKept.refl _ _ _⟩
set_option maxHeartbeats 2000000 in
set_option maxRecDepth 100000 in
theorem wws_to (B b : Nat) (l : List UInt8) (er : Int) (s : ByteArray) (w : World) (h : Wrt B b l er w) (hlen : l.length + s.size ≤ 1000000000) (hBw : B ≤ w.heap.size) :
    Calls Try.prog 39 #[.pointer (some ⟨b, 0, none⟩), .string s] w fun e w' => e = .returned (.tuple #[.int .i64 s.size, .nilIface]) ∧ WrtQ B b (l ++ s.data.toList, er) w w' := by
  obtain ⟨i0, hi, hz0, hz1, hz2⟩ := info_parts Esc.iu
  go_enter Try.func39, Try.ntmps39
  go_wp2_with fail
  refine (wcc_to B b _ _ _ h).mono ?_
  rintro e w1 ⟨rfl, h1, hb1, k1⟩
  obtain ⟨hB, v, hbk, hown⟩ := h1
  have hne := Lib.ownBlock_ne hown hbk (by decide)
  have c0 : w1.cell? ⟨b, 0, none⟩ = some (.pointer (some ⟨b, 0, none⟩)) := by rw [Lib.cell_of_heap hbk]; rfl
  have c1 : w1.cell? ⟨b, 1, none⟩ = some v := by rw [Lib.cell_of_heap hbk]; rfl
  go_wp2_with (at_builtin; refine Lib.wpList_append_own_string _ rfl _ _ 67 9 rfl B 5 i0 Try.underlying67 Try.underlying9 hi hz0 hz1 hz2 _ _ _ rfl hown s rfl ?c3 ?c4 ?c5 ?_)
  case c3 => unfold maxLen; omega
  case c4 => omega
  case c5 => have := hb1.size; omega
  intro v' w2 hown' hgrow _
  have hb2 : w2.heap[b]? = some (.cells #[.pointer (some ⟨b, 0, none⟩), v, .int .i64 er] 84 (0, 0)) := by
    rw [hgrow.block b (blk_lt hbk) (fun e => hne e.symm)]
    exact hbk
  have d0 : w2.cell? ⟨b, 0, none⟩ = some (.pointer (some ⟨b, 0, none⟩)) := by rw [Lib.cell_of_heap hb2]; rfl
  have d1 : w2.cell? ⟨b, 1, none⟩ = some v := by rw [Lib.cell_of_heap hb2]; rfl
  have f1 : w2.frozen? ⟨b, 1, none⟩ = false := Lib.frozen_of_heap hb2 1
  obtain ⟨ao, n', cap, rfl⟩ : ∃ ao n' cap, v' = .slice ao n' cap := by
    rcases hown'.2 with ⟨hv, _⟩ | ⟨g, cap, cur, hv, _⟩
    · exact ⟨_, _, _, hv⟩
    · exact ⟨_, _, _, hv⟩
  have HO := Lib.hid hown'
  clear hown'
  go_wp2
  go_ret2
  refine ⟨rfl, Or.inr ⟨hB, .slice ao n' cap, ?_, ?_⟩, ?_, ?_⟩
  · simp [World.setCell, Array.getElem?_modify, hb2]
  · have h1 := HO.out
    have e1 : (l ++ s.data.toList).length = l.length + s.size := by simp
    have e2 : Lib.byteCells (l ++ s.data.toList) = Lib.byteCells l ++ Lib.strCells s := by simp [Lib.byteCells, Lib.strCells]
    show World.ownsRow _ B 5 1 _ (l ++ s.data.toList).length (Lib.byteCells (l ++ s.data.toList))
    rw [e1, e2]
    exact ownsRow_setCell_other h1 (Lib.ownBlock_ne h1 hb2 (by decide)) _
  · exact (hb1.grown hgrow (by have := hb1.size; omega) (fun k hk => (hown.lt k hk).1)).setCell (p := ⟨b, 1, none⟩) hB _
  · exact (k1.grown hgrow (BldK.row_at hown)).setCell ⟨b, 1, none⟩ rfl _
set_option maxRecDepth 100000 in
theorem wln_to (B b : Nat) (l : List UInt8) (er : Int) (w : World) (h : Wrt B b l er w) :
    Calls Try.prog 75 #[.pointer (some ⟨b, 0, none⟩)] w fun e w' => e = .returned (.int .i64 (l.length : Int)) ∧ w = w' := by
  obtain ⟨p, v, hbk, hn⟩ : ∃ p v, w.heap[b]? = some (.cells #[p, v, .int .i64 er] 84 (0, 0)) ∧ ∃ a c, v = .slice a l.length c := by
    obtain ⟨p, v, _, h1, hown⟩ := h.any
    refine ⟨p, v, h1, ?_⟩
    rcases hown.2 with ⟨hv, h0⟩ | ⟨g, cap, cur, hv, _⟩
    · exact ⟨_, _, by rw [hv, h0]⟩
    · exact ⟨_, _, hv⟩
  obtain ⟨a, c, rfl⟩ := hn
  have c1 : w.cell? ⟨b, 1, none⟩ = some (.slice a l.length c) := by rw [Lib.cell_of_heap hbk]; rfl
  clear h hbk
  obtain ⟨n, hn⟩ : ∃ n, l.length = n := ⟨_, rfl⟩
  rw [hn] at c1 ⊢
  go_enter Try.func75, Try.ntmps75
  go_wp2
  go_ret
  exact ⟨rfl, rfl⟩
set_option maxHeartbeats 2000000 in
set_option maxRecDepth 100000 in
theorem wst_to (B b : Nat) (l : List UInt8) (er : Int) (w : World) (h : Wrt B b l er w) (h0 : l ≠ []) :
    Calls Try.prog 42 #[.pointer (some ⟨b, 0, none⟩)] w fun e w' => e = .returned (.string ⟨l.toArray⟩) ∧ Below B w w' := by
  obtain ⟨p, v, hB, hbk, hown⟩ := h.any
  have hl0 : l.length ≠ 0 := by simpa using h0
  obtain ⟨g, cap, cur, rfl, hbg, hg, hnc, hcm, hcs, htake⟩ : ∃ g cap cur, v = .slice (some ⟨g, 0, none⟩) l.length cap ∧ B ≤ g ∧ w.heap[g]? = some (.cells cur 5 (0, 0)) ∧ l.length ≤ cap ∧ cap ≤ maxLen ∧ cur.size = cap * 1 ∧ cur.toList.take (l.length * 1) = Lib.byteCells l := by
    rcases hown.2 with ⟨_, hz⟩ | ⟨g, cap, cur, hv, r⟩
    · exact absurd hz hl0
    · exact ⟨g, cap, cur, hv, r⟩
  have c1 : w.drew.cell? ⟨b, 1, none⟩ = some (.slice (some ⟨g, 0, none⟩) l.length cap) := by
    have : w.drew.heap[b]? = some (.cells #[p, .slice (some ⟨g, 0, none⟩) l.length cap, .int .i64 er] 84 (0, 0)) := hbk
    rw [Lib.cell_of_heap this]; rfl
  have hSD : (Builtin.unsafeSliceData_ #[67] 96 #[.slice (some ⟨g, 0, none⟩) l.length cap]).run Try.prog w.drew = .ok (.pointer (some ⟨g, 0, none⟩)) w.drew :=
    Lib.run_unsafeSliceData_row _ _ _ _ _ _ (by omega)
  have hUS : (Builtin.unsafeString_ #[96, 3] 9 #[.pointer (some ⟨g, 0, none⟩), .int .i64 l.length]).run Try.prog w.drew = .ok (.string ⟨l.toArray⟩) (w.drew.freeze ⟨g, 0, none⟩ l.length) := by
    refine Lib.run_unsafeString_row w.drew 96 3 9 5 Try.underlying96 (by kernel_rfl) g cur.size (by have hg' : w.drew.heap[g]? = some (.cells cur 5 (0, 0)) := hg; simp [World.shape?, hg']) l h0 (by omega) (by unfold maxLen at hcm; omega) ?_
    intro j x hx
    have := hown.cells (g := g) rfl j (.int .u8 x.toNat) (by simp [Lib.byteCells, hx])
    exact this
  go_enter Try.func42, Try.ntmps42
  go_wp2
  go_region
  all_goals (go_wp2; go_ret; exact ⟨rfl, Lib.below_freeze (Below.drew (Below.refl B w)) (p := ⟨g, 0, none⟩) hbg _⟩)
end Tre
end Go.Proofs.Ytdakpncfophjnaa
/-
  Package tree: put.
-/
namespace Go.Proofs.Ytdakpncfophjnaa
open Go.RowKit
namespace Tre
open Lin CutB Cel Ap
open Opn (TxtV)
theorem hit_app (A B : List UInt8) : Fld.hit (A ++ B) = (Fld.hit A || Fld.hit B) := by unfold Fld.hit; exact List.any_append
theorem hit_all {S : List UInt8} (h : ∀ c ∈ S, c ≠ 10 ∧ c ≠ 13) : Fld.hit S = false := by
  unfold Fld.hit
  rw [List.any_eq_false]
  intro c hc
  obtain ⟨h1, h2⟩ := h c hc
  simp [Fld.le, h1, h2]
theorem hit_pln {S : List UInt8} (h : plnB S = true) : Fld.hit S = false := hit_all (fun c hc => by
  have h1 := List.all_eq_true.1 h c hc
  constructor
  · rintro rfl; revert h1; decide
  · rintro rfl; revert h1; decide)
theorem hit_nm {S : List UInt8} (h : nmB S = true) : Fld.hit S = false := hit_all (fun c hc => by
  rw [nmB, Bool.and_eq_true] at h
  have h1 := List.all_eq_true.1 h.2 c hc
  constructor
  · rintro rfl; revert h1; decide
  · rintro rfl; revert h1; decide)
theorem hit_cons (c : UInt8) (S : List UInt8) (h1 : c ≠ 10) (h2 : c ≠ 13) : Fld.hit (c :: S) = Fld.hit S := by
  show Fld.hit ([c] ++ S) = _
  rw [hit_app, hit_all (S := [c]) (fun d hd => by rw [List.mem_singleton.1 hd]; exact ⟨h1, h2⟩), Bool.false_or]
theorem hit_val {v : List UInt8} (h : valB v = true) : Fld.hit (valT v) = false := by
  rw [valB, Bool.and_eq_true] at h
  rw [valT]
  split
  · rw [hit_cons _ _ (by decide) (by decide), hit_app, hit_pln h.1]; decide
  · exact hit_pln h.1
theorem hit_vs : ∀ (m : UInt8) (vs : List (List UInt8)), m ≠ 10 → m ≠ 13 → vs.all valB = true → Fld.hit (vsT m vs) = false
  | _, [], _, _, _ => rfl
  | m, v :: vs, h1, h2, h => by
    rw [List.all_cons, Bool.and_eq_true] at h
    rw [vsT, hit_cons _ _ h1 h2, hit_app, hit_val h.1, hit_vs 44 vs (by decide) (by decide) h.2]
    rfl
theorem hit_ps : ∀ (ps : List PV), ps.all parB = true → Fld.hit (psT ps) = false
  | [], _ => rfl
  | p :: ps, h => by
    rw [List.all_cons, Bool.and_eq_true] at h
    obtain ⟨hp, h2⟩ := h
    rw [parB, Bool.and_eq_true, Bool.and_eq_true] at hp
    rw [psT, parT, hit_app, hit_cons _ _ (by decide) (by decide), hit_app, hit_nm hp.1, hit_vs 61 p.vs (by decide) (by decide) hp.2.2, hit_ps ps h2]
    rfl
theorem hit_ln {l : LV} (h : lnB l = true) : Fld.hit (lineF l) = false := by
  rw [lnB, Bool.and_eq_true, Bool.and_eq_true] at h
  rw [lineF, hit_app, hit_app, hit_cons _ _ (by decide) (by decide), hit_nm h.1, hit_ps _ h.2.2, hit_pln h.2.1]
  rfl
set_option maxRecDepth 100000 in
theorem line_big (s : ByteArray) (w : World) (hs : 60000 < s.size) (hm : s.size ≤ 1000000000) :
    Calls Try.prog 74 #[.string s] w fun e w' => e = .returned (.tuple #[.string ⟨#[]⟩, .int .i64 2]) ∧ Below w.heap.size w w' := by
  go_enter Try.func74, Try.ntmps74
  go_wp2
  go_ret2
  exact ⟨rfl, Below.refl _ _⟩
theorem line_v (S : List UInt8) (w : World) (hs : S.length ≤ 60000) (h : Hid (Fld.hit S = false)) :
    Calls Try.prog 74 #[.string ⟨S.toArray⟩] w fun e w' => e = .returned (.tuple #[.string ⟨(Fld.foldL S).toArray⟩, .int .i64 0]) ∧ Below w.heap.size w w' :=
  Fld.line_to ⟨S.toArray⟩ S w hs (Lib.hid rfl) h
theorem ltx_v (a b : ByteArray) (nm vl : List UInt8) (pv : Value) (ps : List PV) (T : List UInt8) (e : Int) (w : World) (ha : a = ⟨nm.toArray⟩) (hb : b = ⟨vl.toArray⟩) (h1 : nm.length ≤ 1000000) (h2 : vl.length ≤ 1000000) (hp : ParsV w pv ps) (hlen : ps.length ≤ 1000000) (hsm : ∀ p ∈ ps, smlP p) (hbig : (psT ps).length ≤ 500000000) (h : Hid (lnT ⟨nm, ps, vl⟩ = T ∧ lnE ⟨nm, ps, vl⟩ = e)) :
    Calls Try.prog 14 #[.agg #[.string a, pv, .string b]] w fun x w' => x = .returned (.tuple #[.string ⟨T.toArray⟩, .int .i64 e]) ∧ Below w.heap.size w w' := by
  subst ha hb
  exact ltx_to nm vl pv ps T e w h1 h2 hp hlen hsm hbig h
/-- A line that may be written. -/
def smlW (l : LV) : Prop := smlL l ∧ (psT l.ps).length ≤ 400000000
theorem smlW.len {l : LV} (h : smlW l) : (lineF l).length ≤ 500000000 := by
  obtain ⟨⟨h1, h2, _, _⟩, h3⟩ := h
  rw [lineF]
  simp only [List.length_append, List.length_cons]
  omega
theorem fold_len : ∀ (f : Nat) (S : List UInt8) (room : Nat), 4 ≤ room → (Fld.foldG f S room).length ≤ 4 * S.length + 2
  | 0, S, room, _ => by simp [Fld.foldG]; omega
  | f + 1, S, room, hr => by
    rw [Fld.foldG]
    split
    · simp; omega
    · have hc := Fld.cutN_bd S room (by omega)
      have ih := fold_len f (S.drop (Fld.cutN S room)) 74 (by decide)
      simp only [List.length_append, List.length_take, List.length_drop, List.length_cons, List.length_nil] at ih ⊢
      omega
theorem wrt_q {B b : Nat} {l : List UInt8} {e : Int} {w w' w2 : World} (h : WrtQ B b (l, e) w' w2) (hb : Below w.heap.size w w') (hB : B ≤ w.heap.size) : WrtQ B b (l, e) w w2 :=
  ⟨h.1, (hb.mono hB).trans h.2.1, (others_below hb).trans h.2.2⟩
theorem wrt_f {B b : Nat} {l : List UInt8} {e : Int} {w w' : World} (h : Wrt B b l e w) (hb : Below w.heap.size w w') (hB : B ≤ w.heap.size) (e' : Int) : WrtQ B b (l, e') w (w'.setCell ⟨b, 2, none⟩ (.int .i64 e')) :=
  ⟨(h.below hb).fail e', (hb.mono hB).setCell (p := ⟨b, 2, none⟩) h.lt.1 _, (others_below hb).setCell ⟨b, 2, none⟩ rfl _⟩
set_option maxHeartbeats 3200000 in
set_option maxRecDepth 100000 in
theorem pt_0 (B b : Nat) (l : List UInt8) (e : Int) (x : Value) (w : World) (h : Wrt B b l e w) (he : ¬ e = 0) (hB : B ≤ w.heap.size) (nm vl : ByteArray) (a : Option Addr) (n c : Nat) (hx : x = .agg #[.string nm, .slice a n c, .string vl]) :
    Calls Try.prog 54 #[.pointer (some ⟨b, 0, none⟩), x] w fun x w' => x = .returned (.tuple #[]) ∧ WrtQ B b (l, e) w w' := by
  subst hx
  have y2 := h.err.1
  have gb := h.lt.2
  have H := Lib.hid h
  have x1 : (e != 0) = true := bne_iff_ne.2 he
  clear h
  go_enter Try.func54, Try.ntmps54
  go_wp2
  first | (refine bodyPost_ret (results_none rfl _ _ _) rfl ?_) | go_end0
  have hb := (Below.refl w.heap.size w).alloc (Nat.le_refl _) (Obj.cells #[.string nm, .slice a n c, .string vl] 24)
  exact ⟨rfl, H.out.below hb, hb.mono hB, others_below hb⟩
set_option maxHeartbeats 6400000 in
set_option maxRecDepth 100000 in
theorem pt_1 (B b : Nat) (l : List UInt8) (X0 X2 : ByteArray) (L : LV) (a : Option Addr) (n c : Nat) (r : WS) (w : World) (h : Wrt B b l 0 w) (hB : B ≤ w.heap.size) (hl : l.length ≤ 600000) (h0 : Hid (X0 = ⟨L.nm.toArray⟩)) (h2 : Hid (X2 = ⟨L.vl.toArray⟩)) (hp : Hid (ParsV w (.slice a n c) L.ps)) (hs : Hid (smlW L)) (hr : Hid (putW (l, 0) L = r)) :
    Calls Try.prog 54 #[.pointer (some ⟨b, 0, none⟩), .agg #[.string X0, .slice a n c, .string X2]] w fun x w' => x = .returned (.tuple #[]) ∧ WrtQ B b r w w' := by
  have y2 := h.err.1
  have gb := h.lt.2
  have H := Lib.hid h
  have C0 := Lib.hid (Cs.new w [.string X0, .slice a n c, .string X2] 24)
  have BB := Lib.hid ((Below.refl w.heap.size w).alloc (Nat.le_refl _) (Obj.cells #[.string X0, .slice a n c, .string X2] 24))
  clear h
  cases hb : lnB L with
  | false =>
    have hR : r = (l, 18) := by rw [← hr.out, putW, if_neg (by simp), if_pos hb]
    have HT : Hid (lnT ⟨L.nm, L.ps, L.vl⟩ = [] ∧ lnE ⟨L.nm, L.ps, L.vl⟩ = 18) := Lib.hid ⟨by show lnT L = []; rw [lnT, if_neg (by rw [hb]; decide)], by show lnE L = 18; rw [lnE, if_neg (by rw [hb]; decide)]⟩
    subst hR
    clear hb
    go_enter Try.func54, Try.ntmps54
    go_wp2_with fail
    refine (ltx_v X0 X2 L.nm L.vl _ L.ps [] 18 _ h0.out h2.out (by have := hs.out.1.1; omega) hs.out.1.2.1 (hp.out.below BB.out) hs.out.1.2.2.1 hs.out.1.2.2.2 (by have := hs.out.2; omega) HT).mono ?_
    rintro e w1 ⟨rfl, k1⟩
    have B1 := Lib.hid (bstep BB.out k1)
    have y3 := (H.out.below B1.out).err.1
    have f3 := (H.out.below B1.out).err.2
    clear k1 C0 BB
    go_wp2
    first | (refine bodyPost_ret (results_none rfl _ _ _) rfl ?_) | go_end0
    exact ⟨rfl, wrt_f H.out B1.out hB 18⟩
  | true =>
    have HT : Hid (lnT ⟨L.nm, L.ps, L.vl⟩ = lineF L ∧ lnE ⟨L.nm, L.ps, L.vl⟩ = 0) := Lib.hid ⟨by show lnT L = _; rw [lnT, if_pos hb], by show lnE L = 0; rw [lnE, if_pos hb]⟩
    have HH := Lib.hid (hit_ln hb)
    have hlf := hs.out.len
    obtain ⟨T, hT⟩ : ∃ T, lineF L = T := ⟨_, rfl⟩
    have hR' := hr.out
    rw [putW, if_neg (by simp), if_neg (by rw [hb]; decide), hT] at hR'
    rw [hT] at HT HH hlf
    have HR := Lib.hid hR'
    clear hb hT hr hR'
    by_cases h6 : 60000 < T.length
    · have hR : r = (l, 2) := by rw [← HR.out, if_pos h6]
      subst hR
      have Z6 : Hid (60000 < (⟨T.toArray⟩ : ByteArray).size) := Lib.hid h6
      go_enter Try.func54, Try.ntmps54
      go_wp2_with fail
      refine (ltx_v X0 X2 L.nm L.vl _ L.ps T 0 _ h0.out h2.out (by have := hs.out.1.1; omega) hs.out.1.2.1 (hp.out.below BB.out) hs.out.1.2.2.1 hs.out.1.2.2.2 (by have := hs.out.2; omega) HT).mono ?_
      rintro e w1 ⟨rfl, k1⟩
      have B1 := Lib.hid (bstep BB.out k1)
      clear k1 C0 BB
      go_wp2_with fail
      refine (line_big _ _ Z6.out (by show T.length ≤ _; omega)).mono ?_
      rintro e w2 ⟨rfl, k1⟩
      have B2 := Lib.hid (bstep B1.out k1)
      have y3 := (H.out.below B2.out).err.1
      have f3 := (H.out.below B2.out).err.2
      clear k1 B1
      go_wp2
      first | (refine bodyPost_ret (results_none rfl _ _ _) rfl ?_) | go_end0
      exact ⟨rfl, wrt_f H.out B2.out hB 2⟩
    · have hfl : (Fld.foldL T).length ≤ 250000 := by
        have := fold_len T.length T 75 (by decide)
        rw [Fld.foldL, Fld.foldR]
        omega
      have h6' : T.length ≤ 60000 := by omega
      have HR2 := HR.out
      rw [if_neg h6] at HR2
      obtain ⟨G, hG⟩ : ∃ G, Fld.foldL T = G := ⟨_, rfl⟩
      have HG := Lib.hid hG
      rw [hG] at HR2 hfl
      have HR3 := Lib.hid HR2
      have gz : (⟨G.toArray⟩ : ByteArray).size = G.length := rfl
      clear hG HR2 HR h6
      go_enter Try.func54, Try.ntmps54
      go_wp2_with fail
      refine (ltx_v X0 X2 L.nm L.vl _ L.ps T 0 _ h0.out h2.out (by have := hs.out.1.1; omega) hs.out.1.2.1 (hp.out.below BB.out) hs.out.1.2.2.1 hs.out.1.2.2.2 (by have := hs.out.2; omega) HT).mono ?_
      rintro e w1 ⟨rfl, k1⟩
      have B1 := Lib.hid (bstep BB.out k1)
      clear k1 C0 BB
      go_wp2_with fail
      refine (line_v T _ h6' HH).mono ?_
      rw [HG.out]
      rintro e w2 ⟨rfl, k1⟩
      have B2 := Lib.hid (bstep B1.out k1)
      have H2 := Lib.hid (H.out.below B2.out)
      have y3 := H2.out.err.1
      have f3 := H2.out.err.2
      have s2 := B2.out.size
      clear k1 B1
      go_wp2_with fail
      refine (wln_to B b l 0 _ H2.out).mono ?_
      rintro e w3 ⟨rfl, rfl⟩
      by_cases hbig : 600000 < l.length + G.length
      · have hR : r = (l, 2) := by rw [← HR3.out, if_pos hbig]
        subst hR
        go_wp2
        first | (refine bodyPost_ret (results_none rfl _ _ _) rfl ?_) | go_end0
        exact ⟨rfl, wrt_f H.out B2.out hB 2⟩
      · have hR : r = (l ++ G, 0) := by rw [← HR3.out, if_neg hbig]
        subst hR
        go_wp2_with fail
        refine (wws_to B b l 0 _ _ H2.out (by rw [gz]; omega) (by omega)).mono ?_
        rintro e w4 ⟨rfl, hq⟩
        have HQ := Lib.hid (wrt_q hq B2.out hB)
        go_wp2
        first | (refine bodyPost_ret (results_none rfl _ _ _) rfl ?_) | go_end0
        exact ⟨rfl, HQ.out⟩
theorem pt_to (B b : Nat) (l : List UInt8) (e : Int) (X0 X2 : ByteArray) (L : LV) (pv : Value) (r : WS) (w : World) (h : Wrt B b l e w) (hB : B ≤ w.heap.size) (hl : l.length ≤ 600000) (h0 : X0 = ⟨L.nm.toArray⟩) (h2 : X2 = ⟨L.vl.toArray⟩) (hp : ParsV w pv L.ps) (hs : smlW L) (hr : Hid (putW (l, e) L = r)) :
    Calls Try.prog 54 #[.pointer (some ⟨b, 0, none⟩), .agg #[.string X0, pv, .string X2]] w fun x w' => x = .returned (.tuple #[]) ∧ WrtQ B b r w w' := by
  obtain ⟨a, n, c, hpv⟩ : ∃ a n c, pv = .slice a n c := by obtain ⟨a, n, c, h, _⟩ := hp; exact ⟨a, n, c, h⟩
  subst hpv
  by_cases he : e = 0
  · subst he
    exact pt_1 B b l X0 X2 L a n c r w h hB hl (Lib.hid h0) (Lib.hid h2) (Lib.hid hp) (Lib.hid hs) hr
  · have hR : r = (l, e) := by rw [← hr.out, putW, if_pos he]
    subst hR
    exact pt_0 B b l e _ w h he hB X0 X2 a n c rfl
theorem put_len (s : WS) (L : LV) (h : s.1.length ≤ 600000) : (putW s L).1.length ≤ 600000 := by
  rw [putW]
  repeat' split
  all_goals first | exact h | (simp only [List.length_append]; omega)
end Tre
end Go.Proofs.Ytdakpncfophjnaa
/-
  Package tree: what stands while a tree is written; plain words on a tree's text.
-/
namespace Go.Proofs.Ytdakpncfophjnaa
open Go.RowKit
namespace Tre
open Lin CutB Cel Ap
open Opn (TxtV)
/-- A block that is known whole. -/
def Ob (q : Nat) (w : World) (vs : List Value) (t : TypeId) : Prop := w.heap[q]? = some (.cells vs.toArray t (0, 0))
theorem Ob.new (w : World) (vs : List Value) (t : TypeId) : Ob w.heap.size (w.alloc (.cells vs.toArray t)) vs t := heap_alloc_new w _
theorem Ob.lt {q : Nat} {w : World} {vs : List Value} {t : TypeId} (h : Ob q w vs t) : q < w.heap.size := blk_lt h
theorem Ob.cell {q : Nat} {w : World} {vs : List Value} {t : TypeId} (h : Ob q w vs t) {i : Nat} {v : Value} (hv : vs[i]? = some v) : w.cell? ⟨q, i, none⟩ = some v := by
  rw [Lib.cell_of_heap h]; simpa using hv
theorem Ob.below {q : Nat} {w w' : World} {vs : List Value} {t : TypeId} (h : Ob q w vs t) (hb : Below w.heap.size w w') : Ob q w' vs t := (hb.block q h.lt).trans h
theorem Ob.kept {q b : Nat} {w w' : World} {vs : List Value} {t : TypeId} (h : Ob q w vs t) (ht : t ≠ 5) (hq : q ≠ b) (k : Lib.OthersKept 5 (some b) w w') : Ob q w' vs t :=
  k q _ h (fun e => hq (by injection e)) (fun c fz e => ht (by injection e with _ e _))
theorem own_far {w : World} {B : Nat} {e T : TypeId} {size : Nat} {v : Value} {n : Nat} {xs : List Value} {b : Nat} {cs : Array Value} {fr : Nat × Nat} (hown : w.ownsRow B e size v n xs) (hb : w.heap[b]? = some (.cells cs T fr)) (hTe : T ≠ e) : v.ownBlock ≠ some b := by
  rcases hown.2 with ⟨rfl, _⟩ | ⟨g, cap, cur, rfl, _, hg, _⟩
  · simp [Value.ownBlock]
  · intro h
    simp only [Value.ownBlock, Option.some.injEq] at h
    subst h
    rw [hg] at hb
    simp only [Option.some.injEq, Obj.cells.injEq] at hb
    exact hTe hb.2.1.symm
theorem RowO.kept {B b : Nat} {w w' : World} {v : Value} {K : Stk} (h : RowO B w v K) (hb : v.ownBlock ≠ some b) (k : Lib.OthersKept 5 (some b) w w') : RowO B w' v K := by
  refine ⟨h.1, ?_⟩
  rcases h.2 with h1 | ⟨g, cap, cur, hv, hg, hh, r⟩
  · exact Or.inl h1
  · subst hv
    exact Or.inr ⟨g, cap, cur, rfl, hg, k g _ hh (fun e => hb (by injection e with e; subst e; rfl)) (fun c fz e => absurd (by injection e with _ e _) (show 88 ≠ 5 by decide)), r⟩
theorem Ob.grew {B q : Nat} {v : Value} {w w' : World} {vs : List Value} {t : TypeId} (h : Ob q w vs t) (hg : Grew B v w w') (hne : v.ownBlock ≠ some q) : Ob q w' vs t := (hg.block q h.lt (fun e => hne e.symm)).trans h
theorem Wrt.grew {B B' b : Nat} {l : List UInt8} {e : Int} {v : Value} {n : Nat} {xs : List Value} {w w' : World} (h : Wrt B b l e w) (hg : Grew B' v w w') (hown : w.ownsRow B' 88 2 v n xs) : Wrt B b l e w' := by
  have key : ∀ p, WrtP B b p l e w → WrtP B b p l e w' := fun p ⟨hB, u, h1, h2⟩ => by
    refine ⟨hB, u, (hg.block b (blk_lt h1) (fun e => own_far hown h1 (by decide) e.symm)).trans h1, hg.other _ _ _ _ _ _ ?_ h2⟩
    exact Rws.apart h2 hown (by decide)
  rcases h with h | h
  · exact Or.inl (key _ h)
  · exact Or.inr (key _ h)
/-- What stands while a component is written. -/
def TxS (w : World) (b q : Nat) (s : WS) (v : Value) (K : Stk) (cs : List Value) (wr : World) : Prop := Wrt b b s.1 s.2 wr ∧ RowO b wr v K ∧ Ob q wr cs 63 ∧ Below w.heap.size w wr ∧ w.heap.size ≤ b
theorem TxS.alloc {w : World} {b q : Nat} {s : WS} {v : Value} {K : Stk} {cs : List Value} {wr : World} (h : TxS w b q s v K cs wr) (o : Obj) : TxS w b q s v K cs (wr.alloc o) := by
  have hb := (Below.refl wr.heap.size wr).alloc (Nat.le_refl _) o
  exact ⟨h.1.below hb, h.2.1.below hb, h.2.2.1.below hb, bstep h.2.2.2.1 hb, h.2.2.2.2⟩
theorem TxS.put {w : World} {b q : Nat} {s s' : WS} {v : Value} {K : Stk} {cs : List Value} {wr w' : World} (h : TxS w b q s v K cs wr) (hq : WrtQ b b s' wr w') : TxS w b q s' v K cs w' := by
  obtain ⟨h1, h2, h3, h4, h5⟩ := h
  obtain ⟨p, u, _, hbk, _⟩ := h1.any
  refine ⟨hq.1, h2.kept (own_far h2 hbk (by decide)) hq.2.2, h3.kept (by decide) ?_ hq.2.2, h4.trans (hq.2.1.mono h5), h5⟩
  rintro rfl
  rw [Ob] at h3
  rw [h3] at hbk
  injection hbk with e
  injection e with _ e _
  revert e
  decide
theorem TxS.app {w : World} {b q : Nat} {s : WS} {v v' : Value} {K K' : Stk} {cs : List Value} {wr w' : World} (h : TxS w b q s v K cs wr) (hg : Grew b v wr w') (hr : RowO b w' v' K') : TxS w b q s v' K' cs w' := by
  obtain ⟨h1, h2, h3, h4, h5⟩ := h
  exact ⟨h1.grew hg h2, hr, h3.grew hg (own_far h2 h3 (by decide)), hg.below _ _ h5 h4 h4.size, h5⟩
/-! ### Plain words -/
theorem foldR_ne (S : List UInt8) (room : Nat) : ∀ f, Fld.foldG f S room ≠ []
  | 0 => by simp [Fld.foldG]
  | f + 1 => by rw [Fld.foldG]; split <;> simp
/-- Written, or told why not. -/
def WrOk (s : WS) : Prop := s.2 = 0 → s.1 ≠ []
theorem put_ok (s : WS) (l : LV) : WrOk (putW s l) := by
  intro h
  rw [putW] at h ⊢
  split at h
  · rename_i hs; exact absurd h hs
  · rename_i hs
    rw [if_neg hs]
    split at h
    · exact absurd h (by simp)
    · rename_i h2
      rw [if_neg h2]
      split at h
      · exact absurd h (by simp)
      · rename_i h3
        rw [if_neg h3]
        split at h
        · exact absurd h (by simp)
        · rename_i h4
          rw [if_neg h4]
          have : Fld.foldL (lineF l) ≠ [] := foldR_ne _ _ _
          simp [this]
theorem foldl_ok {α : Type} (f : WS → α → WS) (hf : ∀ s x, WrOk (f s x)) : ∀ (xs : List α) (s : WS), WrOk s → WrOk (xs.foldl f s)
  | [], _, h => h
  | x :: xs, s, _ => foldl_ok f hf xs _ (hf s x)
theorem foldl_len {α : Type} (f : WS → α → WS) (hf : ∀ s x, s.1.length ≤ 600000 → (f s x).1.length ≤ 600000) : ∀ (xs : List α) (s : WS), s.1.length ≤ 600000 → (xs.foldl f s).1.length ≤ 600000
  | [], _, h => h
  | x :: xs, s, h => foldl_len f hf xs _ (hf s x h)
theorem cmp_ok (L : List CV) (i : Int) (K : Stk) (s : WS) (c : CV) : WrOk (cmpW L i K s c) :=
  foldl_ok _ (fun s _ => put_ok s _) _ _ (foldl_ok _ put_ok _ _ (put_ok _ _))
theorem cmp_len (L : List CV) (i : Int) (K : Stk) (s : WS) (c : CV) (h : s.1.length ≤ 600000) : (cmpW L i K s c).1.length ≤ 600000 :=
  foldl_len _ (fun s _ hs => put_len s _ hs) _ _ (foldl_len _ (fun s x hs => put_len s x hs) _ _ (put_len _ _ h))
/-- What holds ahead of each component. -/
def TxI (L : List CV) (n k : Nat) (K : Stk) (s R : WS) : Prop := (∃ Kc, lvK Kc k = K ∧ chkG k Kc (L.drop k) = true) ∧ K.length ≤ 8 ∧ (∀ x ∈ K, (∃ a : Nat, x.1 = a ∧ a < n) ∧ 0 ≤ x.2 ∧ x.2 ≤ n) ∧ s.2 = 0 ∧ s.1.length ≤ 600000 ∧ (0 < k → s.1 ≠ []) ∧ txG L k K s (L.drop k) = R
theorem top_le {n : Nat} {K : Stk} (h : ∀ x ∈ K, (∃ a : Nat, x.1 = a ∧ a < n) ∧ 0 ≤ x.2 ∧ x.2 ≤ n) : topE K ≤ n := by
  cases K with
  | nil => show (0 : Int) ≤ n; omega
  | cons x K => exact (h x (by simp)).2.2
theorem TxI.step {L : List CV} {n k : Nat} {K : Stk} {s R : WS} (h : TxI L n k K s R) (hn : L.length = n) (hk : k < L.length) (h0 : k = 0 → L[k].own = (n : Int) - 1) :
    (0 ≤ L[k].own ∧ L[k].own ≤ n) ∧ K.length ≤ 7 ∧ ((cmpW L k K s L[k]).2 ≠ 0 → R = ([], (cmpW L k K s L[k]).2)) ∧ ((cmpW L k K s L[k]).2 = 0 → TxI L n (k + 1) (lvK (((k : Int), (k : Int) + 1 + L[k].own) :: K) ((k : Int) + 1)) (cmpW L k K s L[k]) R) := by
  obtain ⟨⟨Kc, hKc, hchk⟩, hm, hx, he, hl, hne, hR⟩ := h
  rw [chk_drop hk, Bool.and_eq_true] at hchk
  obtain ⟨hst, hnx⟩ := hchk
  rw [hKc] at hnx
  rw [stpB, hKc, Bool.and_eq_true, Bool.and_eq_true, Bool.and_eq_true] at hst
  obtain ⟨hs1, hs2, hs3, _⟩ := hst
  have ho : 0 ≤ L[k].own := of_decide_eq_true hs1
  have h8 : ¬ K.length = 8 := by simpa using hs3
  have htop := top_le hx
  have hle : L[k].own ≤ (n : Int) - k - 1 := by
    by_cases hk0 : k = 0
    · have := h0 hk0; omega
    · have : L[k].own ≤ topE K - k - 1 := by
        rw [Bool.or_eq_true] at hs2
        rcases hs2 with q | q
        · have := of_decide_eq_true q; omega
        · exact of_decide_eq_true q
      omega
  rw [List.drop_eq_getElem_cons hk, txG] at hR
  refine ⟨⟨ho, by omega⟩, by omega, fun q => by rw [← hR, if_pos q], fun q => ?_⟩
  rw [if_neg (by simpa using q)] at hR
  refine ⟨⟨_, rfl, hnx⟩, ?_, ?_, q, cmp_len L k K s _ hl, fun _ => cmp_ok L k K s _ q, hR⟩
  · have := lv_len (((k : Int), (k : Int) + 1 + L[k].own) :: K) ((k : Int) + 1)
    simp only [List.length_cons] at this
    omega
  · intro x hx'
    rcases List.mem_cons.1 ((List.dropWhile_sublist _).subset hx') with rfl | h'
    · exact ⟨⟨k, rfl, by omega⟩, by simp only; omega, by simp only; omega⟩
    · exact hx x h'
end Tre
end Go.Proofs.Ytdakpncfophjnaa
