/-
  Package words: each kind's row, the function that sync.Once calls to lay it, and a lexicon's list (fresh, and laid).
-/
import Derived.Test.YtpcnpacllkiieaaGreatDoorOnce
import Derived.Deep.CutBlock
import Derived.Laws.Pointers
import Derived.RegionCalls
import Derived.Deep.RegionWith
import Derived.Deep.DrawnRows
namespace Go.Proofs.YtpcnpacllkiieaaGreatDoor
open Go.RowKit
namespace Wrd
def wds1 : List (List UInt8) := [[82, 117, 108, 101], [90, 111, 110, 101], [76, 105, 110, 107]]
def wds2 : List (List UInt8) := [[74, 97, 110, 117, 97, 114, 121], [70, 101, 98, 114, 117, 97, 114, 121], [77, 97, 114, 99, 104], [65, 112, 114, 105, 108], [77, 97, 121], [74, 117, 110, 101], [74, 117, 108, 121], [65, 117, 103, 117, 115, 116], [83, 101, 112, 116, 101, 109, 98, 101, 114], [79, 99, 116, 111, 98, 101, 114], [78, 111, 118, 101, 109, 98, 101, 114], [68, 101, 99, 101, 109, 98, 101, 114]]
def wds3 : List (List UInt8) := [[83, 117, 110, 100, 97, 121], [77, 111, 110, 100, 97, 121], [84, 117, 101, 115, 100, 97, 121], [87, 101, 100, 110, 101, 115, 100, 97, 121], [84, 104, 117, 114, 115, 100, 97, 121], [70, 114, 105, 100, 97, 121], [83, 97, 116, 117, 114, 100, 97, 121]]
def wds4 : List (List UInt8) := [[109, 105, 110, 105, 109, 117, 109], [109, 97, 120, 105, 109, 117, 109], [111, 110, 108, 121]]
def wds (k : Int) : List (List UInt8) := if k = 1 then wds1 else if k = 2 then wds2 else if k = 3 then wds3 else if k = 4 then wds4 else []
/-- A kind, how many words it has, and its words. -/
def WK (k : Int) (n : Nat) (L : List (List UInt8)) : Prop := (k = 1 ∧ n = 3 ∧ L = wds1) ∨ (k = 2 ∧ n = 12 ∧ L = wds2) ∨ (k = 3 ∧ n = 7 ∧ L = wds3) ∨ (k = 4 ∧ n = 3 ∧ L = wds4) ∨ ((k == 1) = false ∧ (k == 2) = false ∧ (k == 3) = false ∧ (k == 4) = false ∧ n = 0 ∧ L = [])
theorem WK.len {k : Int} {n : Nat} {L : List (List UInt8)} (h : WK k n L) : L.length = n := by
  rcases h with ⟨_, rfl, rfl⟩ | ⟨_, rfl, rfl⟩ | ⟨_, rfl, rfl⟩ | ⟨_, rfl, rfl⟩ | ⟨_, _, _, _, rfl, rfl⟩ <;> rfl
def rowV (L : List (List UInt8)) : Array Value := (L.map fun x => Value.string ⟨x.toArray⟩).toArray
/-- The row at A, of B and behind it: its texts. -/
def RowA (B : Nat) (A : Option Addr) (L : List (List UInt8)) (w : World) : Prop :=
  ∀ j (h : j < L.length), ∃ g, A = some ⟨g, 0, none⟩ ∧ B ≤ g ∧ g < w.heap.size ∧ w.cell? ⟨g, j, none⟩ = some (.string ⟨L[j].toArray⟩)
theorem rowA_new (L : List (List UInt8)) (t : TypeId) (w : World) : RowA w.heap.size (some ⟨w.heap.size, 0, none⟩) L (w.alloc (Obj.cells (rowV L) t)) := by
  intro j hj
  refine ⟨_, rfl, Nat.le_refl _, by simp, ?_⟩
  rw [World.cell?_alloc_new]
  simp [rowV, hj]
theorem RowA.keep {B : Nat} {A : Option Addr} {L : List (List UInt8)} {w w' : World} (h : RowA B A L w) (hs : w.heap.size ≤ w'.heap.size) (hc : ∀ g j, B ≤ g → g < w.heap.size → w'.cell? ⟨g, j, none⟩ = w.cell? ⟨g, j, none⟩) : RowA B A L w' := by
  intro j hj
  obtain ⟨g, h1, h2, h3, h4⟩ := h j hj
  exact ⟨g, h1, h2, by omega, (hc g j h2 h3).trans h4⟩
theorem RowA.below {B : Nat} {A : Option Addr} {L : List (List UInt8)} {w w' : World} (h : RowA B A L w) (hb : Below w.heap.size w w') : RowA B A L w' :=
  h.keep hb.size (fun _ _ _ h3 => hb.cell (p := ⟨_, _, none⟩) h3)
theorem RowA.set_ {B : Nat} {A : Option Addr} {L : List (List UInt8)} {w : World} (h : RowA B A L w) {b i : Nat} (hb : b < B) (v : Value) : RowA B A L (w.setCell ⟨b, i, none⟩ v) :=
  h.keep (by simp) (fun g j h2 _ => World.cell?_setCell_other _ ⟨b, i, none⟩ ⟨g, j, none⟩ _ (fun e => by injection e; omega))
theorem RowA.drew {B : Nat} {A : Option Addr} {L : List (List UInt8)} {w : World} (h : RowA B A L w) : RowA B A L w.drew := h
theorem RowA.less {B B' : Nat} {A : Option Addr} {L : List (List UInt8)} {w : World} (h : RowA B A L w) (hb : B' ≤ B) : RowA B' A L w := by
  intro j hj
  obtain ⟨g, h1, h2, h3, h4⟩ := h j hj
  exact ⟨g, h1, by omega, h3, h4⟩
def WofQ (n : Nat) (L : List (List UInt8)) (w : World) (e : Ending) (w' : World) : Prop := ∃ A, e = .returned (.slice A n n) ∧ Below w.heap.size w w' ∧ Hid (RowA w.heap.size A L w')
set_option maxHeartbeats 800000 in
theorem wof_to (k : Int) (n : Nat) (L : List (List UInt8)) (w : World) (h : Hid (WK k n L)) :
    Calls Tryz.prog 131 #[.int .i64 k] w (WofQ n L w) := by
  rcases h.out with ⟨rfl, rfl, rfl⟩ | ⟨rfl, rfl, rfl⟩ | ⟨rfl, rfl, rfl⟩ | ⟨rfl, rfl, rfl⟩ | ⟨k1, k2, k3, k4, rfl, rfl⟩
  · have H : Hid (RowA w.heap.size (some ⟨w.heap.size, 0, none⟩) wds1 (w.alloc (Obj.cells (rowV wds1) 9))) := Lib.hid (rowA_new _ _ _)
    clear h
    go_enter Tryz.func131, Tryz.ntmps131
    go_wp2
    go_ret
    exact ⟨_, rfl, (Below.refl _ _).alloc (Nat.le_refl _) _, H⟩
  · have H : Hid (RowA w.heap.size (some ⟨w.heap.size, 0, none⟩) wds2 (w.alloc (Obj.cells (rowV wds2) 9))) := Lib.hid (rowA_new _ _ _)
    clear h
    go_enter Tryz.func131, Tryz.ntmps131
    go_wp2
    go_ret
    exact ⟨_, rfl, (Below.refl _ _).alloc (Nat.le_refl _) _, H⟩
  · have H : Hid (RowA w.heap.size (some ⟨w.heap.size, 0, none⟩) wds3 (w.alloc (Obj.cells (rowV wds3) 9))) := Lib.hid (rowA_new _ _ _)
    clear h
    go_enter Tryz.func131, Tryz.ntmps131
    go_wp2
    go_ret
    exact ⟨_, rfl, (Below.refl _ _).alloc (Nat.le_refl _) _, H⟩
  · have H : Hid (RowA w.heap.size (some ⟨w.heap.size, 0, none⟩) wds4 (w.alloc (Obj.cells (rowV wds4) 9))) := Lib.hid (rowA_new _ _ _)
    clear h
    go_enter Tryz.func131, Tryz.ntmps131
    go_wp2
    go_ret
    exact ⟨_, rfl, (Below.refl _ _).alloc (Nat.le_refl _) _, H⟩
  · clear h
    go_enter Tryz.func131, Tryz.ntmps131
    go_wp2
    go_ret
    exact ⟨none, rfl, Below.refl _ _, Lib.hid (fun j hj => by simp at hj)⟩
def LstQ (b n : Nat) (L : List (List UInt8)) (w w' : World) : Prop := ∃ A w2, w' = w2.setCell ⟨b, 4, none⟩ (.slice A n n) ∧ Below w.heap.size w w2 ∧ Hid (RowA w.heap.size A L w2)
set_option maxRecDepth 100000 in
theorem lst1 (b n : Nat) (k : Int) (L : List (List UInt8)) (pl : Addr) (x : Value) (w : World) (h : Hid (WK k n L)) (hb : b < w.heap.size) (hpl : pl.block < w.heap.size) (hp : w.cell? pl = some (.pointer (some ⟨b, 0, none⟩))) (hk : w.cell? ⟨b, 0, none⟩ = some (.int .i64 k)) (hx : w.cell? ⟨b, 4, none⟩ = some x) (fx : w.frozen? ⟨b, 4, none⟩ = false) :
    Calls Tryz.prog 130 #[.pointer (some pl)] w fun e w' => e = .returned (.tuple #[]) ∧ LstQ b n L w w' := by
  go_enter Tryz.func130, Tryz.ntmps130
  go_region_with (go_at_call 131; (with_reducible refine (wof_to _ _ _ _ h).mono ?_); rintro e w2 ⟨A, rfl, hq, hr⟩; have hq2 : Below w.heap.size w w2 := ((Below.refl w.heap.size w).drew).trans hq; have hr2 : Hid (RowA w.heap.size A L w2) := hr; have c4 : w2.cell? ⟨b, 4, none⟩ = some x := (hq2.cell (p := ⟨b, 4, none⟩) hb).trans hx; have f4 : w2.frozen? ⟨b, 4, none⟩ = false := (hq2.frozen (p := ⟨b, 4, none⟩) hb).trans fx; have cp : w2.cell? pl = some (.pointer (some ⟨b, 0, none⟩)) := (hq2.cell (p := pl) hpl).trans hp; clear hq hr)
  all_goals (go_end0; exact ⟨rfl, _, _, rfl, hq2, hr2⟩)

/-- What the slow road leaves: the row, the lexicon's words, 'done', the lock free. -/
def SlowQ (b n : Nat) (L : List (List UInt8)) (w w' : World) : Prop := ∃ A w2, w' = ((w2.setCell ⟨b, 4, none⟩ (.slice A n n)).drew.setCell ⟨b, 1, none⟩ (.int .u32 1)).setCell ⟨b, 2, none⟩ (.int .i32 0) ∧ Below w.heap.size (w.setCell ⟨b, 2, none⟩ (.int .i32 1)) w2 ∧ Hid (RowA w.heap.size A L w2)
set_option maxRecDepth 100000 in
set_option maxHeartbeats 1600000 in
/-- The slow road of Once: the lock taken, the row laid, 'done' stored, the lock let go. -/
theorem slow_to (b n : Nat) (k : Int) (L : List (List UInt8)) (pl : Addr) (x : Value) (w : World) (h : Hid (WK k n L)) (hb : b < w.heap.size) (hpl : pl.block < w.heap.size) (hne : pl.block ≠ b) (hp : w.cell? pl = some (.pointer (some ⟨b, 0, none⟩))) (hk : w.cell? ⟨b, 0, none⟩ = some (.int .i64 k))
    (h1 : w.cell? ⟨b, 1, none⟩ = some (.int .u32 0)) (h2 : w.cell? ⟨b, 2, none⟩ = some (.int .i32 0)) (hx : w.cell? ⟨b, 4, none⟩ = some x) (f1 : w.frozen? ⟨b, 1, none⟩ = false) (f2 : w.frozen? ⟨b, 2, none⟩ = false) (fx : w.frozen? ⟨b, 4, none⟩ = false) :
    Calls Tryz.prog 151 #[.pointer (some ⟨b, 1, none⟩), .func (.func 130) #[] #[.pointer (some pl)]] w fun e w' => e = .returned (.tuple #[]) ∧ SlowQ b n L w w' := by
  have a1 : (w.setCell ⟨b, 2, none⟩ (.int .i32 1)).cell? ⟨b, 1, none⟩ = some (.int .u32 0) := (World.cell?_setCell_other _ ⟨b, 2, none⟩ ⟨b, 1, none⟩ _ (by simp)).trans h1
  have hnot : ∀ (x : Bool) (w : World), (Op.unary .not (.bool x)).run Tryz.prog w = .ok (.bool (!x)) w := fun _ _ => rfl
  have ap : (w.setCell ⟨b, 2, none⟩ (.int .i32 1)).cell? pl = some (.pointer (some ⟨b, 0, none⟩)) := (World.cell?_setCell_other _ ⟨b, 2, none⟩ pl _ (fun h => hne (by rw [← h]))).trans hp
  have ak : (w.setCell ⟨b, 2, none⟩ (.int .i32 1)).cell? ⟨b, 0, none⟩ = some (.int .i64 k) := (World.cell?_setCell_other _ ⟨b, 2, none⟩ ⟨b, 0, none⟩ _ (by simp)).trans hk
  have ax : (w.setCell ⟨b, 2, none⟩ (.int .i32 1)).cell? ⟨b, 4, none⟩ = some x := (World.cell?_setCell_other _ ⟨b, 2, none⟩ ⟨b, 4, none⟩ _ (by simp)).trans hx
  have fx1 : (w.setCell ⟨b, 2, none⟩ (.int .i32 1)).frozen? ⟨b, 4, none⟩ = false := by rw [World.frozen?_setCell]; exact fx
  go_enter_defers Tryz.func151, Tryz.ntmps151
  go_wp2_with (go_at_call 168; refine (on_lock ⟨b, 2, none⟩ _ (by go_simp) (by go_simp)).mono ?_; rintro e w' ⟨rfl, rfl⟩)
  go_wp2_with (go_at_call 150; refine (on_load0 _ _ a1).mono ?_; rintro e w' ⟨rfl, rfl⟩)
  go_wp2_with (go_at_call 130; refine (lst1 b n k L pl x _ h (by simp; exact hb) (by simp; exact hpl) ap ak ax fx1).mono ?_; rintro e w' ⟨rfl, hq⟩)
  obtain ⟨A, w2, rfl, hq2, hr2⟩ := hq
  have hb2 : b < (w.setCell ⟨b, 2, none⟩ (.int .i32 1)).heap.size := by simp; exact hb
  have c1 : (w2.setCell ⟨b, 4, none⟩ (.slice A n n)).cell? ⟨b, 1, none⟩ = some (.int .u32 0) := (World.cell?_setCell_other _ ⟨b, 4, none⟩ ⟨b, 1, none⟩ _ (by simp)).trans ((hq2.cell (p := ⟨b, 1, none⟩) hb2).trans a1)
  have c2 : (w2.setCell ⟨b, 4, none⟩ (.slice A n n)).cell? ⟨b, 2, none⟩ = some (.int .i32 1) := (World.cell?_setCell_other _ ⟨b, 4, none⟩ ⟨b, 2, none⟩ _ (by simp)).trans ((hq2.cell (p := ⟨b, 2, none⟩) hb2).trans (World.cell?_setCell_same w _ _ h2))
  have z1 : (w2.setCell ⟨b, 4, none⟩ (.slice A n n)).frozen? ⟨b, 1, none⟩ = false := by rw [World.frozen?_setCell, hq2.frozen (p := ⟨b, 1, none⟩) hb2, World.frozen?_setCell]; exact f1
  have z2 : w2.frozen? ⟨b, 2, none⟩ = false := by rw [hq2.frozen (p := ⟨b, 2, none⟩) hb2, World.frozen?_setCell]; exact f2
  refine leaves_cons (f := 170) (args := #[.pointer (some ⟨b, 1, none⟩), .bool true]) (by simp) (by simp [go_sem]) ?_
  refine (on_store ⟨b, 1, none⟩ (.int .u32 0) .returning _ c1 z1).mono ?_
  rintro e u' w'' ⟨rfl, rfl, rfl⟩
  refine leaves_cons (f := 169) (args := #[.pointer (some ⟨b, 2, none⟩)]) (by simp [settle]) (by simp [go_sem]) ?_
  refine (on_unlock ⟨b, 2, none⟩ _ _ ?_ (by simp [z2])).mono ?_
  · exact (World.cell?_setCell_other _ ⟨b, 1, none⟩ ⟨b, 2, none⟩ _ (by simp)).trans c2
  rintro e u' w'' ⟨rfl, rfl, rfl⟩
  simp [Leaves, settle, results, Tryz.results151]
  rw [World.size_setCell] at hq2 hr2
  exact ⟨A, w2, rfl, hq2, hr2⟩

/-- A lexicon that nobody has asked yet. -/
def Fresh (b : Nat) (k : Int) (w : World) : Prop := b < w.heap.size ∧ w.cell? ⟨b, 0, none⟩ = some (.int .i64 k) ∧ w.cell? ⟨b, 1, none⟩ = some (.int .u32 0) ∧ w.cell? ⟨b, 2, none⟩ = some (.int .i32 0) ∧ w.cell? ⟨b, 4, none⟩ = some (.slice none 0 0) ∧
  w.frozen? ⟨b, 1, none⟩ = false ∧ w.frozen? ⟨b, 2, none⟩ = false ∧ w.frozen? ⟨b, 4, none⟩ = false
/-- A lexicon that is laid. -/
def Laid (b : Nat) (k : Int) (A : Option Addr) (n : Nat) (L : List (List UInt8)) (w : World) : Prop := b < w.heap.size ∧ w.cell? ⟨b, 0, none⟩ = some (.int .i64 k) ∧ w.cell? ⟨b, 1, none⟩ = some (.int .u32 1) ∧ w.cell? ⟨b, 4, none⟩ = some (.slice A n n) ∧ RowA (b + 1) A L w
theorem Fresh.below {b : Nat} {k : Int} {w w' : World} (h : Fresh b k w) (hb : Below w.heap.size w w') : Fresh b k w' := by
  obtain ⟨a0, a1, a2, a3, a4, a5, a6, a7⟩ := h
  have c := fun i => hb.cell (p := ⟨b, i, none⟩) a0
  have f := fun i => hb.frozen (p := ⟨b, i, none⟩) a0
  exact ⟨Nat.lt_of_lt_of_le a0 hb.size, (c 0).trans a1, (c 1).trans a2, (c 2).trans a3, (c 4).trans a4, (f 1).trans a5, (f 2).trans a6, (f 4).trans a7⟩
theorem Laid.below {b n : Nat} {k : Int} {A : Option Addr} {L : List (List UInt8)} {w w' : World} (h : Laid b k A n L w) (hb : Below w.heap.size w w') : Laid b k A n L w' := by
  obtain ⟨a0, a1, a2, a3, a4⟩ := h
  have c := fun i => hb.cell (p := ⟨b, i, none⟩) a0
  exact ⟨Nat.lt_of_lt_of_le a0 hb.size, (c 0).trans a1, (c 1).trans a2, (c 4).trans a3, a4.below hb⟩
end Wrd
end Go.Proofs.YtpcnpacllkiieaaGreatDoor
