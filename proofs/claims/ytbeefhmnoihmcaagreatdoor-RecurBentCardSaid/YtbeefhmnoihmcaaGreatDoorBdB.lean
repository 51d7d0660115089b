/-
  Several texts in one (Wrd, Once, Words, Words2).
-/
import Derived.Test.YtbeefhmnoihmcaaGreatDoorBdA
import Derived.Laws.IdiomStrings
import Derived.Below
import Derived.Deep.DeepCutAuto
import Derived.Defers
import Derived.Laws.Pointers
import Derived.Laws.LoneSync
import Derived.RegionTactic
import Derived.RegionCalls
import Derived.Deep.CutBlock
import Derived.Deep.RegionWith
import Derived.Deep.DrawnRows
/-
  Package ascii: a text with its large letters made small (the walk over a row of bytes of its own).
-/
namespace Go.Proofs.YtbeefhmnoihmcaaGreatDoor
open Go.RowKit
namespace Wrd
def smB (c : UInt8) : UInt8 := if 65 ≤ c.toNat ∧ c.toNat ≤ 90 then UInt8.ofNat (c.toNat + 32) else c
def smL (L : List UInt8) : List UInt8 := L.map smB
def mid (L : List UInt8) (k : Nat) : List UInt8 := (L.take k).map smB ++ L.drop k
theorem mid_len (L : List UInt8) (k : Nat) : (mid L k).length = L.length := by
  simp [mid]; omega
theorem mid_zero (L : List UInt8) : mid L 0 = L := by simp [mid]
theorem mid_all (L : List UInt8) : mid L L.length = smL L := by simp [mid, smL]
theorem mid_at (L : List UInt8) (k : Nat) (h : k < L.length) : (mid L k)[k]? = some L[k] := by
  unfold mid
  rw [List.getElem?_append_right (by simp; omega)]
  simp [Nat.min_eq_left (Nat.le_of_lt h), h]
theorem mid_succ (L : List UInt8) (k : Nat) (h : k < L.length) : (mid L k).set k (smB L[k]) = mid L (k + 1) := by
  apply List.ext_getElem?
  intro j
  rw [List.getElem?_set]
  by_cases hj : k = j
  · subst hj
    rw [if_pos rfl, if_pos (by rw [mid_len]; exact h)]
    unfold mid
    rw [List.getElem?_append_left (by simp; omega)]
    simp [h]
  · rw [if_neg hj]
    unfold mid
    by_cases hl : j < k
    · rw [List.getElem?_append_left (by simp; omega), List.getElem?_append_left (by simp; omega)]
      simp [hl, show j < k + 1 by omega]
    · rw [List.getElem?_append_right (by simp; omega), List.getElem?_append_right (by simp; omega)]
      simp only [List.length_map, List.length_take, List.getElem?_drop]
      congr 1
      omega
theorem mid_stay (L : List UInt8) (k : Nat) (h : k < L.length) (hc : smB L[k] = L[k]) : mid L k = mid L (k + 1) := by
  rw [← mid_succ L k h, hc]
  apply List.ext_getElem?
  intro j
  rw [List.getElem?_set]
  by_cases hj : k = j
  · subst hj
    rw [if_pos rfl, if_pos (by rw [mid_len]; exact h), mid_at L k h]
  · rw [if_neg hj]

/-- The row at B: its bytes, none of them frozen. -/
def SmR (B : Nat) (M : List UInt8) (w : World) : Prop :=
  ∀ j (h : j < M.length), w.cell? ⟨B, j, none⟩ = some (.int .u8 (M[j].toNat : Int)) ∧ w.frozen? ⟨B, j, none⟩ = false
theorem SmR.get {B : Nat} {M : List UInt8} {w : World} (h : SmR B M w) {j : Nat} {c : UInt8} (hc : M[j]? = some c) :
    w.cell? ⟨B, j, none⟩ = some (.int .u8 (c.toNat : Int)) ∧ w.frozen? ⟨B, j, none⟩ = false := by
  obtain ⟨hj, rfl⟩ := List.getElem?_eq_some_iff.1 hc
  exact h j hj
theorem SmR.put {B : Nat} {M : List UInt8} {w : World} (h : SmR B M w) {k : Nat} (hk : k < M.length) {v : Int} {c : UInt8} (hv : v = (c.toNat : Int)) :
    SmR B (M.set k c) (w.setCell ⟨B, k, none⟩ (.int .u8 v)) := by
  intro j hj
  rw [List.length_set] at hj
  refine ⟨?_, by rw [World.frozen?_setCell]; exact (h j hj).2⟩
  by_cases hjk : k = j
  · subst hjk
    rw [World.cell?_setCell_same _ _ _ (h k hk).1, hv]
    simp
  · rw [World.cell?_setCell_other _ _ _ _ (by simp_all), (h j hj).1]
    simp [hjk]
theorem bytes_row (w : World) (s : ByteArray) (L : List UInt8) (hL : s.data.toList = L) :
    ∃ cap w1, (convert 9 37 (.string s)).run Tryz.prog w = .ok (.slice (some ⟨w.heap.size, 0, none⟩) s.size cap) w1 ∧ Below w.heap.size w w1 ∧ SmR w.heap.size L w1 ∧ w.heap.size < w1.heap.size := by
  refine ⟨_, _, run_bytes_of_string (P := Tryz.prog) w 9 37 5 s (by kernel_rfl) (by kernel_rfl) (by kernel_rfl), ?_, ?_, ?_⟩
  · exact (Below.refl _ _).drew.alloc (Nat.le_refl _) _
  · intro j hj
    have hs : L.length = s.data.size := by rw [← hL]; simp
    have hz : w.drew.heap.size = w.heap.size := rfl
    refine ⟨?_, ?_⟩
    · have h1 := World.cell?_alloc_mark w.drew (bytesRow s (grownCap w s.size 0 5)) 5 ((bytesRow s (grownCap w s.size 0 5)).size, (bytesRow s (grownCap w s.size 0 5)).size + 1) j
      rw [hz] at h1
      rw [h1, bytesRow_at s _ j (by omega)]
      congr 3
      subst hL
      simp
    · have h1 := World.frozen?_alloc_mark w.drew (bytesRow s (grownCap w s.size 0 5)) 5 (bytesRow s (grownCap w s.size 0 5)).size ((bytesRow s (grownCap w s.size 0 5)).size + 1) j
      rw [hz] at h1
      rw [h1]
      have : j < (bytesRow s (grownCap w s.size 0 5)).size := by rw [bytesRow, Array.size_append, Array.size_map]; omega
      simp; omega
  · simp
theorem smB_lo {c : UInt8} (h : (c.toNat : Int) < 65) : smB c = c := if_neg (by omega)
theorem smB_hi {c : UInt8} (h : 90 < (c.toNat : Int)) : smB c = c := if_neg (by omega)
theorem smB_in {c : UInt8} (h : 65 ≤ (c.toNat : Int)) (h2 : (c.toNat : Int) ≤ 90) : (c.toNat : Int) - 65 + 97 = ((smB c).toNat : Int) := by
  rw [smB, if_pos (by omega)]
  have : (UInt8.ofNat (c.toNat + 32)).toNat = c.toNat + 32 := by simp; omega
  rw [this]; omega

set_option maxHeartbeats 1600000 in
theorem small_any (s : ByteArray) (L M : List UInt8) (w : World) (hn : s.size ≤ 1000) (hL : Hid (s.data.toList = L)) (hM : Hid (smL L = M)) :
    Calls Tryz.prog 28 #[.string s] w fun e w' => e = .returned (.string ⟨M.toArray⟩) ∧ Below w.heap.size w w' := by
  obtain ⟨cap, w1, hconv, hb1, hr1, hz1⟩ := bytes_row w s L hL.out
  have HL : Hid (s.size = L.length) := Lib.hid (by rw [← hL.out]; simp)
  have HR1 := Lib.hid hr1
  obtain ⟨B, hB⟩ : ∃ B, w.heap.size = B := ⟨_, rfl⟩
  rw [hB] at hconv hb1 HR1 hz1 ⊢
  clear hr1
  go_enter Tryz.func28, Tryz.ntmps28
  go_wp2
  go_loopw [10] (fun i wr => ∃ k : Nat, k ≤ s.size ∧ i = .int .i64 k ∧ Hid (SmR B (mid L k) wr) ∧ Below B w wr ∧ B < wr.heap.size) (fun i _ => s.size - (intOf i).toNat)
  case atStart => exact ⟨0, Nat.zero_le _, rfl, Lib.hid (by rw [mid_zero]; exact HR1.out), hb1, hz1⟩
  case round =>
    obtain ⟨k, hk, rfl, HR, hb, hz⟩ := hrel
    by_cases hlt : k < s.size
    · have hkl : k < L.length := by rw [← HL.out]; exact hlt
      obtain ⟨c, hc⟩ : ∃ c, L[k] = c := ⟨_, rfl⟩
      have HG := Lib.hid (HR.out.get (mid_at L k hkl))
      rw [hc] at HG
      obtain ⟨gc, gf⟩ := HG.out
      have hc0 : (0 : Int) ≤ (c.toNat : Int) := by omega
      have hc1 : (c.toNat : Int) ≤ 255 := by have := c.toNat_lt; omega
      have HC := Lib.hid hc
      clear hc HG
      have HLo := Lib.hid (fun h => smB_lo (c := c) h)
      have HHi := Lib.hid (fun h => smB_hi (c := c) h)
      have HIn := Lib.hid (fun h h2 => smB_in (c := c) h h2)
      obtain ⟨x, hx⟩ : ∃ x : Int, (c.toNat : Int) = x := ⟨_, rfl⟩
      rw [hx] at gc hc0 hc1 HLo HHi HIn
      clear hx
      by_cases h65 : ¬ 65 ≤ x
      · have HR2 : Hid (SmR B (mid L (k + 1)) wr) := Lib.hid (by rw [← mid_stay L k hkl (by rw [HC.out]; exact HLo.out (by omega))]; exact HR.out)
        go_wp2
        go_roundw
        case rel => exact ⟨k + 1, by omega, by go_num, HR2, hb, hz⟩
        case measure => simp [intOf]; omega
      · have h65' : 65 ≤ x := by omega
        clear h65
        by_cases h90 : x ≤ 90
        · have HM := Lib.hid (mid_succ L k hkl)
          have HV := Lib.hid (HIn.out h65' h90)
          go_wp2
          go_roundw
          case rel => exact ⟨k + 1, by omega, by go_num, Lib.hid (by rw [← HM.out, HC.out]; exact HR.out.put (by rw [mid_len]; exact hkl) HV.out), hb.setCell (Nat.le_refl _) _, by simp; omega⟩
          case measure => simp [intOf]; omega
        · have HR2 : Hid (SmR B (mid L (k + 1)) wr) := Lib.hid (by rw [← mid_stay L k hkl (by rw [HC.out]; exact HHi.out (by omega))]; exact HR.out)
          go_wp2
          go_roundw
          case rel => exact ⟨k + 1, by omega, by go_num, HR2, hb, hz⟩
          case measure => simp [intOf]; omega
    · obtain rfl : k = s.size := by omega
      have hback := run_convert_bytes_back (P := Tryz.prog) wr 37 9 5 ⟨B, 0, none⟩ cap M (by kernel_rfl) (by kernel_rfl) (by kernel_rfl) (by
        intro j hj
        have := HR.out
        rw [HL.out, mid_all, hM.out] at this
        have e : (⟨B, 0, none⟩ : Addr).add j = ⟨B, j, none⟩ := by
          unfold Addr.add
          split <;> simp_all
        rw [e]
        exact (this j hj).1)
      rw [show M.length = s.size by rw [← hM.out, HL.out]; simp [smL]] at hback
      go_wp2
      go_ret
      exact ⟨rfl, hb⟩
end Wrd
end Go.Proofs.YtbeefhmnoihmcaaGreatDoor
/-
  sync.Once in one goroutine, the lock free: its parts (a store of 'done', the lock taken, the lock let go).
-/
namespace Go.Proofs.YtbeefhmnoihmcaaGreatDoor
open Go.RowKit
namespace Wrd
end Wrd
end Go.Proofs.YtbeefhmnoihmcaaGreatDoor
/-
  Package words: each kind's row, the function that sync.Once calls to lay it, and a lexicon's list (fresh, and laid).
-/
namespace Go.Proofs.YtbeefhmnoihmcaaGreatDoor
open Go.RowKit
namespace Wrd
def wds1 : List (List UInt8) := [[82, 117, 108, 101], [90, 111, 110, 101], [76, 105, 110, 107]]
def wds2 : List (List UInt8) := [[74, 97, 110, 117, 97, 114, 121], [70, 101, 98, 114, 117, 97, 114, 121], [77, 97, 114, 99, 104], [65, 112, 114, 105, 108], [77, 97, 121], [74, 117, 110, 101], [74, 117, 108, 121], [65, 117, 103, 117, 115, 116], [83, 101, 112, 116, 101, 109, 98, 101, 114], [79, 99, 116, 111, 98, 101, 114], [78, 111, 118, 101, 109, 98, 101, 114], [68, 101, 99, 101, 109, 98, 101, 114]]
def wds3 : List (List UInt8) := [[83, 117, 110, 100, 97, 121], [77, 111, 110, 100, 97, 121], [84, 117, 101, 115, 100, 97, 121], [87, 101, 100, 110, 101, 115, 100, 97, 121], [84, 104, 117, 114, 115, 100, 97, 121], [70, 114, 105, 100, 97, 121], [83, 97, 116, 117, 114, 100, 97, 121]]
def wds4 : List (List UInt8) := [[109, 105, 110, 105, 109, 117, 109], [109, 97, 120, 105, 109, 117, 109], [111, 110, 108, 121]]
def wds (k : Int) : List (List UInt8) := if k = 1 then wds1 else if k = 2 then wds2 else if k = 3 then wds3 else if k = 4 then wds4 else []
/-- A kind, how many words it has, and its words. -/
def WK (k : Int) (n : Nat) (L : List (List UInt8)) : Prop := (k = 1 ∧ n = 3 ∧ L = wds1) ∨ (k = 2 ∧ n = 12 ∧ L = wds2) ∨ (k = 3 ∧ n = 7 ∧ L = wds3) ∨ (k = 4 ∧ n = 3 ∧ L = wds4) ∨ ((k == 1) = false ∧ (k == 2) = false ∧ (k == 3) = false ∧ (k == 4) = false ∧ n = 0 ∧ L = [])
theorem WK.len {k : Int} {n : Nat} {L : List (List UInt8)} (h : WK k n L) : L.length = n := by
  rcases h with ⟨_, rfl, rfl⟩ | ⟨_, rfl, rfl⟩ | ⟨_, rfl, rfl⟩ | ⟨_, rfl, rfl⟩ | ⟨_, _, _, _, rfl, rfl⟩ <;> rfl
def rowV (L : List (List UInt8)) : Array Value := (L.map fun x => Value.string ⟨x.toArray⟩).toArray
/-- The row at A, of B and behind it: its texts. -/
def RowA (B : Nat) (A : Option Addr) (L : List (List UInt8)) (w : World) : Prop :=
  ∀ j (h : j < L.length), ∃ g, A = some ⟨g, 0, none⟩ ∧ B ≤ g ∧ g < w.heap.size ∧ w.cell? ⟨g, j, none⟩ = some (.string ⟨L[j].toArray⟩)
theorem rowA_new (L : List (List UInt8)) (t : TypeId) (w : World) : RowA w.heap.size (some ⟨w.heap.size, 0, none⟩) L (w.alloc (Obj.cells (rowV L) t)) := by
  intro j hj
  refine ⟨_, rfl, Nat.le_refl _, by simp, ?_⟩
  rw [World.cell?_alloc_new]
  simp [rowV, hj]
theorem RowA.keep {B : Nat} {A : Option Addr} {L : List (List UInt8)} {w w' : World} (h : RowA B A L w) (hs : w.heap.size ≤ w'.heap.size) (hc : ∀ g j, B ≤ g → g < w.heap.size → w'.cell? ⟨g, j, none⟩ = w.cell? ⟨g, j, none⟩) : RowA B A L w' := by
  intro j hj
  obtain ⟨g, h1, h2, h3, h4⟩ := h j hj
  exact ⟨g, h1, h2, by omega, (hc g j h2 h3).trans h4⟩
theorem RowA.below {B : Nat} {A : Option Addr} {L : List (List UInt8)} {w w' : World} (h : RowA B A L w) (hb : Below w.heap.size w w') : RowA B A L w' :=
  h.keep hb.size (fun _ _ _ h3 => hb.cell (p := ⟨_, _, none⟩) h3)
theorem RowA.set_ {B : Nat} {A : Option Addr} {L : List (List UInt8)} {w : World} (h : RowA B A L w) {b i : Nat} (hb : b < B) (v : Value) : RowA B A L (w.setCell ⟨b, i, none⟩ v) :=
  h.keep (by simp) (fun g j h2 _ => World.cell?_setCell_other _ ⟨b, i, none⟩ ⟨g, j, none⟩ _ (fun e => by injection e; omega))
theorem RowA.drew {B : Nat} {A : Option Addr} {L : List (List UInt8)} {w : World} (h : RowA B A L w) : RowA B A L w.drew := h
theorem RowA.less {B B' : Nat} {A : Option Addr} {L : List (List UInt8)} {w : World} (h : RowA B A L w) (hb : B' ≤ B) : RowA B' A L w := by
  intro j hj
  obtain ⟨g, h1, h2, h3, h4⟩ := h j hj
  exact ⟨g, h1, by omega, h3, h4⟩
def WofQ (n : Nat) (L : List (List UInt8)) (w : World) (e : Ending) (w' : World) : Prop := ∃ A, e = .returned (.slice A n n) ∧ Below w.heap.size w w' ∧ Hid (RowA w.heap.size A L w')
def LstQ (b n : Nat) (L : List (List UInt8)) (w w' : World) : Prop := ∃ A w2, w' = w2.setCell ⟨b, 4, none⟩ (.slice A n n) ∧ Below w.heap.size w w2 ∧ Hid (RowA w.heap.size A L w2)
/-- What the slow road leaves: the row, the lexicon's words, 'done', the lock free. -/
def SlowQ (b n : Nat) (L : List (List UInt8)) (w w' : World) : Prop := ∃ A w2, w' = ((w2.setCell ⟨b, 4, none⟩ (.slice A n n)).drew.setCell ⟨b, 1, none⟩ (.int .u32 1)).setCell ⟨b, 2, none⟩ (.int .i32 0) ∧ Below w.heap.size (w.setCell ⟨b, 2, none⟩ (.int .i32 1)) w2 ∧ Hid (RowA w.heap.size A L w2)
/-- A lexicon that nobody has asked yet. -/
def Fresh (b : Nat) (k : Int) (w : World) : Prop := b < w.heap.size ∧ w.cell? ⟨b, 0, none⟩ = some (.int .i64 k) ∧ w.cell? ⟨b, 1, none⟩ = some (.int .u32 0) ∧ w.cell? ⟨b, 2, none⟩ = some (.int .i32 0) ∧ w.cell? ⟨b, 4, none⟩ = some (.slice none 0 0) ∧
  w.frozen? ⟨b, 1, none⟩ = false ∧ w.frozen? ⟨b, 2, none⟩ = false ∧ w.frozen? ⟨b, 4, none⟩ = false
/-- A lexicon that is laid. -/
def Laid (b : Nat) (k : Int) (A : Option Addr) (n : Nat) (L : List (List UInt8)) (w : World) : Prop := b < w.heap.size ∧ w.cell? ⟨b, 0, none⟩ = some (.int .i64 k) ∧ w.cell? ⟨b, 1, none⟩ = some (.int .u32 1) ∧ w.cell? ⟨b, 4, none⟩ = some (.slice A n n) ∧ RowA (b + 1) A L w
theorem Fresh.below {b : Nat} {k : Int} {w w' : World} (h : Fresh b k w) (hb : Below w.heap.size w w') : Fresh b k w' := by
  obtain ⟨a0, a1, a2, a3, a4, a5, a6, a7⟩ := h
  have c := fun i => hb.cell (p := ⟨b, i, none⟩) a0
  have f := fun i => hb.frozen (p := ⟨b, i, none⟩) a0
  exact ⟨Nat.lt_of_lt_of_le a0 hb.size, (c 0).trans a1, (c 1).trans a2, (c 2).trans a3, (c 4).trans a4, (f 1).trans a5, (f 2).trans a6, (f 4).trans a7⟩
theorem Laid.below {b n : Nat} {k : Int} {A : Option Addr} {L : List (List UInt8)} {w w' : World} (h : Laid b k A n L w) (hb : Below w.heap.size w w') : Laid b k A n L w' := by
  obtain ⟨a0, a1, a2, a3, a4⟩ := h
  have c := fun i => hb.cell (p := ⟨b, i, none⟩) a0
  exact ⟨Nat.lt_of_lt_of_le a0 hb.size, (c 0).trans a1, (c 1).trans a2, (c 4).trans a3, a4.below hb⟩
end Wrd
end Go.Proofs.YtbeefhmnoihmcaaGreatDoor
/-
  Package words: Once.Do and a lexicon's list (fresh, and laid); first, least; strings.HasPrefix; ascii.Same.
-/
namespace Go.Proofs.YtbeefhmnoihmcaaGreatDoor
open Go.RowKit
namespace Wrd
theorem Fresh.slow {b n : Nat} {k : Int} {L : List (List UInt8)} {o : Obj} {w w' : World} (h : Fresh b k w) (hq : SlowQ b n L (w.alloc o) w') : ∃ A, Laid b k A n L w' ∧ Below b w w' ∧ w.heap.size < w'.heap.size ∧ w'.cell? ⟨w.heap.size, 0, none⟩ = (w.alloc o).cell? ⟨w.heap.size, 0, none⟩ := by
  obtain ⟨a0, a1, a2, a3, a4, a5, a6, a7⟩ := h
  obtain ⟨A, w2, rfl, hb, hr⟩ := hq
  have hz : w.heap.size + 1 ≤ w2.heap.size := by have := hb.size; simpa using this
  have hb2 : Below b w w2 := (((Below.refl b w).alloc (by omega) o).setCell (p := ⟨b, 2, none⟩) (Nat.le_refl _) _).trans (hb.mono (by simp; omega))
  have hr2 : RowA (b + 1) A L w2 := hr.out.less (by simp; omega)
  have c0 : w2.cell? ⟨b, 0, none⟩ = some (.int .i64 k) := (hb.cell (p := ⟨b, 0, none⟩) (by simp; omega)).trans ((World.cell?_setCell_other _ ⟨b, 2, none⟩ ⟨b, 0, none⟩ _ (by simp)).trans ((World.cell?_alloc_lt w o ⟨b, 0, none⟩ a0).trans a1))
  have c1 : w2.cell? ⟨b, 1, none⟩ = some (.int .u32 0) := (hb.cell (p := ⟨b, 1, none⟩) (by simp; omega)).trans ((World.cell?_setCell_other _ ⟨b, 2, none⟩ ⟨b, 1, none⟩ _ (by simp)).trans ((World.cell?_alloc_lt w o ⟨b, 1, none⟩ a0).trans a2))
  have c4 : w2.cell? ⟨b, 4, none⟩ = some (.slice none 0 0) := (hb.cell (p := ⟨b, 4, none⟩) (by simp; omega)).trans ((World.cell?_setCell_other _ ⟨b, 2, none⟩ ⟨b, 4, none⟩ _ (by simp)).trans ((World.cell?_alloc_lt w o ⟨b, 4, none⟩ a0).trans a4))
  refine ⟨A, ⟨by simp; omega, ?_, ?_, ?_, ?_⟩, ?_, by simp; omega, ?_⟩
  · rw [World.cell?_setCell_other _ _ _ _ (by simp), World.cell?_setCell_other _ _ _ _ (by simp)]
    exact (World.cell?_setCell_other _ ⟨b, 4, none⟩ ⟨b, 0, none⟩ _ (by simp)).trans c0
  · rw [World.cell?_setCell_other _ _ _ _ (by simp)]
    exact World.cell?_setCell_same _ _ _ ((World.cell?_setCell_other _ ⟨b, 4, none⟩ ⟨b, 1, none⟩ _ (by simp)).trans c1)
  · rw [World.cell?_setCell_other _ _ _ _ (by simp), World.cell?_setCell_other _ _ _ _ (by simp)]
    exact World.cell?_setCell_same _ _ _ c4
  · exact ((hr2.set_ (by omega) _).drew.set_ (by omega) _).set_ (by omega) _
  · exact ((hb2.setCell (Nat.le_refl _) _).drew.setCell (Nat.le_refl _) _).setCell (Nat.le_refl _) _
  · have hne : ∀ i, (⟨b, i, none⟩ : Addr) ≠ ⟨w.heap.size, 0, none⟩ := fun i e => by injection e; omega
    rw [World.cell?_setCell_other _ _ _ _ (hne _), World.cell?_setCell_other _ _ _ _ (hne _)]
    refine (World.cell?_setCell_other _ ⟨b, 4, none⟩ ⟨w.heap.size, 0, none⟩ _ (hne _)).trans ?_
    refine (hb.cell (p := ⟨w.heap.size, 0, none⟩) (by simp)).trans ?_
    exact World.cell?_setCell_other _ ⟨b, 2, none⟩ ⟨w.heap.size, 0, none⟩ _ (hne _)
/-- list of a fresh lexicon. -/
def LisQ (b n : Nat) (k : Int) (L : List (List UInt8)) (w : World) (e : Ending) (w' : World) : Prop := ∃ A, e = .returned (.slice A n n) ∧ Laid b k A n L w' ∧ Below b w w' ∧ w.heap.size < w'.heap.size
def fstV (k : Int) : Int := if k = 3 then 0 else 1
def lstV (k : Int) : Int := if k = 2 ∨ k = 3 then 3 else 1
end Wrd
end Go.Proofs.YtbeefhmnoihmcaaGreatDoor
