/-
  Several texts in one (Wrd, Once, Words, Words2).
-/
import Derived.Test.YthefgagmjamdkaaGreatDoorBdA
import Derived.Laws.IdiomStrings
import Derived.Below
import Derived.Deep.DeepCutAuto
import Derived.Defers
import Derived.Laws.Pointers
import Derived.Laws.LoneSync
import Derived.RegionTactic
import Derived.RegionCalls
import Derived.Deep.CutBlock
import Derived.Deep.RegionWith
import Derived.Deep.DrawnRows
/-
  Package ascii: a text with its large letters made small (the walk over a row of bytes of its own).
-/
namespace Go.Proofs.YthefgagmjamdkaaGreatDoor
open Go.RowKit
namespace Wrd
def smB (c : UInt8) : UInt8 := if 65 ≤ c.toNat ∧ c.toNat ≤ 90 then UInt8.ofNat (c.toNat + 32) else c
def smL (L : List UInt8) : List UInt8 := L.map smB
def mid (L : List UInt8) (k : Nat) : List UInt8 := (L.take k).map smB ++ L.drop k
theorem mid_len (L : List UInt8) (k : Nat) : (mid L k).length = L.length := by
  simp [mid]; omega
theorem mid_zero (L : List UInt8) : mid L 0 = L := by simp [mid]
theorem mid_all (L : List UInt8) : mid L L.length = smL L := by simp [mid, smL]
theorem mid_at (L : List UInt8) (k : Nat) (h : k < L.length) : (mid L k)[k]? = some L[k] := by
  unfold mid
  rw [List.getElem?_append_right (by simp; omega)]
  simp [Nat.min_eq_left (Nat.le_of_lt h), h]
theorem mid_succ (L : List UInt8) (k : Nat) (h : k < L.length) : (mid L k).set k (smB L[k]) = mid L (k + 1) := by
  apply List.ext_getElem?
  intro j
  rw [List.getElem?_set]
  by_cases hj : k = j
  · subst hj
    rw [if_pos rfl, if_pos (by rw [mid_len]; exact h)]
    unfold mid
    rw [List.getElem?_append_left (by simp; omega)]
    simp [h]
  · rw [if_neg hj]
    unfold mid
    by_cases hl : j < k
    · rw [List.getElem?_append_left (by simp; omega), List.getElem?_append_left (by simp; omega)]
      simp [hl, show j < k + 1 by omega]
    · rw [List.getElem?_append_right (by simp; omega), List.getElem?_append_right (by simp; omega)]
      simp only [List.length_map, List.length_take, List.getElem?_drop]
      congr 1
      omega
theorem mid_stay (L : List UInt8) (k : Nat) (h : k < L.length) (hc : smB L[k] = L[k]) : mid L k = mid L (k + 1) := by
  rw [← mid_succ L k h, hc]
  apply List.ext_getElem?
  intro j
  rw [List.getElem?_set]
  by_cases hj : k = j
  · subst hj
    rw [if_pos rfl, if_pos (by rw [mid_len]; exact h), mid_at L k h]
  · rw [if_neg hj]

/-- The row at B: its bytes, none of them frozen. -/
def SmR (B : Nat) (M : List UInt8) (w : World) : Prop :=
  ∀ j (h : j < M.length), w.cell? ⟨B, j, none⟩ = some (.int .u8 (M[j].toNat : Int)) ∧ w.frozen? ⟨B, j, none⟩ = false
theorem SmR.get {B : Nat} {M : List UInt8} {w : World} (h : SmR B M w) {j : Nat} {c : UInt8} (hc : M[j]? = some c) :
    w.cell? ⟨B, j, none⟩ = some (.int .u8 (c.toNat : Int)) ∧ w.frozen? ⟨B, j, none⟩ = false := by
  obtain ⟨hj, rfl⟩ := List.getElem?_eq_some_iff.1 hc
  exact h j hj
theorem SmR.put {B : Nat} {M : List UInt8} {w : World} (h : SmR B M w) {k : Nat} (hk : k < M.length) {v : Int} {c : UInt8} (hv : v = (c.toNat : Int)) :
    SmR B (M.set k c) (w.setCell ⟨B, k, none⟩ (.int .u8 v)) := by
  intro j hj
  rw [List.length_set] at hj
  refine ⟨?_, by rw [World.frozen?_setCell]; exact (h j hj).2⟩
  by_cases hjk : k = j
  · subst hjk
    rw [World.cell?_setCell_same _ _ _ (h k hk).1, hv]
    simp
  · rw [World.cell?_setCell_other _ _ _ _ (by simp_all), (h j hj).1]
    simp [hjk]
theorem bytes_row (w : World) (s : ByteArray) (L : List UInt8) (hL : s.data.toList = L) :
    ∃ cap w1, (convert 9 93 (.string s)).run Tryz.prog w = .ok (.slice (some ⟨w.heap.size, 0, none⟩) s.size cap) w1 ∧ Below w.heap.size w w1 ∧ SmR w.heap.size L w1 ∧ w.heap.size < w1.heap.size := by
  refine ⟨_, _, run_bytes_of_string (P := Tryz.prog) w 9 93 5 s (by kernel_rfl) (by kernel_rfl) (by kernel_rfl), ?_, ?_, ?_⟩
  · exact (Below.refl _ _).drew.alloc (Nat.le_refl _) _
  · intro j hj
    have hs : L.length = s.data.size := by rw [← hL]; simp
    have hz : w.drew.heap.size = w.heap.size := rfl
    refine ⟨?_, ?_⟩
    · have h1 := World.cell?_alloc_mark w.drew (bytesRow s (grownCap w s.size 0 5)) 5 ((bytesRow s (grownCap w s.size 0 5)).size, (bytesRow s (grownCap w s.size 0 5)).size + 1) j
      rw [hz] at h1
      rw [h1, bytesRow_at s _ j (by omega)]
      congr 3
      subst hL
      simp
    · have h1 := World.frozen?_alloc_mark w.drew (bytesRow s (grownCap w s.size 0 5)) 5 (bytesRow s (grownCap w s.size 0 5)).size ((bytesRow s (grownCap w s.size 0 5)).size + 1) j
      rw [hz] at h1
      rw [h1]
      have : j < (bytesRow s (grownCap w s.size 0 5)).size := by rw [bytesRow, Array.size_append, Array.size_map]; omega
      simp; omega
  · simp
theorem smB_lo {c : UInt8} (h : (c.toNat : Int) < 65) : smB c = c := if_neg (by omega)
theorem smB_hi {c : UInt8} (h : 90 < (c.toNat : Int)) : smB c = c := if_neg (by omega)
theorem smB_in {c : UInt8} (h : 65 ≤ (c.toNat : Int)) (h2 : (c.toNat : Int) ≤ 90) : (c.toNat : Int) - 65 + 97 = ((smB c).toNat : Int) := by
  rw [smB, if_pos (by omega)]
  have : (UInt8.ofNat (c.toNat + 32)).toNat = c.toNat + 32 := by simp; omega
  rw [this]; omega

set_option maxHeartbeats 1600000 in
theorem small_any (s : ByteArray) (L M : List UInt8) (w : World) (hn : s.size ≤ 1000) (hL : Hid (s.data.toList = L)) (hM : Hid (smL L = M)) :
    Calls Tryz.prog 123 #[.string s] w fun e w' => e = .returned (.string ⟨M.toArray⟩) ∧ Below w.heap.size w w' := by
  obtain ⟨cap, w1, hconv, hb1, hr1, hz1⟩ := bytes_row w s L hL.out
  have HL : Hid (s.size = L.length) := Lib.hid (by rw [← hL.out]; simp)
  have HR1 := Lib.hid hr1
  obtain ⟨B, hB⟩ : ∃ B, w.heap.size = B := ⟨_, rfl⟩
  rw [hB] at hconv hb1 HR1 hz1 ⊢
  clear hr1
  go_enter Tryz.func123, Tryz.ntmps123
  go_wp2
  go_loopw [10] (fun i wr => ∃ k : Nat, k ≤ s.size ∧ i = .int .i64 k ∧ Hid (SmR B (mid L k) wr) ∧ Below B w wr ∧ B < wr.heap.size) (fun i _ => s.size - (intOf i).toNat)
  case atStart => exact ⟨0, Nat.zero_le _, rfl, Lib.hid (by rw [mid_zero]; exact HR1.out), hb1, hz1⟩
  case round =>
    obtain ⟨k, hk, rfl, HR, hb, hz⟩ := hrel
    by_cases hlt : k < s.size
    · have hkl : k < L.length := by rw [← HL.out]; exact hlt
      obtain ⟨c, hc⟩ : ∃ c, L[k] = c := ⟨_, rfl⟩
      have HG := Lib.hid (HR.out.get (mid_at L k hkl))
      rw [hc] at HG
      obtain ⟨gc, gf⟩ := HG.out
      have hc0 : (0 : Int) ≤ (c.toNat : Int) := by omega
      have hc1 : (c.toNat : Int) ≤ 255 := by have := c.toNat_lt; omega
      have HC := Lib.hid hc
      clear hc HG
      have HLo := Lib.hid (fun h => smB_lo (c := c) h)
      have HHi := Lib.hid (fun h => smB_hi (c := c) h)
      have HIn := Lib.hid (fun h h2 => smB_in (c := c) h h2)
      obtain ⟨x, hx⟩ : ∃ x : Int, (c.toNat : Int) = x := ⟨_, rfl⟩
      rw [hx] at gc hc0 hc1 HLo HHi HIn
      clear hx
      by_cases h65 : ¬ 65 ≤ x
      · have HR2 : Hid (SmR B (mid L (k + 1)) wr) := Lib.hid (by rw [← mid_stay L k hkl (by rw [HC.out]; exact HLo.out (by omega))]; exact HR.out)
        go_wp2
        go_roundw
        case rel => exact ⟨k + 1, by omega, by go_num, HR2, hb, hz⟩
        case measure => simp [intOf]; omega
      · have h65' : 65 ≤ x := by omega
        clear h65
        by_cases h90 : x ≤ 90
        · have HM := Lib.hid (mid_succ L k hkl)
          have HV := Lib.hid (HIn.out h65' h90)
          go_wp2
          go_roundw
          case rel => exact ⟨k + 1, by omega, by go_num, Lib.hid (by rw [← HM.out, HC.out]; exact HR.out.put (by rw [mid_len]; exact hkl) HV.out), hb.setCell (Nat.le_refl _) _, by simp; omega⟩
          case measure => simp [intOf]; omega
        · have HR2 : Hid (SmR B (mid L (k + 1)) wr) := Lib.hid (by rw [← mid_stay L k hkl (by rw [HC.out]; exact HHi.out (by omega))]; exact HR.out)
          go_wp2
          go_roundw
          case rel => exact ⟨k + 1, by omega, by go_num, HR2, hb, hz⟩
          case measure => simp [intOf]; omega
    · obtain rfl : k = s.size := by omega
      have hback := run_convert_bytes_back (P := Tryz.prog) wr 93 9 5 ⟨B, 0, none⟩ cap M (by kernel_rfl) (by kernel_rfl) (by kernel_rfl) (by
        intro j hj
        have := HR.out
        rw [HL.out, mid_all, hM.out] at this
        have e : (⟨B, 0, none⟩ : Addr).add j = ⟨B, j, none⟩ := by
          unfold Addr.add
          split <;> simp_all
        rw [e]
        exact (this j hj).1)
      rw [show M.length = s.size by rw [← hM.out, HL.out]; simp [smL]] at hback
      go_wp2
      go_ret
      exact ⟨rfl, hb⟩
end Wrd
end Go.Proofs.YthefgagmjamdkaaGreatDoor
/-
  sync.Once in one goroutine, the lock free: its parts (a store of 'done', the lock taken, the lock let go).
-/
namespace Go.Proofs.YthefgagmjamdkaaGreatDoor
open Go.RowKit
namespace Wrd
theorem mk_dis (w : World) : (callFunc 160 #[]).run Tryz.prog w = .ok (.value (.tuple #[])) w := run_call_mark0 Tryz.func160 (by kernel_rfl) (by kernel_rfl) (by kernel_rfl) .disable (by kernel_rfl) w
theorem mk_ena (w : World) : (callFunc 162 #[]).run Tryz.prog w = .ok (.value (.tuple #[])) w := run_call_mark0 Tryz.func162 (by kernel_rfl) (by kernel_rfl) (by kernel_rfl) .enable (by kernel_rfl) w
theorem mk_acq (a : Addr) (w : World) : (callFunc 163 #[.pointer (some a)]).run Tryz.prog w = .ok (.value (.tuple #[])) w := run_call_marked Tryz.func163 (by kernel_rfl) (by kernel_rfl) (by kernel_rfl) .acquire (by kernel_rfl) a w
theorem mk_rel (a : Addr) (w : World) : (callFunc 165 #[.pointer (some a)]).run Tryz.prog w = .ok (.value (.tuple #[])) w := run_call_marked Tryz.func165 (by kernel_rfl) (by kernel_rfl) (by kernel_rfl) .releaseMerge (by kernel_rfl) a w

/-- 'done' is stored (a deferred call). -/
theorem on_store (a : Addr) (x : Value) (u : FrameMode) (w : World) (hc : w.cell? a = some x) (hz : w.frozen? a = false) :
    CallsD Tryz.prog 148 #[.pointer (some a), .bool true] u w fun e u' w' => u' = u ∧ (e = .returned (.tuple #[]) ∧ w' = w.drew.setCell a (.int .u32 1)) := by
  have hc' : w.drew.cell? a = some x := by go_simp
  have hz' : w.drew.frozen? a = false := by go_simp
  have hst := run_call_store (P := Tryz.prog) Tryz.func156 (by kernel_rfl) (by kernel_rfl) (by kernel_rfl) (by kernel_rfl) (k := .u32) (y := 1) hc' hz'
  go_enter_d Tryz.func148, Tryz.ntmps148
  go_wp2
  go_region_calls
  all_goals (go_end0; exact ⟨rfl, rfl⟩)

set_option maxRecDepth 100000 in
/-- The lock is let go (a deferred call). -/
theorem on_unlock (a : Addr) (u : FrameMode) (w : World) (hc : w.cell? a = some (.int .i32 1)) (hz : w.frozen? a = false) :
    CallsD Tryz.prog 147 #[.pointer (some a)] u w fun e u' w' => u' = u ∧ (e = .returned (.tuple #[]) ∧ w' = w.setCell a (.int .i32 0)) := by
  have hd := mk_dis
  have he := mk_ena
  have hr := mk_rel
  have hadd := run_call_add (P := Tryz.prog) Tryz.func166 (by kernel_rfl) (by kernel_rfl) (by kernel_rfl) .i32 (by kernel_rfl) (y := -1) (s := 0) hc hz (by simp [go_sem]; rfl)
  have hcv := run_convert_to_unsafe (P := Tryz.prog) (src := 174) (dst := 159) Tryz.underlying174 Tryz.underlying159 (by kernel_rfl) hc
  go_enter_d Tryz.func147, Tryz.ntmps147
  go_wp2
  go_end0
  go_wp2
  go_end0
  exact ⟨rfl, rfl⟩

set_option maxRecDepth 100000 in
/-- The lock is taken. -/
theorem on_lock (a : Addr) (w : World) (hc : w.cell? a = some (.int .i32 0)) (hz : w.frozen? a = false) :
    Calls Tryz.prog 146 #[.pointer (some a)] w fun e w' => e = .returned (.tuple #[]) ∧ w' = w.setCell a (.int .i32 1) := by
  have hd := mk_dis
  have he := mk_ena
  have ha := mk_acq
  have hcas := run_call_cas_hit (P := Tryz.prog) Tryz.func161 (by kernel_rfl) (by kernel_rfl) (by kernel_rfl) .i32 (by kernel_rfl) (y := 1) hc hz
  have hc' : (w.setCell a (.int .i32 1)).cell? a = some (.int .i32 1) := World.cell?_setCell_same w a _ hc
  have hcv := run_convert_to_unsafe (P := Tryz.prog) (src := 174) (dst := 159) Tryz.underlying174 Tryz.underlying159 (by kernel_rfl) hc'
  go_enter Tryz.func146, Tryz.ntmps146
  go_wp2
  first | go_end0 | (simp only [Exit.inBlock, Exit.then]; refine bodyPost_ret (results_none rfl _ _ _) rfl ?_) | refine bodyPost_ret (results_none rfl _ _ _) rfl ?_
  go_wp2
  go_end0
  exact ⟨rfl, rfl⟩
/-- 'done' is looked at. -/
theorem on_load0 (a : Addr) (w : World) (hc : w.cell? a = some (.int .u32 0)) :
    Calls Tryz.prog 135 #[.pointer (some a)] w fun e w' => e = .returned (.bool false) ∧ w = w' := by
  have hl := run_call_load (P := Tryz.prog) Tryz.func145 (by kernel_rfl) (by kernel_rfl) (by kernel_rfl) .u32 (by kernel_rfl) hc
  go_enter Tryz.func135, Tryz.ntmps135
  go_wp2
  go_ret
  exact ⟨rfl, rfl⟩
theorem on_load1 (a : Addr) (w : World) (hc : w.cell? a = some (.int .u32 1)) :
    Calls Tryz.prog 135 #[.pointer (some a)] w fun e w' => e = .returned (.bool true) ∧ w = w' := by
  have hl := run_call_load (P := Tryz.prog) Tryz.func145 (by kernel_rfl) (by kernel_rfl) (by kernel_rfl) .u32 (by kernel_rfl) hc
  go_enter Tryz.func135, Tryz.ntmps135
  go_wp2
  go_ret
  exact ⟨rfl, rfl⟩
end Wrd
end Go.Proofs.YthefgagmjamdkaaGreatDoor
/-
  Package words: each kind's row, the function that sync.Once calls to lay it, and a lexicon's list (fresh, and laid).
-/
namespace Go.Proofs.YthefgagmjamdkaaGreatDoor
open Go.RowKit
namespace Wrd
def wds1 : List (List UInt8) := [[82, 117, 108, 101], [90, 111, 110, 101], [76, 105, 110, 107]]
def wds2 : List (List UInt8) := [[74, 97, 110, 117, 97, 114, 121], [70, 101, 98, 114, 117, 97, 114, 121], [77, 97, 114, 99, 104], [65, 112, 114, 105, 108], [77, 97, 121], [74, 117, 110, 101], [74, 117, 108, 121], [65, 117, 103, 117, 115, 116], [83, 101, 112, 116, 101, 109, 98, 101, 114], [79, 99, 116, 111, 98, 101, 114], [78, 111, 118, 101, 109, 98, 101, 114], [68, 101, 99, 101, 109, 98, 101, 114]]
def wds3 : List (List UInt8) := [[83, 117, 110, 100, 97, 121], [77, 111, 110, 100, 97, 121], [84, 117, 101, 115, 100, 97, 121], [87, 101, 100, 110, 101, 115, 100, 97, 121], [84, 104, 117, 114, 115, 100, 97, 121], [70, 114, 105, 100, 97, 121], [83, 97, 116, 117, 114, 100, 97, 121]]
def wds4 : List (List UInt8) := [[109, 105, 110, 105, 109, 117, 109], [109, 97, 120, 105, 109, 117, 109], [111, 110, 108, 121]]
def wds (k : Int) : List (List UInt8) := if k = 1 then wds1 else if k = 2 then wds2 else if k = 3 then wds3 else if k = 4 then wds4 else []
/-- A kind, how many words it has, and its words. -/
def WK (k : Int) (n : Nat) (L : List (List UInt8)) : Prop := (k = 1 ∧ n = 3 ∧ L = wds1) ∨ (k = 2 ∧ n = 12 ∧ L = wds2) ∨ (k = 3 ∧ n = 7 ∧ L = wds3) ∨ (k = 4 ∧ n = 3 ∧ L = wds4) ∨ ((k == 1) = false ∧ (k == 2) = false ∧ (k == 3) = false ∧ (k == 4) = false ∧ n = 0 ∧ L = [])
theorem WK.len {k : Int} {n : Nat} {L : List (List UInt8)} (h : WK k n L) : L.length = n := by
  rcases h with ⟨_, rfl, rfl⟩ | ⟨_, rfl, rfl⟩ | ⟨_, rfl, rfl⟩ | ⟨_, rfl, rfl⟩ | ⟨_, _, _, _, rfl, rfl⟩ <;> rfl
def rowV (L : List (List UInt8)) : Array Value := (L.map fun x => Value.string ⟨x.toArray⟩).toArray
/-- The row at A, of B and behind it: its texts. -/
def RowA (B : Nat) (A : Option Addr) (L : List (List UInt8)) (w : World) : Prop :=
  ∀ j (h : j < L.length), ∃ g, A = some ⟨g, 0, none⟩ ∧ B ≤ g ∧ g < w.heap.size ∧ w.cell? ⟨g, j, none⟩ = some (.string ⟨L[j].toArray⟩)
theorem rowA_new (L : List (List UInt8)) (t : TypeId) (w : World) : RowA w.heap.size (some ⟨w.heap.size, 0, none⟩) L (w.alloc (Obj.cells (rowV L) t)) := by
  intro j hj
  refine ⟨_, rfl, Nat.le_refl _, by simp, ?_⟩
  rw [World.cell?_alloc_new]
  simp [rowV, hj]
theorem RowA.keep {B : Nat} {A : Option Addr} {L : List (List UInt8)} {w w' : World} (h : RowA B A L w) (hs : w.heap.size ≤ w'.heap.size) (hc : ∀ g j, B ≤ g → g < w.heap.size → w'.cell? ⟨g, j, none⟩ = w.cell? ⟨g, j, none⟩) : RowA B A L w' := by
  intro j hj
  obtain ⟨g, h1, h2, h3, h4⟩ := h j hj
  exact ⟨g, h1, h2, by omega, (hc g j h2 h3).trans h4⟩
theorem RowA.below {B : Nat} {A : Option Addr} {L : List (List UInt8)} {w w' : World} (h : RowA B A L w) (hb : Below w.heap.size w w') : RowA B A L w' :=
  h.keep hb.size (fun _ _ _ h3 => hb.cell (p := ⟨_, _, none⟩) h3)
theorem RowA.set_ {B : Nat} {A : Option Addr} {L : List (List UInt8)} {w : World} (h : RowA B A L w) {b i : Nat} (hb : b < B) (v : Value) : RowA B A L (w.setCell ⟨b, i, none⟩ v) :=
  h.keep (by simp) (fun g j h2 _ => World.cell?_setCell_other _ ⟨b, i, none⟩ ⟨g, j, none⟩ _ (fun e => by injection e; omega))
theorem RowA.drew {B : Nat} {A : Option Addr} {L : List (List UInt8)} {w : World} (h : RowA B A L w) : RowA B A L w.drew := h
theorem RowA.less {B B' : Nat} {A : Option Addr} {L : List (List UInt8)} {w : World} (h : RowA B A L w) (hb : B' ≤ B) : RowA B' A L w := by
  intro j hj
  obtain ⟨g, h1, h2, h3, h4⟩ := h j hj
  exact ⟨g, h1, by omega, h3, h4⟩
def WofQ (n : Nat) (L : List (List UInt8)) (w : World) (e : Ending) (w' : World) : Prop := ∃ A, e = .returned (.slice A n n) ∧ Below w.heap.size w w' ∧ Hid (RowA w.heap.size A L w')
set_option maxHeartbeats 800000 in
theorem wof_to (k : Int) (n : Nat) (L : List (List UInt8)) (w : World) (h : Hid (WK k n L)) :
    Calls Tryz.prog 115 #[.int .i64 k] w (WofQ n L w) := by
  rcases h.out with ⟨rfl, rfl, rfl⟩ | ⟨rfl, rfl, rfl⟩ | ⟨rfl, rfl, rfl⟩ | ⟨rfl, rfl, rfl⟩ | ⟨k1, k2, k3, k4, rfl, rfl⟩
  · have H : Hid (RowA w.heap.size (some ⟨w.heap.size, 0, none⟩) wds1 (w.alloc (Obj.cells (rowV wds1) 9))) := Lib.hid (rowA_new _ _ _)
    clear h
    go_enter Tryz.func115, Tryz.ntmps115
    go_wp2
    go_ret
    exact ⟨_, rfl, (Below.refl _ _).alloc (Nat.le_refl _) _, H⟩
  · have H : Hid (RowA w.heap.size (some ⟨w.heap.size, 0, none⟩) wds2 (w.alloc (Obj.cells (rowV wds2) 9))) := Lib.hid (rowA_new _ _ _)
    clear h
    go_enter Tryz.func115, Tryz.ntmps115
    go_wp2
    go_ret
    exact ⟨_, rfl, (Below.refl _ _).alloc (Nat.le_refl _) _, H⟩
  · have H : Hid (RowA w.heap.size (some ⟨w.heap.size, 0, none⟩) wds3 (w.alloc (Obj.cells (rowV wds3) 9))) := Lib.hid (rowA_new _ _ _)
    clear h
    go_enter Tryz.func115, Tryz.ntmps115
    go_wp2
    go_ret
    exact ⟨_, rfl, (Below.refl _ _).alloc (Nat.le_refl _) _, H⟩
  · have H : Hid (RowA w.heap.size (some ⟨w.heap.size, 0, none⟩) wds4 (w.alloc (Obj.cells (rowV wds4) 9))) := Lib.hid (rowA_new _ _ _)
    clear h
    go_enter Tryz.func115, Tryz.ntmps115
    go_wp2
    go_ret
    exact ⟨_, rfl, (Below.refl _ _).alloc (Nat.le_refl _) _, H⟩
  · clear h
    go_enter Tryz.func115, Tryz.ntmps115
    go_wp2
    go_ret
    exact ⟨none, rfl, Below.refl _ _, Lib.hid (fun j hj => by simp at hj)⟩
def LstQ (b n : Nat) (L : List (List UInt8)) (w w' : World) : Prop := ∃ A w2, w' = w2.setCell ⟨b, 4, none⟩ (.slice A n n) ∧ Below w.heap.size w w2 ∧ Hid (RowA w.heap.size A L w2)
set_option maxRecDepth 100000 in
theorem lst1 (b n : Nat) (k : Int) (L : List (List UInt8)) (pl : Addr) (x : Value) (w : World) (h : Hid (WK k n L)) (hb : b < w.heap.size) (hpl : pl.block < w.heap.size) (hp : w.cell? pl = some (.pointer (some ⟨b, 0, none⟩))) (hk : w.cell? ⟨b, 0, none⟩ = some (.int .i64 k)) (hx : w.cell? ⟨b, 4, none⟩ = some x) (fx : w.frozen? ⟨b, 4, none⟩ = false) :
    Calls Tryz.prog 114 #[.pointer (some pl)] w fun e w' => e = .returned (.tuple #[]) ∧ LstQ b n L w w' := by
  go_enter Tryz.func114, Tryz.ntmps114
  go_region_with (go_at_call 115; (with_reducible refine (wof_to _ _ _ _ h).mono ?_); rintro e w2 ⟨A, rfl, hq, hr⟩; have hq2 : Below w.heap.size w w2 := ((Below.refl w.heap.size w).drew).trans hq; have hr2 : Hid (RowA w.heap.size A L w2) := hr; have c4 : w2.cell? ⟨b, 4, none⟩ = some x := (hq2.cell (p := ⟨b, 4, none⟩) hb).trans hx; have f4 : w2.frozen? ⟨b, 4, none⟩ = false := (hq2.frozen (p := ⟨b, 4, none⟩) hb).trans fx; have cp : w2.cell? pl = some (.pointer (some ⟨b, 0, none⟩)) := (hq2.cell (p := pl) hpl).trans hp; clear hq hr)
  all_goals (go_end0; exact ⟨rfl, _, _, rfl, hq2, hr2⟩)

/-- What the slow road leaves: the row, the lexicon's words, 'done', the lock free. -/
def SlowQ (b n : Nat) (L : List (List UInt8)) (w w' : World) : Prop := ∃ A w2, w' = ((w2.setCell ⟨b, 4, none⟩ (.slice A n n)).drew.setCell ⟨b, 1, none⟩ (.int .u32 1)).setCell ⟨b, 2, none⟩ (.int .i32 0) ∧ Below w.heap.size (w.setCell ⟨b, 2, none⟩ (.int .i32 1)) w2 ∧ Hid (RowA w.heap.size A L w2)
set_option maxRecDepth 100000 in
set_option maxHeartbeats 1600000 in
/-- The slow road of Once: the lock taken, the row laid, 'done' stored, the lock let go. -/
theorem slow_to (b n : Nat) (k : Int) (L : List (List UInt8)) (pl : Addr) (x : Value) (w : World) (h : Hid (WK k n L)) (hb : b < w.heap.size) (hpl : pl.block < w.heap.size) (hne : pl.block ≠ b) (hp : w.cell? pl = some (.pointer (some ⟨b, 0, none⟩))) (hk : w.cell? ⟨b, 0, none⟩ = some (.int .i64 k))
    (h1 : w.cell? ⟨b, 1, none⟩ = some (.int .u32 0)) (h2 : w.cell? ⟨b, 2, none⟩ = some (.int .i32 0)) (hx : w.cell? ⟨b, 4, none⟩ = some x) (f1 : w.frozen? ⟨b, 1, none⟩ = false) (f2 : w.frozen? ⟨b, 2, none⟩ = false) (fx : w.frozen? ⟨b, 4, none⟩ = false) :
    Calls Tryz.prog 136 #[.pointer (some ⟨b, 1, none⟩), .func (.func 114) #[] #[.pointer (some pl)]] w fun e w' => e = .returned (.tuple #[]) ∧ SlowQ b n L w w' := by
  have a1 : (w.setCell ⟨b, 2, none⟩ (.int .i32 1)).cell? ⟨b, 1, none⟩ = some (.int .u32 0) := (World.cell?_setCell_other _ ⟨b, 2, none⟩ ⟨b, 1, none⟩ _ (by simp)).trans h1
  have hnot : ∀ (x : Bool) (w : World), (Op.unary .not (.bool x)).run Tryz.prog w = .ok (.bool (!x)) w := fun _ _ => rfl
  have ap : (w.setCell ⟨b, 2, none⟩ (.int .i32 1)).cell? pl = some (.pointer (some ⟨b, 0, none⟩)) := (World.cell?_setCell_other _ ⟨b, 2, none⟩ pl _ (fun h => hne (by rw [← h]))).trans hp
  have ak : (w.setCell ⟨b, 2, none⟩ (.int .i32 1)).cell? ⟨b, 0, none⟩ = some (.int .i64 k) := (World.cell?_setCell_other _ ⟨b, 2, none⟩ ⟨b, 0, none⟩ _ (by simp)).trans hk
  have ax : (w.setCell ⟨b, 2, none⟩ (.int .i32 1)).cell? ⟨b, 4, none⟩ = some x := (World.cell?_setCell_other _ ⟨b, 2, none⟩ ⟨b, 4, none⟩ _ (by simp)).trans hx
  have fx1 : (w.setCell ⟨b, 2, none⟩ (.int .i32 1)).frozen? ⟨b, 4, none⟩ = false := by rw [World.frozen?_setCell]; exact fx
  go_enter_defers Tryz.func136, Tryz.ntmps136
  go_wp2_with (go_at_call 146; refine (on_lock ⟨b, 2, none⟩ _ (by go_simp) (by go_simp)).mono ?_; rintro e w' ⟨rfl, rfl⟩)
  go_wp2_with (go_at_call 135; refine (on_load0 _ _ a1).mono ?_; rintro e w' ⟨rfl, rfl⟩)
  go_wp2_with (go_at_call 114; refine (lst1 b n k L pl x _ h (by simp; exact hb) (by simp; exact hpl) ap ak ax fx1).mono ?_; rintro e w' ⟨rfl, hq⟩)
  obtain ⟨A, w2, rfl, hq2, hr2⟩ := hq
  have hb2 : b < (w.setCell ⟨b, 2, none⟩ (.int .i32 1)).heap.size := by simp; exact hb
  have c1 : (w2.setCell ⟨b, 4, none⟩ (.slice A n n)).cell? ⟨b, 1, none⟩ = some (.int .u32 0) := (World.cell?_setCell_other _ ⟨b, 4, none⟩ ⟨b, 1, none⟩ _ (by simp)).trans ((hq2.cell (p := ⟨b, 1, none⟩) hb2).trans a1)
  have c2 : (w2.setCell ⟨b, 4, none⟩ (.slice A n n)).cell? ⟨b, 2, none⟩ = some (.int .i32 1) := (World.cell?_setCell_other _ ⟨b, 4, none⟩ ⟨b, 2, none⟩ _ (by simp)).trans ((hq2.cell (p := ⟨b, 2, none⟩) hb2).trans (World.cell?_setCell_same w _ _ h2))
  have z1 : (w2.setCell ⟨b, 4, none⟩ (.slice A n n)).frozen? ⟨b, 1, none⟩ = false := by rw [World.frozen?_setCell, hq2.frozen (p := ⟨b, 1, none⟩) hb2, World.frozen?_setCell]; exact f1
  have z2 : w2.frozen? ⟨b, 2, none⟩ = false := by rw [hq2.frozen (p := ⟨b, 2, none⟩) hb2, World.frozen?_setCell]; exact f2
  refine leaves_cons (f := 148) (args := #[.pointer (some ⟨b, 1, none⟩), .bool true]) (by simp) (by simp [go_sem]) ?_
  refine (on_store ⟨b, 1, none⟩ (.int .u32 0) .returning _ c1 z1).mono ?_
  rintro e u' w'' ⟨rfl, rfl, rfl⟩
  refine leaves_cons (f := 147) (args := #[.pointer (some ⟨b, 2, none⟩)]) (by simp [settle]) (by simp [go_sem]) ?_
  refine (on_unlock ⟨b, 2, none⟩ _ _ ?_ (by simp [z2])).mono ?_
  · exact (World.cell?_setCell_other _ ⟨b, 1, none⟩ ⟨b, 2, none⟩ _ (by simp)).trans c2
  rintro e u' w'' ⟨rfl, rfl, rfl⟩
  simp [Leaves, settle, results, Tryz.results136]
  rw [World.size_setCell] at hq2 hr2
  exact ⟨A, w2, rfl, hq2, hr2⟩

/-- A lexicon that nobody has asked yet. -/
def Fresh (b : Nat) (k : Int) (w : World) : Prop := b < w.heap.size ∧ w.cell? ⟨b, 0, none⟩ = some (.int .i64 k) ∧ w.cell? ⟨b, 1, none⟩ = some (.int .u32 0) ∧ w.cell? ⟨b, 2, none⟩ = some (.int .i32 0) ∧ w.cell? ⟨b, 4, none⟩ = some (.slice none 0 0) ∧
  w.frozen? ⟨b, 1, none⟩ = false ∧ w.frozen? ⟨b, 2, none⟩ = false ∧ w.frozen? ⟨b, 4, none⟩ = false
/-- A lexicon that is laid. -/
def Laid (b : Nat) (k : Int) (A : Option Addr) (n : Nat) (L : List (List UInt8)) (w : World) : Prop := b < w.heap.size ∧ w.cell? ⟨b, 0, none⟩ = some (.int .i64 k) ∧ w.cell? ⟨b, 1, none⟩ = some (.int .u32 1) ∧ w.cell? ⟨b, 4, none⟩ = some (.slice A n n) ∧ RowA (b + 1) A L w
theorem Fresh.below {b : Nat} {k : Int} {w w' : World} (h : Fresh b k w) (hb : Below w.heap.size w w') : Fresh b k w' := by
  obtain ⟨a0, a1, a2, a3, a4, a5, a6, a7⟩ := h
  have c := fun i => hb.cell (p := ⟨b, i, none⟩) a0
  have f := fun i => hb.frozen (p := ⟨b, i, none⟩) a0
  exact ⟨Nat.lt_of_lt_of_le a0 hb.size, (c 0).trans a1, (c 1).trans a2, (c 2).trans a3, (c 4).trans a4, (f 1).trans a5, (f 2).trans a6, (f 4).trans a7⟩
theorem Laid.below {b n : Nat} {k : Int} {A : Option Addr} {L : List (List UInt8)} {w w' : World} (h : Laid b k A n L w) (hb : Below w.heap.size w w') : Laid b k A n L w' := by
  obtain ⟨a0, a1, a2, a3, a4⟩ := h
  have c := fun i => hb.cell (p := ⟨b, i, none⟩) a0
  exact ⟨Nat.lt_of_lt_of_le a0 hb.size, (c 0).trans a1, (c 1).trans a2, (c 4).trans a3, a4.below hb⟩
end Wrd
end Go.Proofs.YthefgagmjamdkaaGreatDoor
/-
  Package words: Once.Do and a lexicon's list (fresh, and laid); first, least; strings.HasPrefix; ascii.Same.
-/
namespace Go.Proofs.YthefgagmjamdkaaGreatDoor
open Go.RowKit
namespace Wrd
theorem Fresh.slow {b n : Nat} {k : Int} {L : List (List UInt8)} {o : Obj} {w w' : World} (h : Fresh b k w) (hq : SlowQ b n L (w.alloc o) w') : ∃ A, Laid b k A n L w' ∧ Below b w w' ∧ w.heap.size < w'.heap.size ∧ w'.cell? ⟨w.heap.size, 0, none⟩ = (w.alloc o).cell? ⟨w.heap.size, 0, none⟩ := by
  obtain ⟨a0, a1, a2, a3, a4, a5, a6, a7⟩ := h
  obtain ⟨A, w2, rfl, hb, hr⟩ := hq
  have hz : w.heap.size + 1 ≤ w2.heap.size := by have := hb.size; simpa using this
  have hb2 : Below b w w2 := (((Below.refl b w).alloc (by omega) o).setCell (p := ⟨b, 2, none⟩) (Nat.le_refl _) _).trans (hb.mono (by simp; omega))
  have hr2 : RowA (b + 1) A L w2 := hr.out.less (by simp; omega)
  have c0 : w2.cell? ⟨b, 0, none⟩ = some (.int .i64 k) := (hb.cell (p := ⟨b, 0, none⟩) (by simp; omega)).trans ((World.cell?_setCell_other _ ⟨b, 2, none⟩ ⟨b, 0, none⟩ _ (by simp)).trans ((World.cell?_alloc_lt w o ⟨b, 0, none⟩ a0).trans a1))
  have c1 : w2.cell? ⟨b, 1, none⟩ = some (.int .u32 0) := (hb.cell (p := ⟨b, 1, none⟩) (by simp; omega)).trans ((World.cell?_setCell_other _ ⟨b, 2, none⟩ ⟨b, 1, none⟩ _ (by simp)).trans ((World.cell?_alloc_lt w o ⟨b, 1, none⟩ a0).trans a2))
  have c4 : w2.cell? ⟨b, 4, none⟩ = some (.slice none 0 0) := (hb.cell (p := ⟨b, 4, none⟩) (by simp; omega)).trans ((World.cell?_setCell_other _ ⟨b, 2, none⟩ ⟨b, 4, none⟩ _ (by simp)).trans ((World.cell?_alloc_lt w o ⟨b, 4, none⟩ a0).trans a4))
  refine ⟨A, ⟨by simp; omega, ?_, ?_, ?_, ?_⟩, ?_, by simp; omega, ?_⟩
  · rw [World.cell?_setCell_other _ _ _ _ (by simp), World.cell?_setCell_other _ _ _ _ (by simp)]
    exact (World.cell?_setCell_other _ ⟨b, 4, none⟩ ⟨b, 0, none⟩ _ (by simp)).trans c0
  · rw [World.cell?_setCell_other _ _ _ _ (by simp)]
    exact World.cell?_setCell_same _ _ _ ((World.cell?_setCell_other _ ⟨b, 4, none⟩ ⟨b, 1, none⟩ _ (by simp)).trans c1)
  · rw [World.cell?_setCell_other _ _ _ _ (by simp), World.cell?_setCell_other _ _ _ _ (by simp)]
    exact World.cell?_setCell_same _ _ _ c4
  · exact ((hr2.set_ (by omega) _).drew.set_ (by omega) _).set_ (by omega) _
  · exact ((hb2.setCell (Nat.le_refl _) _).drew.setCell (Nat.le_refl _) _).setCell (Nat.le_refl _) _
  · have hne : ∀ i, (⟨b, i, none⟩ : Addr) ≠ ⟨w.heap.size, 0, none⟩ := fun i e => by injection e; omega
    rw [World.cell?_setCell_other _ _ _ _ (hne _), World.cell?_setCell_other _ _ _ _ (hne _)]
    refine (World.cell?_setCell_other _ ⟨b, 4, none⟩ ⟨w.heap.size, 0, none⟩ _ (hne _)).trans ?_
    refine (hb.cell (p := ⟨w.heap.size, 0, none⟩) (by simp)).trans ?_
    exact World.cell?_setCell_other _ ⟨b, 2, none⟩ ⟨w.heap.size, 0, none⟩ _ (hne _)
set_option maxRecDepth 100000 in
/-- Once.Do, not yet done. -/
theorem do0 (b n : Nat) (k : Int) (L : List (List UInt8)) (pl : Addr) (x : Value) (w : World) (h : Hid (WK k n L)) (hb : b < w.heap.size) (hpl : pl.block < w.heap.size) (hne : pl.block ≠ b) (hp : w.cell? pl = some (.pointer (some ⟨b, 0, none⟩))) (hk : w.cell? ⟨b, 0, none⟩ = some (.int .i64 k))
    (h1 : w.cell? ⟨b, 1, none⟩ = some (.int .u32 0)) (h2 : w.cell? ⟨b, 2, none⟩ = some (.int .i32 0)) (hx : w.cell? ⟨b, 4, none⟩ = some x) (f1 : w.frozen? ⟨b, 1, none⟩ = false) (f2 : w.frozen? ⟨b, 2, none⟩ = false) (fx : w.frozen? ⟨b, 4, none⟩ = false) :
    Calls Tryz.prog 113 #[.pointer (some ⟨b, 1, none⟩), .func (.func 114) #[] #[.pointer (some pl)]] w fun e w' => e = .returned (.tuple #[]) ∧ SlowQ b n L w w' := by
  have hnot : ∀ (x : Bool) (w : World), (Op.unary .not (.bool x)).run Tryz.prog w = .ok (.bool (!x)) w := fun _ _ => rfl
  go_enter Tryz.func113, Tryz.ntmps113
  go_wp2_with (go_at_call 135; refine (on_load0 _ _ h1).mono ?_; rintro e w' ⟨rfl, rfl⟩)
  go_wp2_with (go_at_call 136; refine (slow_to b n k L pl x _ h hb hpl hne hp hk h1 h2 hx f1 f2 fx).mono ?_; rintro e w2 ⟨rfl, hq⟩)
  go_end0
  exact ⟨rfl, hq⟩
set_option maxRecDepth 100000 in
/-- Once.Do, done. -/
theorem do1 (b : Nat) (f : Value) (w : World) (h1 : w.cell? ⟨b, 1, none⟩ = some (.int .u32 1)) :
    Calls Tryz.prog 113 #[.pointer (some ⟨b, 1, none⟩), f] w fun e w' => e = .returned (.tuple #[]) ∧ w = w' := by
  have hnot : ∀ (x : Bool) (w : World), (Op.unary .not (.bool x)).run Tryz.prog w = .ok (.bool (!x)) w := fun _ _ => rfl
  go_enter Tryz.func113, Tryz.ntmps113
  go_wp2_with (go_at_call 135; refine (on_load1 _ _ h1).mono ?_; rintro e w' ⟨rfl, rfl⟩)
  go_end0
  exact ⟨rfl, rfl⟩
/-- list of a fresh lexicon. -/
def LisQ (b n : Nat) (k : Int) (L : List (List UInt8)) (w : World) (e : Ending) (w' : World) : Prop := ∃ A, e = .returned (.slice A n n) ∧ Laid b k A n L w' ∧ Below b w w' ∧ w.heap.size < w'.heap.size
set_option maxRecDepth 100000 in
theorem list0 (b n : Nat) (k : Int) (L : List (List UInt8)) (w : World) (h : Hid (WK k n L)) (hf : Fresh b k w) :
    Calls Tryz.prog 86 #[.pointer (some ⟨b, 0, none⟩)] w (LisQ b n k L w) := by
  have HF := Lib.hid hf
  obtain ⟨a0, a1, a2, a3, a4, a5, a6, a7⟩ := hf
  have hne : w.heap.size ≠ b := by omega
  have hnot : ∀ (x : Bool) (w : World), (Op.unary .not (.bool x)).run Tryz.prog w = .ok (.bool (!x)) w := fun _ _ => rfl
  have g : ∀ i x, w.cell? ⟨b, i, none⟩ = some x → ∀ o : Obj, (w.alloc o).cell? ⟨b, i, none⟩ = some x := fun i x hx o => (World.cell?_alloc_lt w o ⟨b, i, none⟩ a0).trans hx
  have gf : ∀ i, w.frozen? ⟨b, i, none⟩ = false → ∀ o : Obj, (w.alloc o).frozen? ⟨b, i, none⟩ = false := fun i hx o => (((Below.refl w.heap.size w).alloc (Nat.le_refl _) o).frozen (p := ⟨b, i, none⟩) a0).trans hx
  have G := Lib.hid g
  have GF := Lib.hid gf
  clear g gf
  have b1 := G.out _ _ a2 (Obj.cells #[.pointer (some ⟨b, 0, none⟩)] 141)
  go_enter Tryz.func86, Tryz.ntmps86
  go_wp2_with fail
  refine (do0 b n k L ⟨w.heap.size, 0, none⟩ (.slice none 0 0) _ h (by simp; omega) (by simp) hne (by go_simp) (G.out _ _ a1 _) b1 (G.out _ _ a3 _) (G.out _ _ a4 _) (GF.out _ a5 _) (GF.out _ a6 _) (GF.out _ a7 _)).mono ?_
  rintro e w2 ⟨rfl, hq⟩
  obtain ⟨A, hl, hb, hz, hp⟩ := HF.out.slow hq
  have HL := Lib.hid hl
  have c4 := hl.2.2.2.1
  have cp : w2.cell? ⟨w.heap.size, 0, none⟩ = some (.pointer (some ⟨b, 0, none⟩)) := hp.trans (by go_simp)
  clear hq hl hp
  go_wp2
  go_ret
  exact ⟨A, rfl, HL.out, hb, hz⟩
set_option maxRecDepth 100000 in
/-- list of a lexicon that is laid. -/
theorem list1 (b n : Nat) (k : Int) (A : Option Addr) (L : List (List UInt8)) (w : World) (hf : Laid b k A n L w) :
    Calls Tryz.prog 86 #[.pointer (some ⟨b, 0, none⟩)] w fun e w' => e = .returned (.slice A n n) ∧ w.alloc (Obj.cells #[.pointer (some ⟨b, 0, none⟩)] 141) = w' := by
  obtain ⟨a0, a1, a2, a3, a4⟩ := hf
  have hnot : ∀ (x : Bool) (w : World), (Op.unary .not (.bool x)).run Tryz.prog w = .ok (.bool (!x)) w := fun _ _ => rfl
  have b1 := (World.cell?_alloc_lt w (Obj.cells #[.pointer (some ⟨b, 0, none⟩)] 141) ⟨b, 1, none⟩ a0).trans a2
  have b4 := (World.cell?_alloc_lt w (Obj.cells #[.pointer (some ⟨b, 0, none⟩)] 141) ⟨b, 4, none⟩ a0).trans a3
  clear a4
  go_enter Tryz.func86, Tryz.ntmps86
  go_wp2_with (go_at_call 113; refine (do1 b _ _ b1).mono ?_; rintro e w' ⟨rfl, rfl⟩)
  go_ret
  exact ⟨rfl, rfl⟩
def fstV (k : Int) : Int := if k = 3 then 0 else 1
def lstV (k : Int) : Int := if k = 2 ∨ k = 3 then 3 else 1
theorem first_to (b : Nat) (k f : Int) (w : World) (hk : w.cell? ⟨b, 0, none⟩ = some (.int .i64 k)) (h : Hid (fstV k = f)) :
    Calls Tryz.prog 85 #[.pointer (some ⟨b, 0, none⟩)] w fun e w' => e = .returned (.int .i64 f) ∧ w = w' := by
  have H : Hid (k = 3 ∧ f = 0 ∨ (k == 3) = false ∧ f = 1) := Lib.hid (by
    rw [← h.out, fstV]
    by_cases hk : k = 3
    · exact Or.inl ⟨hk, if_pos hk⟩
    · exact Or.inr ⟨beq_eq_false_iff_ne.2 hk, if_neg hk⟩)
  clear h
  rcases H.out with ⟨rfl, rfl⟩ | ⟨h3, rfl⟩
  all_goals
    clear H
    go_enter Tryz.func85, Tryz.ntmps85
    go_wp2
    go_ret
    exact ⟨rfl, rfl⟩
theorem least_to (b : Nat) (k f : Int) (w : World) (hk : w.cell? ⟨b, 0, none⟩ = some (.int .i64 k)) (h : Hid (lstV k = f)) :
    Calls Tryz.prog 138 #[.pointer (some ⟨b, 0, none⟩)] w fun e w' => e = .returned (.int .i64 f) ∧ w = w' := by
  have H : Hid (k = 2 ∧ f = 3 ∨ k = 3 ∧ f = 3 ∨ (k == 2) = false ∧ (k == 3) = false ∧ f = 1) := Lib.hid (by
    rw [← h.out, lstV]
    by_cases h2 : k = 2
    · exact Or.inl ⟨h2, if_pos (Or.inl h2)⟩
    · by_cases h3 : k = 3
      · exact Or.inr (Or.inl ⟨h3, if_pos (Or.inr h3)⟩)
      · exact Or.inr (Or.inr ⟨beq_eq_false_iff_ne.2 h2, beq_eq_false_iff_ne.2 h3, if_neg (by omega)⟩))
  clear h
  rcases H.out with ⟨rfl, rfl⟩ | ⟨rfl, rfl⟩ | ⟨h2, h3, rfl⟩
  all_goals
    clear H
    go_enter Tryz.func138, Tryz.ntmps138
    go_wp2
    go_ret
    exact ⟨rfl, rfl⟩
end Wrd
end Go.Proofs.YthefgagmjamdkaaGreatDoor
