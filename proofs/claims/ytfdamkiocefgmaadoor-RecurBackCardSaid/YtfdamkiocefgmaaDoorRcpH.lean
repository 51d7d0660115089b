/-
  Rows of texts that a call owns; slices.Contains over such a row.
-/
import Derived.Test.YtfdamkiocefgmaaDoorRcpG
namespace Go.Proofs.YtfdamkiocefgmaaDoor
open Go.RowKit
namespace Rcp
open Cel
open Ap (Grew)
theorem infoT : (Tryd.prog.info? 9).map (fun i => (i.zero, i.size, i.bytes)) = some (some (.string ⟨#[]⟩), 1, 16) := by kernel_rfl
def tv (t : List UInt8) : Value := .string ⟨t.toArray⟩
/-- A row of texts that the call owns. -/
def RowT (B : Nat) (w : World) (v : Value) (L : List (List UInt8)) : Prop := w.ownsRow B 9 1 v L.length (L.map tv)
theorem RowT.nil (B : Nat) (w : World) : RowT B w (.slice none 0 0) [] := World.ownsRow_nil _ _ _ _
theorem RowT.below {B : Nat} {w w' : World} {v : Value} {L : List (List UInt8)} (h : RowT B w v L) (hb : Below w.heap.size w w') : RowT B w' v L := Ap.own_below h hb
theorem RowT.form {B : Nat} {w : World} {v : Value} {L : List (List UInt8)} (h : RowT B w v L) (h0 : 0 < L.length) : ∃ g c, v = .slice (some ⟨g, 0, none⟩) L.length c ∧ B ≤ g ∧ g < w.heap.size ∧ ∀ (j : Nat) (hj : j < L.length), w.cell? ⟨g, j, none⟩ = some (.string ⟨L[j].toArray⟩) := by
  obtain ⟨g, c, rfl, hb, hl⟩ := World.ownsRow.form h h0
  refine ⟨g, c, rfl, hb, hl, fun j hj => ?_⟩
  rw [World.ownsRow.cellAt h j (by omega), List.getElem?_map, List.getElem?_eq_getElem hj]
  rfl
theorem RowT.zero {B : Nat} {w : World} {v : Value} (h : RowT B w v []) : ∃ a c, v = .slice a 0 c := by
  rcases h.2 with ⟨h1, h2⟩ | ⟨g, cap, cur, h1, _⟩
  · exact ⟨none, 0, h1⟩
  · exact ⟨_, _, h1⟩
theorem appT {w : World} {ops : Array Oper} {rest : List Oper} {o : Oper} {a : Act} {Q : Exit → Act → World → Prop} (hgd : o.guard = none) (s x : Operand)
    (ho : o.op = .call { callee := .builtin .append, args := #[s, x], argTypes := #[40, 40] })
    (B : Nat) (v : Value) (L : List (List UInt8)) (hs : a.eval s = v) (hown : RowT B w v L) (t : List UInt8) (y : ByteArray) (hy : y = ⟨t.toArray⟩)
    (hx : a.eval x = .slice (some ⟨w.heap.size, 0, none⟩) 1 1) (hn : L.length ≤ 100000000) (hB : B ≤ w.heap.size)
    (h : ∀ w' g cap, RowT B w' (.slice (some ⟨g, 0, none⟩) (L.length + 1) cap) (L ++ [t]) → Grew B v w w' → wpList Tryd.prog ops Q rest (a.put o.dst (.slice (some ⟨g, 0, none⟩) (L.length + 1) cap)) w') :
    wpList Tryd.prog ops Q (o :: rest) a (w.alloc (.cells #[.string y] 9)) := by
  obtain ⟨i0, hi0, hz0, hz1, hz2⟩ := info_parts infoT
  refine Ap.appX hgd s x 40 ho B 9 i0 (.string ⟨#[]⟩) 1 16 (by kernel_rfl) hi0 hz0 hz1 hz2 rfl (by decide) v L.length _ hs hown #[.string y] 9 rfl (by intro u hu; simp at hu; subst hu; rfl) hx hn (by decide) hB ?_
  intro w' g cap r g' _
  refine h w' g cap ?_ g'
  unfold RowT
  rw [List.map_append, List.length_append]
  have e : [t].map tv = (#[Value.string y] : Array Value).toList := by rw [hy]; rfl
  rw [e]
  exact r
set_option maxHeartbeats 3200000 in
set_option maxRecDepth 100000 in
theorem sidx_to (v : Value) (L : List (List UInt8)) (nm : ByteArray) (N : List UInt8) (B : Nat) (w : World) (hv : RowT B w v L) (hL : L.length ≤ 1000000) (hN : Hid (nm.toList = N)) :
    Calls Tryd.prog 36 #[v, .string nm] w fun e w' => ∃ r, e = .returned (.int .i64 r) ∧ Hid (decide (0 ≤ r) = decide (N ∈ L)) ∧ w = w' := by
  by_cases h0 : L.length = 0
  · have e1 : L = [] := List.length_eq_zero_iff.1 h0
    subst e1
    obtain ⟨q, c, rfl⟩ := hv.zero
    clear hv h0 hL
    go_enter Tryd.func36, Tryd.ntmps36
    go_wp2_with fail
    go_loopw [8] (fun iv wr => iv = .int .i64 0 ∧ wr = w) (fun _ _ => 0)
    case atStart => exact ⟨rfl, rfl⟩
    case round =>
      obtain ⟨rfl, rfl⟩ := hrel
      go_wp2
      go_ret
      exact ⟨-1, rfl, Lib.hid (by simp), rfl⟩
  · obtain ⟨g, c1, rfl, _, hb1, k1⟩ := hv.form (by omega)
    obtain ⟨n, hn⟩ : ∃ n, L.length = n := ⟨_, rfl⟩
    have K1 : Hid (∀ (j : Nat) (hj : j < L.length), w.cell? ⟨g, j, Option.none⟩ = some (.string ⟨L[j].toArray⟩)) := Lib.hid k1
    have HN := Lib.hid hn
    rw [hn] at hL h0 ⊢
    clear k1 hv hn hb1
    go_enter Tryd.func36, Tryd.ntmps36
    go_wp2_with fail
    go_loopw [8] (fun iv wr => ∃ k : Nat, k ≤ n ∧ iv = .int .i64 k ∧ Hid (N ∉ L.take k) ∧ wr = w) (fun iv _ => n - (intOf iv).toNat)
    case atStart => exact ⟨0, Nat.zero_le _, rfl, Lib.hid (by simp), rfl⟩
    case round =>
      obtain ⟨k, hk, rfl, HT, rfl⟩ := hrel
      by_cases hlt : k < n
      · have h1L : k < L.length := by rw [HN.out]; exact hlt
        have g1 := K1.out k h1L
        obtain ⟨y, hy⟩ : ∃ y : ByteArray, (⟨L[k].toArray⟩ : ByteArray) = y := ⟨_, rfl⟩
        have HY : Hid (y.toList = L[k]) := Lib.hid (by rw [← hy, Lib.toList_data])
        rw [hy] at g1
        clear hy
        by_cases c1 : N = L[k]
        · have e2 : (nm.toList == y.toList) = true := by rw [hN.out, HY.out]; exact beq_iff_eq.2 c1
          have HM : Hid (decide (0 ≤ (k : Int)) = decide (N ∈ L)) := Lib.hid (by rw [decide_eq_true (show (0 : Int) ≤ (k : Int) by omega), decide_eq_true (by rw [c1]; exact List.getElem_mem h1L)])
          clear HY h1L c1
          go_wp2
          go_ret
          exact ⟨k, rfl, HM, rfl⟩
        · have e2 : (nm.toList == y.toList) = false := by rw [hN.out, HY.out]; exact beq_eq_false_iff_ne.2 c1
          have HT2 : Hid (N ∉ L.take (k + 1)) := Lib.hid (by
            rw [List.take_succ_eq_append_getElem h1L, List.mem_append, List.mem_singleton]
            rintro (q | q)
            · exact HT.out q
            · exact c1 q)
          clear HY h1L c1
          go_wp2
          go_roundw
          case rel => exact ⟨k + 1, by omega, by go_num, HT2, by trivial⟩
          case measure => simp [intOf]; omega
      · have hkn : k = n := by omega
        have HM : Hid (decide ((0 : Int) ≤ -1) = decide (N ∈ L)) := Lib.hid (by
          have q := HT.out
          rw [List.take_of_length_le (by rw [HN.out]; omega)] at q
          rw [decide_eq_false q]; rfl)
        subst hkn
        go_wp2
        go_ret
        exact ⟨-1, rfl, HM, rfl⟩
theorem has_to (v : Value) (L : List (List UInt8)) (nm : ByteArray) (N : List UInt8) (r : Bool) (B : Nat) (w : World) (hv : RowT B w v L) (hL : L.length ≤ 1000000) (hN : Hid (nm.toList = N)) (h : Hid (decide (N ∈ L) = r)) :
    Calls Tryd.prog 21 #[v, .string nm] w fun e w' => e = .returned (.bool r) ∧ w = w' := by
  go_enter Tryd.func21, Tryd.ntmps21
  go_wp2_with fail
  refine (sidx_to v L nm N B _ hv hL hN).mono ?_
  rintro e w1 ⟨i, rfl, hi, rfl⟩
  have e1 : r = decide (0 ≤ i) := by rw [hi.out, h.out]
  subst e1
  go_wp2
  go_ret
  exact ⟨rfl, rfl⟩
end Rcp
end Go.Proofs.YtfdamkiocefgmaaDoor
