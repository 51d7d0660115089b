/-
  solsticeref21.On, its whole answer. (Written by gen/gen_ency.py, bin/split_y.py.)
-/
import Derived.Test.YtkbgobbkhiaabaaEncYF
namespace Go.Proofs.Ytkbgobbkhiaabaa
open Go.RowKit
namespace Enc
open Wk Cel
open Rcv (CV RecV LisV IntV DayV aggR)
open Ap (RowI Grew)
set_option maxHeartbeats 25600000 in
set_option maxRecDepth 100000 in
theorem ron_to (month k v d m : Int) (x : Option CV) (w : World) (hmo : 1 ≤ month ∧ month ≤ 12) (ho : onOk k v d = true) (_m1 : -9223372036854775808 ≤ m) (_m2 : m ≤ 9223372036854775807) (h : Hid (enR month k v d m = x)) :
    Calls Try.prog 8 #[.int .i64 month, .agg #[.int .i64 k, .int .i64 v, .int .i64 d], .int .i64 m] w (RonP x w) := by
  obtain ⟨hv, hk, hd⟩ := onOk_v ho
  obtain ⟨mo1, mo2⟩ := hmo
  obtain ⟨L, hL⟩ : ∃ L, Cal.mlen 2001 month = L := ⟨_, rfl⟩
  have lb := Cal.mlen_bd 2001 month
  rw [hL] at lb
  have HLL := Lib.hid hL
  have hh := h.out
  unfold enR at hh
  rw [hL] at hh
  have HH := Lib.hid hh
  clear hh h hL ho
  have hgR : w.heap.size ≤ w.heap.size + 1 := by omega
  go_enter Try.func8, Try.ntmps8
  go_upto_region 0 with fail
  go_cut [4, 6] (fun p q w1 => p = .pointer (some ⟨w.heap.size, 0, none⟩) ∧ q = .pointer (some ⟨w.heap.size + 1, 0, none⟩) ∧ Hid (Cs w.heap.size w1 [.int .i64 k, .int .i64 v, .int .i64 d]) ∧ Hid (Cs (w.heap.size + 1) w1 [.int .i64 0, .int .i64 0, .int .i64 0, .bool false, .int .i64 0, .bool false, .slice none 0 0, .slice none 0 0, .slice none 0 0, .slice none 0 0, .slice none 0 0, .slice none 0 0, .slice none 0 0, .slice none 0 0, .slice none 0 0, .int .i64 0]) ∧ Hid (Below w.heap.size w w1))
  case first =>
    go_wp2
    go_meet
    have k0 : Cs (w.heap.size + 1) ((w.alloc (Obj.cells #[.int .i64 k, .int .i64 v, .int .i64 d] 23)).alloc (Obj.cells #[.int .i64 0, .int .i64 0, .int .i64 0, .bool false, .int .i64 0, .bool false, .slice none 0 0, .slice none 0 0, .slice none 0 0, .slice none 0 0, .slice none 0 0, .slice none 0 0, .slice none 0 0, .slice none 0 0, .slice none 0 0, .int .i64 0] 29)) [.int .i64 0, .int .i64 0, .int .i64 0, .bool false, .int .i64 0, .bool false, .slice none 0 0, .slice none 0 0, .slice none 0 0, .slice none 0 0, .slice none 0 0, .slice none 0 0, .slice none 0 0, .slice none 0 0, .slice none 0 0, .int .i64 0] := by
      have := Cs.new (w.alloc (Obj.cells #[.int .i64 k, .int .i64 v, .int .i64 d] 23)) [.int .i64 0, .int .i64 0, .int .i64 0, .bool false, .int .i64 0, .bool false, .slice none 0 0, .slice none 0 0, .slice none 0 0, .slice none 0 0, .slice none 0 0, .slice none 0 0, .slice none 0 0, .slice none 0 0, .slice none 0 0, .int .i64 0] 29
      rwa [show (w.alloc (Obj.cells #[.int .i64 k, .int .i64 v, .int .i64 d] 23)).heap.size = w.heap.size + 1 by simp] at this
    exact ⟨rfl, rfl, Lib.hid ((Cs.new w _ _).alloc _), Lib.hid k0, Lib.hid (((Below.refl w.heap.size w).alloc (Nat.le_refl _) _).alloc (by simp) _)⟩
  case rest =>
  obtain ⟨w1, rfl⟩ : ∃ x : World, x = wc := ⟨_, rfl⟩
  obtain ⟨rfl, rfl, O1, R1, B1⟩ := hcut
  have hO1 := O1.out.1
  have hR1 := R1.out.1
  go_upto_region 1 with fail
  go_cut [8] (fun p w2 => EnB w1.heap.size w2 p month ∧ Hid (Cs w.heap.size w2 [.int .i64 k, .int .i64 v, .int .i64 d]) ∧ Hid (Cs (w.heap.size + 1) w2 [.int .i64 0, .int .i64 0, .int .i64 0, .bool false, .int .i64 0, .bool false, .slice none 0 0, .slice none 0 0, .slice none 0 0, .slice none 0 0, .slice none 0 0, .slice none 0 0, .slice none 0 0, .slice none 0 0, .slice none 0 0, .int .i64 0]) ∧ Hid (Below w.heap.size w w2))
  case first =>
    go_wp2
    go_meet
    exact ⟨EnB.new w1 month _ _, Lib.hid ((O1.out.alloc _).alloc _), Lib.hid ((R1.out.alloc _).alloc _), Lib.hid ((B1.out.alloc B1.out.size _).alloc (by have := B1.out.size; simp; omega) _)⟩
  case rest =>
  obtain ⟨w2, rfl⟩ : ∃ x : World, x = wc := ⟨_, rfl⟩
  obtain ⟨⟨gm, gr, rfl, gm1, gr1, gmr, hcm, hcr⟩, O2, R2, B2⟩ := hcut
  have M2 := Lib.hid hcm
  have A2 := Lib.hid hcr
  have d1 : gr ≠ w.heap.size := by omega
  have d2 : gr ≠ w.heap.size + 1 := by omega
  have d3 : gr ≠ gm := fun q => gmr q.symm
  have d4 : w.heap.size + 1 ≠ gm := by omega
  have gw : w.heap.size ≤ gr := by omega
  have gmw : w.heap.size ≤ gm := by omega
  clear hcm hcr O1 R1 B1 hO1 hR1 gm1 gr1
  rename_i hK
  by_cases ek : k = 2
  case pos =>
    subst ek
    exact hK _ _ (ronD month v d m x w w2 gm gr hgR d2 d3 d4 gw gmw d1 (Lib.hid (by have q := HH.out; rw [if_pos rfl] at q; exact q)) O2 R2 M2 A2 B2 _ _ _ _ _ _ _ _ _ _ _ _ _ _ _ _ _ _ _ _ _ _ _ _ _ _ _ _ _ _ _ _ _ _ _ _ _ _ _ _ _ _ _ _ _ _ _ _ _ _ _ _ _ _ _ _ _ _ _ _ _ _ _ _ _ _ _ _ _ _ _ _ _ _ _ _ _ _ _ _ _ _ _ _ _ _ _ _ _ _ _ _ _ _ _ _ _ _ _ _ _ _ _ _ _ _ _ _)
  exact hK _ _ (ronF month k v d m L x w w2 gm gr hgR d2 d3 d4 gw gmw d1 hv hk hd lb ek HLL (Lib.hid (by have q := HH.out; rw [if_neg ek] at q; exact q)) O2 R2 M2 A2 B2 _ _ _ _ _ _ _ _ _ _ _ _ _ _ _ _ _ _ _ _ _ _ _ _ _ _ _ _ _ _ _ _ _ _ _ _ _ _ _ _ _ _ _ _ _ _ _ _ _ _ _ _ _ _ _ _ _ _ _ _ _ _ _ _ _ _ _ _ _ _ _ _ _ _ _ _ _ _ _ _ _ _ _ _ _ _ _ _ _ _ _ _ _ _ _ _ _ _ _ _ _ _ _ _ _ _ _ _)
end Enc
end Go.Proofs.Ytkbgobbkhiaabaa
