/-
  What the laws of onset share: lists that read alike compared; the waking calls. (Written by gen/gen_onsw.py.)
-/
import Derived.Test.YthefgagmjamdkaaDoorOnsR
import Derived.Test.YthefgagmjamdkaaDoorOnsD
namespace Go.Proofs.YthefgagmjamdkaaDoor
open Go.RowKit
namespace Ons
open Rul Rs Cel
/-- Two rows' cells, in a world that keeps what lay in w. -/
structure KnS (w : World) (b o b' o' : Nat) (vs : List Value) (x : World) : Prop where
  r : x.rangeAt b o vs
  q : x.rangeAt b' o' vs
  g : Below w.heap.size w x

set_option maxHeartbeats 12800000 in
set_option maxRecDepth 100000 in
theorem kon_row (b off c b' off' c' : Nat) (L : List OV) (w : World) (hbl : b < w.heap.size) (hbl' : b' < w.heap.size) (hp : Hid (∀ (j : Nat) (hj : j < L.length), w.rangeAt b (off + j * 3) (ovC L[j]))) (hp' : Hid (∀ (j : Nat) (hj : j < L.length), w.rangeAt b' (off' + j * 3) (ovC L[j]))) (hlen : L.length ≤ 1000000000) :
    Calls Tryd.prog 14 #[.slice (some ⟨b, off, none⟩) L.length c, .slice (some ⟨b', off', none⟩) L.length c'] w fun x w' => x = .returned (.bool true) ∧ Below w.heap.size w w' := by
  obtain ⟨N, hN⟩ : ∃ N, L.length = N := ⟨_, rfl⟩
  rw [hN] at hlen ⊢
  have HN := Lib.hid hN
  clear hN
  go_enter Tryd.func14, Tryd.ntmps14
  go_wp2
  go_loopw [5] (fun i wr => ∃ k : Nat, k ≤ N ∧ i = .int .i64 k ∧ Hid (Below w.heap.size w wr)) (fun i _ => N - (intOf i).toNat)
  case atStart => exact ⟨0, Nat.zero_le _, rfl, Lib.hid (Below.refl _ _)⟩
  case round =>
    obtain ⟨k, hk, rfl, HB⟩ := hrel
    obtain ⟨wo, rfl⟩ : ∃ wo : World, wo = wr := ⟨_, rfl⟩
    by_cases hlt : k < N
    · have hkp : k < L.length := by rw [HN.out]; exact hlt
      have r0 := range_below hbl (hp.out k hkp) HB.out
      have r1 := range_below hbl' (hp'.out k hkp) HB.out
      obtain ⟨r, hr⟩ : ∃ r, L[k]'hkp = r := ⟨_, rfl⟩
      rw [hr] at r0 r1
      clear hr hkp
      obtain ⟨i1, i2, i3⟩ := r
      have S0 : Hid (KnS w b (off + k * 3) b' (off' + k * 3) [.int .i64 i1, .int .i64 i2, .int .i64 i3] wo) := Lib.hid ⟨r0, r1, HB.out⟩
      clear r0 r1
      go_upto_region 6 with fail
      refine Hr.Walk.region (R := fun _ x => KnS w b (off + k * 3) b' (off' + k * 3) [.int .i64 i1, .int .i64 i2, .int .i64 i3] x) (by kernel_rfl) ?_
      obtain ⟨w1, hw1⟩ : ∃ z, wo.drew = z := ⟨_, rfl⟩
      have S1 : Hid (KnS w b (off + k * 3) b' (off' + k * 3) [.int .i64 i1, .int .i64 i2, .int .i64 i3] w1) := Lib.hid (by rw [← hw1]; exact ⟨S0.out.r, S0.out.q, below_drewN S0.out.g 1⟩)
      rw [hw1]
      clear hw1
      refine Hr.Walk.take (i := 0) (v := ?vkon0) (fun x => KnS w b (off + k * 3) b' (off' + k * 3) [.int .i64 i1, .int .i64 i2, .int .i64 i3] x) (fun _ => True) rfl (by kernel_rfl) (by kernel_rfl) (by kernel_rfl) (fun _ _ _ h => h) (fun _ _ _ _ _ _ => trivial) (fun _ _ _ h => h) (fun _ _ h => h) trivial (Or.inl ⟨by rfl, ?hykon0⟩) S1.out S1.out ?restkon0
      case hykon0 => intro x hx; have e0 : x.cell? ⟨b, off + k * 3, none⟩ = _ := hx.r 0 _ rfl; have f0 : x.cell? ⟨b', off' + k * 3, none⟩ = _ := hx.q 0 _ rfl; have e1 := hx.r 1 _ rfl; have f1 := hx.q 1 _ rfl; have e2 := hx.r 2 _ rfl; have f2 := hx.q 2 _ rfl; clear hx; go_simp; try with_reducible rfl
      (try go_simp)
      refine Hr.Walk.take (i := 1) (v := ?vkon1) (fun x => KnS w b (off + k * 3) b' (off' + k * 3) [.int .i64 i1, .int .i64 i2, .int .i64 i3] x) (fun _ => True) rfl (by kernel_rfl) (by kernel_rfl) (by kernel_rfl) (fun _ _ _ h => h) (fun _ _ _ _ _ _ => trivial) (fun _ _ _ h => h) (fun _ _ h => h) trivial (Or.inl ⟨by rfl, ?hykon1⟩) S1.out S1.out ?restkon1
      case hykon1 => intro x hx; have e0 : x.cell? ⟨b, off + k * 3, none⟩ = _ := hx.r 0 _ rfl; have f0 : x.cell? ⟨b', off' + k * 3, none⟩ = _ := hx.q 0 _ rfl; have e1 := hx.r 1 _ rfl; have f1 := hx.q 1 _ rfl; have e2 := hx.r 2 _ rfl; have f2 := hx.q 2 _ rfl; clear hx; go_simp; try with_reducible rfl
      (try go_simp)
      refine Hr.Walk.take (i := 2) (v := ?vkon2) (fun x => KnS w b (off + k * 3) b' (off' + k * 3) [.int .i64 i1, .int .i64 i2, .int .i64 i3] x) (fun _ => True) rfl (by kernel_rfl) (by kernel_rfl) (by kernel_rfl) (fun _ _ _ h => h) (fun _ _ _ _ _ _ => trivial) (fun _ _ _ h => h) (fun _ _ h => h) trivial (Or.inl ⟨by rfl, ?hykon2⟩) S1.out S1.out ?restkon2
      case hykon2 => intro x hx; have e0 : x.cell? ⟨b, off + k * 3, none⟩ = _ := hx.r 0 _ rfl; have f0 : x.cell? ⟨b', off' + k * 3, none⟩ = _ := hx.q 0 _ rfl; have e1 := hx.r 1 _ rfl; have f1 := hx.q 1 _ rfl; have e2 := hx.r 2 _ rfl; have f2 := hx.q 2 _ rfl; clear hx; go_simp; try with_reducible rfl
      (try go_simp)
      refine Hr.Walk.take (i := 3) (v := ?vkon3) (fun x => KnS w b (off + k * 3) b' (off' + k * 3) [.int .i64 i1, .int .i64 i2, .int .i64 i3] x) (fun _ => True) rfl (by kernel_rfl) (by kernel_rfl) (by kernel_rfl) (fun _ _ _ h => h) (fun _ _ _ _ _ _ => trivial) (fun _ _ _ h => h) (fun _ _ h => h) trivial (Or.inl ⟨by rfl, ?hykon3⟩) S1.out S1.out ?restkon3
      case hykon3 => intro x hx; have e0 : x.cell? ⟨b, off + k * 3, none⟩ = _ := hx.r 0 _ rfl; have f0 : x.cell? ⟨b', off' + k * 3, none⟩ = _ := hx.q 0 _ rfl; have e1 := hx.r 1 _ rfl; have f1 := hx.q 1 _ rfl; have e2 := hx.r 2 _ rfl; have f2 := hx.q 2 _ rfl; clear hx; go_simp; try with_reducible rfl
      (try go_simp)
      refine Hr.Walk.take (i := 4) (v := ?vkon4) (fun x => KnS w b (off + k * 3) b' (off' + k * 3) [.int .i64 i1, .int .i64 i2, .int .i64 i3] x) (fun _ => True) rfl (by kernel_rfl) (by kernel_rfl) (by kernel_rfl) (fun _ _ _ h => h) (fun _ _ _ _ _ _ => trivial) (fun _ _ _ h => h) (fun _ _ h => h) trivial (Or.inl ⟨by rfl, ?hykon4⟩) S1.out S1.out ?restkon4
      case hykon4 => intro x hx; have e0 : x.cell? ⟨b, off + k * 3, none⟩ = _ := hx.r 0 _ rfl; have f0 : x.cell? ⟨b', off' + k * 3, none⟩ = _ := hx.q 0 _ rfl; have e1 := hx.r 1 _ rfl; have f1 := hx.q 1 _ rfl; have e2 := hx.r 2 _ rfl; have f2 := hx.q 2 _ rfl; clear hx; go_simp; try with_reducible rfl
      (try go_simp)
      refine Hr.Walk.one (i := 5) (by kernel_rfl) rfl (fun K hK => ?_)
      have hx := S1.out; have e0 : w1.cell? ⟨b, off + k * 3, none⟩ = _ := hx.r 0 _ rfl; have f0 : w1.cell? ⟨b', off' + k * 3, none⟩ = _ := hx.q 0 _ rfl; have e1 := hx.r 1 _ rfl; have f1 := hx.q 1 _ rfl; have e2 := hx.r 2 _ rfl; have f2 := hx.q 2 _ rfl; clear hx
      go_simp
      refine hK.out _ _ S1.out ?_
      clear hK K
      refine Hr.Walk.one (i := 6) (by kernel_rfl) rfl (fun K hK => ?_)
      have hx := S1.out; have e0 : w1.cell? ⟨b, off + k * 3, none⟩ = _ := hx.r 0 _ rfl; have f0 : w1.cell? ⟨b', off' + k * 3, none⟩ = _ := hx.q 0 _ rfl; have e1 := hx.r 1 _ rfl; have f1 := hx.q 1 _ rfl; have e2 := hx.r 2 _ rfl; have f2 := hx.q 2 _ rfl; clear hx
      go_simp
      refine hK.out _ _ S1.out ?_
      clear hK K
      refine Hr.Walk.one (i := 7) (by kernel_rfl) rfl (fun K hK => ?_)
      have hx := S1.out; have e0 : w1.cell? ⟨b, off + k * 3, none⟩ = _ := hx.r 0 _ rfl; have f0 : w1.cell? ⟨b', off' + k * 3, none⟩ = _ := hx.q 0 _ rfl; have e1 := hx.r 1 _ rfl; have f1 := hx.q 1 _ rfl; have e2 := hx.r 2 _ rfl; have f2 := hx.q 2 _ rfl; clear hx
      go_simp
      refine hK.out _ _ S1.out ?_
      clear hK K
      refine Hr.Walk.one (i := 8) (by kernel_rfl) rfl (fun K hK => ?_)
      have hx := S1.out; have e0 : w1.cell? ⟨b, off + k * 3, none⟩ = _ := hx.r 0 _ rfl; have f0 : w1.cell? ⟨b', off' + k * 3, none⟩ = _ := hx.q 0 _ rfl; have e1 := hx.r 1 _ rfl; have f1 := hx.q 1 _ rfl; have e2 := hx.r 2 _ rfl; have f2 := hx.q 2 _ rfl; clear hx
      go_simp
      refine hK.out _ _ S1.out ?_
      clear hK K
      refine Hr.Walk.done (by kernel_rfl) ?_ _
      go_wp2
      go_roundw
      case rel => exact ⟨k + 1, by omega, by go_num, Lib.hid S1.out.g⟩
      case measure => simp [intOf]; omega
    · go_wp2
      go_ret
      exact ⟨rfl, HB.out⟩
set_option maxHeartbeats 3200000 in
set_option maxRecDepth 100000 in
theorem kon_nil (a a' : Option Addr) (c c' : Nat) (w : World) :
    Calls Tryd.prog 14 #[.slice a 0 c, .slice a' 0 c'] w fun x w' => x = .returned (.bool true) ∧ Below w.heap.size w w' := by
  go_enter Tryd.func14, Tryd.ntmps14
  go_wp2
  go_loopw [5] (fun i wr => i = .int .i64 0 ∧ Below w.heap.size w wr) (fun _ _ => 0)
  case atStart => exact ⟨rfl, Below.refl _ _⟩
  case round =>
    obtain ⟨rfl, hb⟩ := hrel
    go_wp2
    go_ret
    exact ⟨rfl, hb⟩
theorem kon_to (v v' : Value) (L : List OV) (w : World) (hv : RowV ovC 3 w v L) (hv' : RowV ovC 3 w v' L) (hlen : L.length ≤ 1000000000) :
    Calls Tryd.prog 14 #[v, v'] w fun x w' => x = .returned (.bool true) ∧ Below w.heap.size w w' := by
  by_cases h0 : L.length = 0
  · obtain ⟨a, c, rfl⟩ := hv.slice
    obtain ⟨a', c', rfl⟩ := hv'.slice
    rw [h0]
    exact kon_nil a a' c c' w
  · obtain ⟨b, off, c, rfl, hb, hp⟩ := RowV.form hv (by omega)
    obtain ⟨b', off', c', rfl, hb', hp'⟩ := RowV.form hv' (by omega)
    exact kon_row b off c b' off' c' L w hb hb' (Lib.hid hp) (Lib.hid hp') hlen

set_option maxHeartbeats 12800000 in
set_option maxRecDepth 100000 in
theorem kru_row (b off c b' off' c' : Nat) (L : List RV) (w : World) (hbl : b < w.heap.size) (hbl' : b' < w.heap.size) (hp : Hid (∀ (j : Nat) (hj : j < L.length), w.rangeAt b (off + j * 11) (rvC L[j]))) (hp' : Hid (∀ (j : Nat) (hj : j < L.length), w.rangeAt b' (off' + j * 11) (rvC L[j]))) (hlen : L.length ≤ 1000000000) :
    Calls Tryd.prog 10 #[.slice (some ⟨b, off, none⟩) L.length c, .slice (some ⟨b', off', none⟩) L.length c'] w fun x w' => x = .returned (.bool true) ∧ Below w.heap.size w w' := by
  obtain ⟨N, hN⟩ : ∃ N, L.length = N := ⟨_, rfl⟩
  rw [hN] at hlen ⊢
  have HN := Lib.hid hN
  clear hN
  go_enter Tryd.func10, Tryd.ntmps10
  go_wp2
  go_loopw [5] (fun i wr => ∃ k : Nat, k ≤ N ∧ i = .int .i64 k ∧ Hid (Below w.heap.size w wr)) (fun i _ => N - (intOf i).toNat)
  case atStart => exact ⟨0, Nat.zero_le _, rfl, Lib.hid (Below.refl _ _)⟩
  case round =>
    obtain ⟨k, hk, rfl, HB⟩ := hrel
    obtain ⟨wo, rfl⟩ : ∃ wo : World, wo = wr := ⟨_, rfl⟩
    by_cases hlt : k < N
    · have hkp : k < L.length := by rw [HN.out]; exact hlt
      have r0 := range_below hbl (hp.out k hkp) HB.out
      have r1 := range_below hbl' (hp'.out k hkp) HB.out
      obtain ⟨r, hr⟩ : ∃ r, L[k]'hkp = r := ⟨_, rfl⟩
      rw [hr] at r0 r1
      clear hr hkp
      obtain ⟨nm, fr, tu, mo, kk, vv, dd, nn, cc, sv, lt⟩ := r
      have S0 : Hid (KnS w b (off + k * 11) b' (off' + k * 11) [.string ⟨nm.toArray⟩, .int .i64 fr, .int .i64 tu, .int .i64 mo, .int .i64 kk, .int .i64 vv, .int .i64 dd, .int .i64 nn, .int .i64 cc, .int .i64 sv, .string ⟨lt.toArray⟩] wo) := Lib.hid ⟨r0, r1, HB.out⟩
      clear r0 r1
      go_upto_region 6 with fail
      refine Hr.Walk.region (R := fun _ x => KnS w b (off + k * 11) b' (off' + k * 11) [.string ⟨nm.toArray⟩, .int .i64 fr, .int .i64 tu, .int .i64 mo, .int .i64 kk, .int .i64 vv, .int .i64 dd, .int .i64 nn, .int .i64 cc, .int .i64 sv, .string ⟨lt.toArray⟩] x) (by kernel_rfl) ?_
      obtain ⟨w1, hw1⟩ : ∃ z, wo.drew = z := ⟨_, rfl⟩
      have S1 : Hid (KnS w b (off + k * 11) b' (off' + k * 11) [.string ⟨nm.toArray⟩, .int .i64 fr, .int .i64 tu, .int .i64 mo, .int .i64 kk, .int .i64 vv, .int .i64 dd, .int .i64 nn, .int .i64 cc, .int .i64 sv, .string ⟨lt.toArray⟩] w1) := Lib.hid (by rw [← hw1]; exact ⟨S0.out.r, S0.out.q, below_drewN S0.out.g 1⟩)
      rw [hw1]
      clear hw1
      refine Hr.Walk.take (i := 0) (v := ?vkru0) (fun x => KnS w b (off + k * 11) b' (off' + k * 11) [.string ⟨nm.toArray⟩, .int .i64 fr, .int .i64 tu, .int .i64 mo, .int .i64 kk, .int .i64 vv, .int .i64 dd, .int .i64 nn, .int .i64 cc, .int .i64 sv, .string ⟨lt.toArray⟩] x) (fun _ => True) rfl (by kernel_rfl) (by kernel_rfl) (by kernel_rfl) (fun _ _ _ h => h) (fun _ _ _ _ _ _ => trivial) (fun _ _ _ h => h) (fun _ _ h => h) trivial (Or.inl ⟨by rfl, ?hykru0⟩) S1.out S1.out ?restkru0
      case hykru0 => intro x hx; have e0 : x.cell? ⟨b, off + k * 11, none⟩ = _ := hx.r 0 _ rfl; have f0 : x.cell? ⟨b', off' + k * 11, none⟩ = _ := hx.q 0 _ rfl; have e1 := hx.r 1 _ rfl; have f1 := hx.q 1 _ rfl; have e2 := hx.r 2 _ rfl; have f2 := hx.q 2 _ rfl; have e3 := hx.r 3 _ rfl; have f3 := hx.q 3 _ rfl; have e4 := hx.r 4 _ rfl; have f4 := hx.q 4 _ rfl; have e5 := hx.r 5 _ rfl; have f5 := hx.q 5 _ rfl; have e6 := hx.r 6 _ rfl; have f6 := hx.q 6 _ rfl; have e7 := hx.r 7 _ rfl; have f7 := hx.q 7 _ rfl; have e8 := hx.r 8 _ rfl; have f8 := hx.q 8 _ rfl; have e9 := hx.r 9 _ rfl; have f9 := hx.q 9 _ rfl; have e10 := hx.r 10 _ rfl; have f10 := hx.q 10 _ rfl; clear hx; go_simp; try with_reducible rfl
      (try go_simp)
      refine Hr.Walk.take (i := 1) (v := ?vkru1) (fun x => KnS w b (off + k * 11) b' (off' + k * 11) [.string ⟨nm.toArray⟩, .int .i64 fr, .int .i64 tu, .int .i64 mo, .int .i64 kk, .int .i64 vv, .int .i64 dd, .int .i64 nn, .int .i64 cc, .int .i64 sv, .string ⟨lt.toArray⟩] x) (fun _ => True) rfl (by kernel_rfl) (by kernel_rfl) (by kernel_rfl) (fun _ _ _ h => h) (fun _ _ _ _ _ _ => trivial) (fun _ _ _ h => h) (fun _ _ h => h) trivial (Or.inl ⟨by rfl, ?hykru1⟩) S1.out S1.out ?restkru1
      case hykru1 => intro x hx; have e0 : x.cell? ⟨b, off + k * 11, none⟩ = _ := hx.r 0 _ rfl; have f0 : x.cell? ⟨b', off' + k * 11, none⟩ = _ := hx.q 0 _ rfl; have e1 := hx.r 1 _ rfl; have f1 := hx.q 1 _ rfl; have e2 := hx.r 2 _ rfl; have f2 := hx.q 2 _ rfl; have e3 := hx.r 3 _ rfl; have f3 := hx.q 3 _ rfl; have e4 := hx.r 4 _ rfl; have f4 := hx.q 4 _ rfl; have e5 := hx.r 5 _ rfl; have f5 := hx.q 5 _ rfl; have e6 := hx.r 6 _ rfl; have f6 := hx.q 6 _ rfl; have e7 := hx.r 7 _ rfl; have f7 := hx.q 7 _ rfl; have e8 := hx.r 8 _ rfl; have f8 := hx.q 8 _ rfl; have e9 := hx.r 9 _ rfl; have f9 := hx.q 9 _ rfl; have e10 := hx.r 10 _ rfl; have f10 := hx.q 10 _ rfl; clear hx; go_simp; try with_reducible rfl
      (try go_simp)
      refine Hr.Walk.take (i := 2) (v := ?vkru2) (fun x => KnS w b (off + k * 11) b' (off' + k * 11) [.string ⟨nm.toArray⟩, .int .i64 fr, .int .i64 tu, .int .i64 mo, .int .i64 kk, .int .i64 vv, .int .i64 dd, .int .i64 nn, .int .i64 cc, .int .i64 sv, .string ⟨lt.toArray⟩] x) (fun _ => True) rfl (by kernel_rfl) (by kernel_rfl) (by kernel_rfl) (fun _ _ _ h => h) (fun _ _ _ _ _ _ => trivial) (fun _ _ _ h => h) (fun _ _ h => h) trivial (Or.inl ⟨by rfl, ?hykru2⟩) S1.out S1.out ?restkru2
      case hykru2 => intro x hx; have e0 : x.cell? ⟨b, off + k * 11, none⟩ = _ := hx.r 0 _ rfl; have f0 : x.cell? ⟨b', off' + k * 11, none⟩ = _ := hx.q 0 _ rfl; have e1 := hx.r 1 _ rfl; have f1 := hx.q 1 _ rfl; have e2 := hx.r 2 _ rfl; have f2 := hx.q 2 _ rfl; have e3 := hx.r 3 _ rfl; have f3 := hx.q 3 _ rfl; have e4 := hx.r 4 _ rfl; have f4 := hx.q 4 _ rfl; have e5 := hx.r 5 _ rfl; have f5 := hx.q 5 _ rfl; have e6 := hx.r 6 _ rfl; have f6 := hx.q 6 _ rfl; have e7 := hx.r 7 _ rfl; have f7 := hx.q 7 _ rfl; have e8 := hx.r 8 _ rfl; have f8 := hx.q 8 _ rfl; have e9 := hx.r 9 _ rfl; have f9 := hx.q 9 _ rfl; have e10 := hx.r 10 _ rfl; have f10 := hx.q 10 _ rfl; clear hx; go_simp; try with_reducible rfl
      (try go_simp)
      refine Hr.Walk.take (i := 3) (v := ?vkru3) (fun x => KnS w b (off + k * 11) b' (off' + k * 11) [.string ⟨nm.toArray⟩, .int .i64 fr, .int .i64 tu, .int .i64 mo, .int .i64 kk, .int .i64 vv, .int .i64 dd, .int .i64 nn, .int .i64 cc, .int .i64 sv, .string ⟨lt.toArray⟩] x) (fun _ => True) rfl (by kernel_rfl) (by kernel_rfl) (by kernel_rfl) (fun _ _ _ h => h) (fun _ _ _ _ _ _ => trivial) (fun _ _ _ h => h) (fun _ _ h => h) trivial (Or.inl ⟨by rfl, ?hykru3⟩) S1.out S1.out ?restkru3
      case hykru3 => intro x hx; have e0 : x.cell? ⟨b, off + k * 11, none⟩ = _ := hx.r 0 _ rfl; have f0 : x.cell? ⟨b', off' + k * 11, none⟩ = _ := hx.q 0 _ rfl; have e1 := hx.r 1 _ rfl; have f1 := hx.q 1 _ rfl; have e2 := hx.r 2 _ rfl; have f2 := hx.q 2 _ rfl; have e3 := hx.r 3 _ rfl; have f3 := hx.q 3 _ rfl; have e4 := hx.r 4 _ rfl; have f4 := hx.q 4 _ rfl; have e5 := hx.r 5 _ rfl; have f5 := hx.q 5 _ rfl; have e6 := hx.r 6 _ rfl; have f6 := hx.q 6 _ rfl; have e7 := hx.r 7 _ rfl; have f7 := hx.q 7 _ rfl; have e8 := hx.r 8 _ rfl; have f8 := hx.q 8 _ rfl; have e9 := hx.r 9 _ rfl; have f9 := hx.q 9 _ rfl; have e10 := hx.r 10 _ rfl; have f10 := hx.q 10 _ rfl; clear hx; go_simp; try with_reducible rfl
      (try go_simp)
      refine Hr.Walk.take (i := 4) (v := ?vkru4) (fun x => KnS w b (off + k * 11) b' (off' + k * 11) [.string ⟨nm.toArray⟩, .int .i64 fr, .int .i64 tu, .int .i64 mo, .int .i64 kk, .int .i64 vv, .int .i64 dd, .int .i64 nn, .int .i64 cc, .int .i64 sv, .string ⟨lt.toArray⟩] x) (fun _ => True) rfl (by kernel_rfl) (by kernel_rfl) (by kernel_rfl) (fun _ _ _ h => h) (fun _ _ _ _ _ _ => trivial) (fun _ _ _ h => h) (fun _ _ h => h) trivial (Or.inl ⟨by rfl, ?hykru4⟩) S1.out S1.out ?restkru4
      case hykru4 => intro x hx; have e0 : x.cell? ⟨b, off + k * 11, none⟩ = _ := hx.r 0 _ rfl; have f0 : x.cell? ⟨b', off' + k * 11, none⟩ = _ := hx.q 0 _ rfl; have e1 := hx.r 1 _ rfl; have f1 := hx.q 1 _ rfl; have e2 := hx.r 2 _ rfl; have f2 := hx.q 2 _ rfl; have e3 := hx.r 3 _ rfl; have f3 := hx.q 3 _ rfl; have e4 := hx.r 4 _ rfl; have f4 := hx.q 4 _ rfl; have e5 := hx.r 5 _ rfl; have f5 := hx.q 5 _ rfl; have e6 := hx.r 6 _ rfl; have f6 := hx.q 6 _ rfl; have e7 := hx.r 7 _ rfl; have f7 := hx.q 7 _ rfl; have e8 := hx.r 8 _ rfl; have f8 := hx.q 8 _ rfl; have e9 := hx.r 9 _ rfl; have f9 := hx.q 9 _ rfl; have e10 := hx.r 10 _ rfl; have f10 := hx.q 10 _ rfl; clear hx; go_simp; try with_reducible rfl
      (try go_simp)
      refine Hr.Walk.one (i := 5) (by kernel_rfl) rfl (fun K hK => ?_)
      have hx := S1.out; have e0 : w1.cell? ⟨b, off + k * 11, none⟩ = _ := hx.r 0 _ rfl; have f0 : w1.cell? ⟨b', off' + k * 11, none⟩ = _ := hx.q 0 _ rfl; have e1 := hx.r 1 _ rfl; have f1 := hx.q 1 _ rfl; have e2 := hx.r 2 _ rfl; have f2 := hx.q 2 _ rfl; have e3 := hx.r 3 _ rfl; have f3 := hx.q 3 _ rfl; have e4 := hx.r 4 _ rfl; have f4 := hx.q 4 _ rfl; have e5 := hx.r 5 _ rfl; have f5 := hx.q 5 _ rfl; have e6 := hx.r 6 _ rfl; have f6 := hx.q 6 _ rfl; have e7 := hx.r 7 _ rfl; have f7 := hx.q 7 _ rfl; have e8 := hx.r 8 _ rfl; have f8 := hx.q 8 _ rfl; have e9 := hx.r 9 _ rfl; have f9 := hx.q 9 _ rfl; have e10 := hx.r 10 _ rfl; have f10 := hx.q 10 _ rfl; clear hx
      go_simp
      refine hK.out _ _ S1.out ?_
      clear hK K
      refine Hr.Walk.one (i := 6) (by kernel_rfl) rfl (fun K hK => ?_)
      have hx := S1.out; have e0 : w1.cell? ⟨b, off + k * 11, none⟩ = _ := hx.r 0 _ rfl; have f0 : w1.cell? ⟨b', off' + k * 11, none⟩ = _ := hx.q 0 _ rfl; have e1 := hx.r 1 _ rfl; have f1 := hx.q 1 _ rfl; have e2 := hx.r 2 _ rfl; have f2 := hx.q 2 _ rfl; have e3 := hx.r 3 _ rfl; have f3 := hx.q 3 _ rfl; have e4 := hx.r 4 _ rfl; have f4 := hx.q 4 _ rfl; have e5 := hx.r 5 _ rfl; have f5 := hx.q 5 _ rfl; have e6 := hx.r 6 _ rfl; have f6 := hx.q 6 _ rfl; have e7 := hx.r 7 _ rfl; have f7 := hx.q 7 _ rfl; have e8 := hx.r 8 _ rfl; have f8 := hx.q 8 _ rfl; have e9 := hx.r 9 _ rfl; have f9 := hx.q 9 _ rfl; have e10 := hx.r 10 _ rfl; have f10 := hx.q 10 _ rfl; clear hx
      go_simp
      refine hK.out _ _ S1.out ?_
      clear hK K
      refine Hr.Walk.one (i := 7) (by kernel_rfl) rfl (fun K hK => ?_)
      have hx := S1.out; have e0 : w1.cell? ⟨b, off + k * 11, none⟩ = _ := hx.r 0 _ rfl; have f0 : w1.cell? ⟨b', off' + k * 11, none⟩ = _ := hx.q 0 _ rfl; have e1 := hx.r 1 _ rfl; have f1 := hx.q 1 _ rfl; have e2 := hx.r 2 _ rfl; have f2 := hx.q 2 _ rfl; have e3 := hx.r 3 _ rfl; have f3 := hx.q 3 _ rfl; have e4 := hx.r 4 _ rfl; have f4 := hx.q 4 _ rfl; have e5 := hx.r 5 _ rfl; have f5 := hx.q 5 _ rfl; have e6 := hx.r 6 _ rfl; have f6 := hx.q 6 _ rfl; have e7 := hx.r 7 _ rfl; have f7 := hx.q 7 _ rfl; have e8 := hx.r 8 _ rfl; have f8 := hx.q 8 _ rfl; have e9 := hx.r 9 _ rfl; have f9 := hx.q 9 _ rfl; have e10 := hx.r 10 _ rfl; have f10 := hx.q 10 _ rfl; clear hx
      go_simp
      refine hK.out _ _ S1.out ?_
      clear hK K
      refine Hr.Walk.one (i := 8) (by kernel_rfl) rfl (fun K hK => ?_)
      have hx := S1.out; have e0 : w1.cell? ⟨b, off + k * 11, none⟩ = _ := hx.r 0 _ rfl; have f0 : w1.cell? ⟨b', off' + k * 11, none⟩ = _ := hx.q 0 _ rfl; have e1 := hx.r 1 _ rfl; have f1 := hx.q 1 _ rfl; have e2 := hx.r 2 _ rfl; have f2 := hx.q 2 _ rfl; have e3 := hx.r 3 _ rfl; have f3 := hx.q 3 _ rfl; have e4 := hx.r 4 _ rfl; have f4 := hx.q 4 _ rfl; have e5 := hx.r 5 _ rfl; have f5 := hx.q 5 _ rfl; have e6 := hx.r 6 _ rfl; have f6 := hx.q 6 _ rfl; have e7 := hx.r 7 _ rfl; have f7 := hx.q 7 _ rfl; have e8 := hx.r 8 _ rfl; have f8 := hx.q 8 _ rfl; have e9 := hx.r 9 _ rfl; have f9 := hx.q 9 _ rfl; have e10 := hx.r 10 _ rfl; have f10 := hx.q 10 _ rfl; clear hx
      go_simp
      refine hK.out _ _ S1.out ?_
      clear hK K
      refine Hr.Walk.done (by kernel_rfl) ?_ _
      go_wp2
      go_roundw
      case rel => exact ⟨k + 1, by omega, by go_num, Lib.hid S1.out.g⟩
      case measure => simp [intOf]; omega
    · go_wp2
      go_ret
      exact ⟨rfl, HB.out⟩
set_option maxHeartbeats 3200000 in
set_option maxRecDepth 100000 in
theorem kru_nil (a a' : Option Addr) (c c' : Nat) (w : World) :
    Calls Tryd.prog 10 #[.slice a 0 c, .slice a' 0 c'] w fun x w' => x = .returned (.bool true) ∧ Below w.heap.size w w' := by
  go_enter Tryd.func10, Tryd.ntmps10
  go_wp2
  go_loopw [5] (fun i wr => i = .int .i64 0 ∧ Below w.heap.size w wr) (fun _ _ => 0)
  case atStart => exact ⟨rfl, Below.refl _ _⟩
  case round =>
    obtain ⟨rfl, hb⟩ := hrel
    go_wp2
    go_ret
    exact ⟨rfl, hb⟩
theorem kru_to (v v' : Value) (L : List RV) (w : World) (hv : RowV rvC 11 w v L) (hv' : RowV rvC 11 w v' L) (hlen : L.length ≤ 1000000000) :
    Calls Tryd.prog 10 #[v, v'] w fun x w' => x = .returned (.bool true) ∧ Below w.heap.size w w' := by
  by_cases h0 : L.length = 0
  · obtain ⟨a, c, rfl⟩ := hv.slice
    obtain ⟨a', c', rfl⟩ := hv'.slice
    rw [h0]
    exact kru_nil a a' c c' w
  · obtain ⟨b, off, c, rfl, hb, hp⟩ := RowV.form hv (by omega)
    obtain ⟨b', off', c', rfl, hb', hp'⟩ := RowV.form hv' (by omega)
    exact kru_row b off c b' off' c' L w hb hb' (Lib.hid hp) (Lib.hid hp') hlen

/-! ### The waking calls -/
def wkR : RV := ⟨[69], 1990, 1991, 3, 1, 0, 1, 0, 1, 0, [83]⟩
def wkZ : RV := ⟨[], 0, 0, 0, 0, 0, 0, 0, 0, 0, []⟩
theorem wk13_a : chkB wkR = true := by decide +kernel
theorem wk13_z : chkB wkZ = false := by decide +kernel
theorem wk13_g : onG [69] 2000 [wkR] 1 = [(0, 1990, 636249600), (0, 1991, 667785600)] := by decide +kernel
theorem wk13_s : onS [69] 2000 [wkR] = [(0, 1990, 636249600), (0, 1991, 667785600)] := by
  rw [onS, show [wkR].length = 1 from rfl, wk13_g]
  exact pair_perm_eq _ _ (sortO_perm _) (sortO_pair _) (by decide)
theorem wk13_f : firstO wkR = some 636249600 := first_at (r := wkR) (j := 0) (fun i hi => by omega) (by decide) (by decide +kernel)
theorem wk13_l : ltS [69] [wkR] = [83] := by
  show (ltG [69] [wkR] 1).lt = _
  rw [ltG_succ (by decide)]
  show (ltO [69] ⟨[], 0, false⟩ wkR).lt = _
  rw [ltO, if_pos (by decide), wk13_f]
  rfl
theorem wk13_o : ofE 2000 [wkR] = 0 ∧ ofO [69] 2000 [wkR] = [(0, 1990, 636249600), (0, 1991, 667785600)] := by
  have e : ofE 2000 [wkR] = 0 := by
    rw [ofE, if_pos (by rw [okE, if_neg (by decide), if_pos (by simp [wk13_a])]), if_pos (by decide)]
  exact ⟨e, by rw [ofO, if_pos e, wk13_s]⟩
theorem wk13_e : okE [wkR] = 0 := by rw [okE, if_neg (by decide), if_pos (by simp [wk13_a])]
theorem wk13_ze : okE [wkZ] = 10 := by rw [okE, if_neg (by decide), if_neg (by simp [wk13_z])]
theorem one_rul {w : World} {g : Nat} (r : RV) (hg : g = w.heap.size) : RulV (w.alloc (Obj.cells (rvC r).toArray 43)) (.slice (some ⟨g, 0, none⟩) 1 1) [r] := by
  subst hg
  refine ⟨_, 1, 1, rfl, rfl, fun j hj => ?_⟩
  have : j = 0 := by simpa using hj
  subst this
  exact ⟨_, 0, rfl, by simp, (Cs.new w (rvC r) 43).range⟩
structure WkS (w : World) (g : Nat) (x : World) : Prop where
  a : x.cell? ⟨g, 1, none⟩ = some (.int .i64 1990)
  b : x.cell? ⟨g, 2, none⟩ = some (.int .i64 636249600)
  c : x.cell? ⟨g, 5, none⟩ = some (.int .i64 667785600)
  g : Below w.heap.size w x

set_option maxHeartbeats 12800000 in
set_option maxRecDepth 100000 in
theorem wakes13_any (w : World) (hA : Civ.Ahead w) :
    Calls Tryd.prog 11 #[] w fun x w' => x = .returned (.bool true) ∧ Below w.heap.size w w' := by
  have HA := Lib.hid hA
  clear hA
  have sm1 : Hid (∀ r ∈ [wkR], r.nm.length ≤ 1000000 ∧ r.lt.length ≤ 1000000) := Lib.hid (by decide)
  have sm2 : Hid (∀ r ∈ [wkZ], r.nm.length ≤ 1000000 ∧ r.lt.length ≤ 1000000) := Lib.hid (by decide)
  have b1 : Below w.heap.size w (w.alloc (Obj.cells (rvC wkR).toArray 43)) := (Below.refl _ _).alloc (Nat.le_refl _) _
  have R1 := Lib.hid (one_rul (w := w) wkR rfl)
  have B1 := Lib.hid b1
  clear b1
  go_enter Tryd.func11, Tryd.ntmps11
  go_wp2_with fail
  refine (of_to _ [69] 2000 [wkR] 0 [(0, 1990, 636249600), (0, 1991, 667785600)] _ (HA.out.stays B1.out) R1.out sm1 (by simp) (Lib.hid wk13_o.1) (Lib.hid wk13_o.2)).mono ?_
  rintro e w1 ⟨lv, rfl, hr, k1⟩
  obtain ⟨g, c, rfl, _, hg, hcl, _⟩ := RowT.form ovC_len hr (by decide)
  have S0 : Hid (WkS w g w1) := Lib.hid ⟨hcl 0 (by decide) 1 _ rfl, hcl 0 (by decide) 2 _ rfl, hcl 1 (by decide) 2 _ rfl, bstep B1.out k1⟩
  have HG := Lib.hid hg
  have R2 := Lib.hid (R1.out.below k1)
  clear hr hcl k1 hg
  go_wp2_with fail
  refine (let_to _ [69] [wkR] 0 [83] _ (HA.out.stays S0.out.g) R2.out sm1 (by simp) (Lib.hid wk13_e) (Lib.hid (by rw [if_pos rfl]; exact wk13_l))).mono ?_
  rintro e w2 ⟨rfl, k2⟩
  have S2 : Hid (WkS w g w2) := Lib.hid ⟨(k2.cell (p := ⟨g, 1, none⟩) HG.out).trans S0.out.a, (k2.cell (p := ⟨g, 2, none⟩) HG.out).trans S0.out.b, (k2.cell (p := ⟨g, 5, none⟩) HG.out).trans S0.out.c, bstep S0.out.g k2⟩
  have HG2 : Hid (g < w2.heap.size) := Lib.hid (Nat.lt_of_lt_of_le HG.out k2.size)
  have Z1 := Lib.hid (one_rul (w := w2) wkZ rfl)
  clear S0 HG R2 R1 B1 k2
  go_wp2_with fail
  refine (of_bad _ 1 1 [69] 2000 [wkZ] 10 _ Z1.out sm2 (by simp) (Lib.hid wk13_ze) (by decide)).mono ?_
  rintro e w3 ⟨rfl, k3⟩
  have k4 : Below w2.heap.size w2 w3 := bstep ((Below.refl w2.heap.size w2).alloc (Nat.le_refl _) _) k3
  have S3 : Hid (WkS w g w3) := Lib.hid ⟨(k4.cell (p := ⟨g, 1, none⟩) HG2.out).trans S2.out.a, (k4.cell (p := ⟨g, 2, none⟩) HG2.out).trans S2.out.b, (k4.cell (p := ⟨g, 5, none⟩) HG2.out).trans S2.out.c, bstep S2.out.g k4⟩
  clear S2 Z1 k3 k4 HG2
  go_upto_region 5 with fail
  refine Hr.Walk.region (R := fun _ x => WkS w g x) (by kernel_rfl) ?_
  obtain ⟨w4, hw4⟩ : ∃ z, w3.drew = z := ⟨_, rfl⟩
  have S1 : Hid (WkS w g w4) := Lib.hid (by rw [← hw4]; exact ⟨S3.out.a, S3.out.b, S3.out.c, below_drewN S3.out.g 1⟩)
  rw [hw4]
  clear hw4 S3
  refine Hr.Walk.one (i := 0) (by kernel_rfl) rfl (fun K hK => ?_)
  have hx := S1.out; have e1 := hx.a; have e2 := hx.b; have e3 := hx.c; clear hx
  go_simp
  refine hK.out _ _ S1.out ?_
  clear hK K
  refine Hr.Walk.one (i := 1) (by kernel_rfl) rfl (fun K hK => ?_)
  have hx := S1.out; have e1 := hx.a; have e2 := hx.b; have e3 := hx.c; clear hx
  go_simp
  refine hK.out _ _ S1.out ?_
  clear hK K
  refine Hr.Walk.one (i := 2) (by kernel_rfl) rfl (fun K hK => ?_)
  have hx := S1.out; have e1 := hx.a; have e2 := hx.b; have e3 := hx.c; clear hx
  go_simp
  refine hK.out _ _ S1.out ?_
  clear hK K
  refine Hr.Walk.one (i := 3) (by kernel_rfl) rfl (fun K hK => ?_)
  have hx := S1.out; have e1 := hx.a; have e2 := hx.b; have e3 := hx.c; clear hx
  go_simp
  refine hK.out _ _ S1.out ?_
  clear hK K
  refine Hr.Walk.one (i := 4) (by kernel_rfl) rfl (fun K hK => ?_)
  have hx := S1.out; have e1 := hx.a; have e2 := hx.b; have e3 := hx.c; clear hx
  go_simp
  refine hK.out _ _ S1.out ?_
  clear hK K
  refine Hr.Walk.one (i := 5) (by kernel_rfl) rfl (fun K hK => ?_)
  have hx := S1.out; have e1 := hx.a; have e2 := hx.b; have e3 := hx.c; clear hx
  go_simp
  refine hK.out _ _ S1.out ?_
  clear hK K
  refine Hr.Walk.one (i := 6) (by kernel_rfl) rfl (fun K hK => ?_)
  have hx := S1.out; have e1 := hx.a; have e2 := hx.b; have e3 := hx.c; clear hx
  go_simp
  refine hK.out _ _ S1.out ?_
  clear hK K
  refine Hr.Walk.one (i := 7) (by kernel_rfl) rfl (fun K hK => ?_)
  have hx := S1.out; have e1 := hx.a; have e2 := hx.b; have e3 := hx.c; clear hx
  go_simp
  refine hK.out _ _ S1.out ?_
  clear hK K
  refine Hr.Walk.one (i := 8) (by kernel_rfl) rfl (fun K hK => ?_)
  have hx := S1.out; have e1 := hx.a; have e2 := hx.b; have e3 := hx.c; clear hx
  go_simp
  refine hK.out _ _ S1.out ?_
  clear hK K
  refine Hr.Walk.one (i := 9) (by kernel_rfl) rfl (fun K hK => ?_)
  have hx := S1.out; have e1 := hx.a; have e2 := hx.b; have e3 := hx.c; clear hx
  go_simp
  refine hK.out _ _ S1.out ?_
  clear hK K
  refine Hr.Walk.one (i := 10) (by kernel_rfl) rfl (fun K hK => ?_)
  have hx := S1.out; have e1 := hx.a; have e2 := hx.b; have e3 := hx.c; clear hx
  go_simp
  refine hK.out _ _ S1.out ?_
  clear hK K
  refine Hr.Walk.one (i := 11) (by kernel_rfl) rfl (fun K hK => ?_)
  have hx := S1.out; have e1 := hx.a; have e2 := hx.b; have e3 := hx.c; clear hx
  go_simp
  refine hK.out _ _ S1.out ?_
  clear hK K
  refine Hr.Walk.one (i := 12) (by kernel_rfl) rfl (fun K hK => ?_)
  have hx := S1.out; have e1 := hx.a; have e2 := hx.b; have e3 := hx.c; clear hx
  go_simp
  refine hK.out _ _ S1.out ?_
  clear hK K
  refine Hr.Walk.one (i := 13) (by kernel_rfl) rfl (fun K hK => ?_)
  have hx := S1.out; have e1 := hx.a; have e2 := hx.b; have e3 := hx.c; clear hx
  go_simp
  refine hK.out _ _ S1.out ?_
  clear hK K
  refine Hr.Walk.one (i := 14) (by kernel_rfl) rfl (fun K hK => ?_)
  have hx := S1.out; have e1 := hx.a; have e2 := hx.b; have e3 := hx.c; clear hx
  go_simp
  refine hK.out _ _ S1.out ?_
  clear hK K
  refine Hr.Walk.take (i := 15) (v := ?vwk15) (fun x => WkS w g x) (fun _ => True) rfl (by kernel_rfl) (by kernel_rfl) (by kernel_rfl) (fun _ _ _ h => h) (fun _ _ _ _ _ _ => trivial) (fun _ _ _ h => h) (fun _ _ h => h) trivial (Or.inl ⟨by rfl, ?hywk15⟩) S1.out S1.out ?restwk15
  case hywk15 => intro x hx; have e1 := hx.a; have e2 := hx.b; have e3 := hx.c; clear hx; go_simp; try with_reducible rfl
  (try go_simp)
  refine Hr.Walk.take (i := 16) (v := ?vwk16) (fun x => WkS w g x) (fun _ => True) rfl (by kernel_rfl) (by kernel_rfl) (by kernel_rfl) (fun _ _ _ h => h) (fun _ _ _ _ _ _ => trivial) (fun _ _ _ h => h) (fun _ _ h => h) trivial (Or.inl ⟨by rfl, ?hywk16⟩) S1.out S1.out ?restwk16
  case hywk16 => intro x hx; have e1 := hx.a; have e2 := hx.b; have e3 := hx.c; clear hx; go_simp; try with_reducible rfl
  (try go_simp)
  refine Hr.Walk.take (i := 17) (v := ?vwk17) (fun x => WkS w g x) (fun _ => True) rfl (by kernel_rfl) (by kernel_rfl) (by kernel_rfl) (fun _ _ _ h => h) (fun _ _ _ _ _ _ => trivial) (fun _ _ _ h => h) (fun _ _ h => h) trivial (Or.inl ⟨by rfl, ?hywk17⟩) S1.out S1.out ?restwk17
  case hywk17 => intro x hx; have e1 := hx.a; have e2 := hx.b; have e3 := hx.c; clear hx; go_simp; try with_reducible rfl
  (try go_simp)
  refine Hr.Walk.take (i := 18) (v := ?vwk18) (fun x => WkS w g x) (fun _ => True) rfl (by kernel_rfl) (by kernel_rfl) (by kernel_rfl) (fun _ _ _ h => h) (fun _ _ _ _ _ _ => trivial) (fun _ _ _ h => h) (fun _ _ h => h) trivial (Or.inl ⟨by rfl, ?hywk18⟩) S1.out S1.out ?restwk18
  case hywk18 => intro x hx; have e1 := hx.a; have e2 := hx.b; have e3 := hx.c; clear hx; go_simp; try with_reducible rfl
  (try go_simp)
  refine Hr.Walk.one (i := 19) (by kernel_rfl) rfl (fun K hK => ?_)
  have hx := S1.out; have e1 := hx.a; have e2 := hx.b; have e3 := hx.c; clear hx
  go_simp
  refine hK.out _ _ S1.out ?_
  clear hK K
  refine Hr.Walk.one (i := 20) (by kernel_rfl) rfl (fun K hK => ?_)
  have hx := S1.out; have e1 := hx.a; have e2 := hx.b; have e3 := hx.c; clear hx
  go_simp
  refine hK.out _ _ S1.out ?_
  clear hK K
  refine Hr.Walk.one (i := 21) (by kernel_rfl) rfl (fun K hK => ?_)
  have hx := S1.out; have e1 := hx.a; have e2 := hx.b; have e3 := hx.c; clear hx
  go_simp
  refine hK.out _ _ S1.out ?_
  clear hK K
  refine Hr.Walk.one (i := 22) (by kernel_rfl) rfl (fun K hK => ?_)
  have hx := S1.out; have e1 := hx.a; have e2 := hx.b; have e3 := hx.c; clear hx
  go_simp
  refine hK.out _ _ S1.out ?_
  clear hK K
  refine Hr.Walk.one (i := 23) (by kernel_rfl) rfl (fun K hK => ?_)
  have hx := S1.out; have e1 := hx.a; have e2 := hx.b; have e3 := hx.c; clear hx
  go_simp
  refine hK.out _ _ S1.out ?_
  clear hK K
  refine Hr.Walk.one (i := 24) (by kernel_rfl) rfl (fun K hK => ?_)
  have hx := S1.out; have e1 := hx.a; have e2 := hx.b; have e3 := hx.c; clear hx
  go_simp
  refine hK.out _ _ S1.out ?_
  clear hK K
  refine Hr.Walk.one (i := 25) (by kernel_rfl) rfl (fun K hK => ?_)
  have hx := S1.out; have e1 := hx.a; have e2 := hx.b; have e3 := hx.c; clear hx
  go_simp
  refine hK.out _ _ S1.out ?_
  clear hK K
  refine Hr.Walk.one (i := 26) (by kernel_rfl) rfl (fun K hK => ?_)
  have hx := S1.out; have e1 := hx.a; have e2 := hx.b; have e3 := hx.c; clear hx
  go_simp
  refine hK.out _ _ S1.out ?_
  clear hK K
  refine Hr.Walk.one (i := 27) (by kernel_rfl) rfl (fun K hK => ?_)
  have hx := S1.out; have e1 := hx.a; have e2 := hx.b; have e3 := hx.c; clear hx
  go_simp
  refine hK.out _ _ S1.out ?_
  clear hK K
  refine Hr.Walk.one (i := 28) (by kernel_rfl) rfl (fun K hK => ?_)
  have hx := S1.out; have e1 := hx.a; have e2 := hx.b; have e3 := hx.c; clear hx
  go_simp
  refine hK.out _ _ S1.out ?_
  clear hK K
  refine Hr.Walk.one (i := 29) (by kernel_rfl) rfl (fun K hK => ?_)
  have hx := S1.out; have e1 := hx.a; have e2 := hx.b; have e3 := hx.c; clear hx
  go_simp
  refine hK.out _ _ S1.out ?_
  clear hK K
  refine Hr.Walk.one (i := 30) (by kernel_rfl) rfl (fun K hK => ?_)
  have hx := S1.out; have e1 := hx.a; have e2 := hx.b; have e3 := hx.c; clear hx
  go_simp
  refine hK.out _ _ S1.out ?_
  clear hK K
  refine Hr.Walk.one (i := 31) (by kernel_rfl) rfl (fun K hK => ?_)
  have hx := S1.out; have e1 := hx.a; have e2 := hx.b; have e3 := hx.c; clear hx
  go_simp
  refine hK.out _ _ S1.out ?_
  clear hK K
  refine Hr.Walk.one (i := 32) (by kernel_rfl) rfl (fun K hK => ?_)
  have hx := S1.out; have e1 := hx.a; have e2 := hx.b; have e3 := hx.c; clear hx
  go_simp
  refine hK.out _ _ S1.out ?_
  clear hK K
  refine Hr.Walk.one (i := 33) (by kernel_rfl) rfl (fun K hK => ?_)
  have hx := S1.out; have e1 := hx.a; have e2 := hx.b; have e3 := hx.c; clear hx
  go_simp
  refine hK.out _ _ S1.out ?_
  clear hK K
  refine Hr.Walk.one (i := 34) (by kernel_rfl) rfl (fun K hK => ?_)
  have hx := S1.out; have e1 := hx.a; have e2 := hx.b; have e3 := hx.c; clear hx
  go_simp
  refine hK.out _ _ S1.out ?_
  clear hK K
  refine Hr.Walk.one (i := 35) (by kernel_rfl) rfl (fun K hK => ?_)
  have hx := S1.out; have e1 := hx.a; have e2 := hx.b; have e3 := hx.c; clear hx
  go_simp
  refine hK.out _ _ S1.out ?_
  clear hK K
  refine Hr.Walk.one (i := 36) (by kernel_rfl) rfl (fun K hK => ?_)
  have hx := S1.out; have e1 := hx.a; have e2 := hx.b; have e3 := hx.c; clear hx
  go_simp
  refine hK.out _ _ S1.out ?_
  clear hK K
  refine Hr.Walk.one (i := 37) (by kernel_rfl) rfl (fun K hK => ?_)
  have hx := S1.out; have e1 := hx.a; have e2 := hx.b; have e3 := hx.c; clear hx
  go_simp
  refine hK.out _ _ S1.out ?_
  clear hK K
  refine Hr.Walk.one (i := 38) (by kernel_rfl) rfl (fun K hK => ?_)
  have hx := S1.out; have e1 := hx.a; have e2 := hx.b; have e3 := hx.c; clear hx
  go_simp
  refine hK.out _ _ S1.out ?_
  clear hK K
  refine Hr.Walk.done (by kernel_rfl) ?_ _
  go_wp2
  go_ret
  exact ⟨rfl, S1.out.g⟩
end Ons
end Go.Proofs.YthefgagmjamdkaaDoor
