/-
  Contracts of onset's laws: Heavy, Right. (Written by gen/gen_onsd.py.)
-/
import Derived.Test.YthefgagmjamdkaaDoorOnsB
import Derived.Test.YthefgagmjamdkaaDoorOnsC
import Derived.Test.YthefgagmjamdkaaDoorBdCl
namespace Go.Proofs.YthefgagmjamdkaaDoor
open Go.RowKit
namespace Ons
open Rul Rs Cel
structure HvS (w : World) (b o : Nat) (vs : List Value) (x : World) : Prop where
  r : x.rangeAt b o vs
  g : Below w.heap.size w x
/-- What is played is not heavy. -/
def Light (L : List RV) : Prop := L.length ≤ 300 ∧ ∀ r ∈ L, r.nm.length ≤ 200 ∧ r.lt.length ≤ 200
set_option maxHeartbeats 3200000 in
set_option maxRecDepth 100000 in
theorem hv_big (a : Option Addr) (n c : Nat) (w : World) (h : 300 < n) (hn : n ≤ maxLen) :
    Calls Tryd.prog 7 #[.slice a n c] w fun x w' => x = .returned (.bool true) ∧ Below w.heap.size w w' := by
  unfold maxLen at hn
  go_enter Tryd.func7, Tryd.ntmps7
  go_wp2
  go_ret
  exact ⟨rfl, Below.refl _ _⟩
def HvQ (L : List RV) (e : Ending) : Prop := ∃ b : Bool, e = .returned (.bool b) ∧ (b = false → Light L)
theorem HvQ.yes (L : List RV) : HvQ L (.returned (.bool true)) := ⟨true, rfl, fun h => by cases h⟩
theorem HvQ.any {L : List RV} (h : Light L) (b : Bool) : HvQ L (.returned (.bool b)) := ⟨b, rfl, fun _ => h⟩

set_option maxHeartbeats 25600000 in
set_option maxRecDepth 100000 in
theorem hv_row (b off c : Nat) (L : List RV) (w : World) (hbl : b < w.heap.size) (hp : Hid (∀ (j : Nat) (hj : j < L.length), w.rangeAt b (off + j * 11) (rvC L[j]))) (hlen : L.length ≤ 300) (hbd : Hid (∀ r ∈ L, r.nm.length ≤ maxLen ∧ r.lt.length ≤ maxLen)) :
    Calls Tryd.prog 7 #[.slice (some ⟨b, off, none⟩) L.length c] w fun x w' => HvQ L x ∧ Below w.heap.size w w' := by
  obtain ⟨N, hN⟩ : ∃ N, L.length = N := ⟨_, rfl⟩
  rw [hN] at hlen ⊢
  have HN := Lib.hid hN
  clear hN
  go_enter Tryd.func7, Tryd.ntmps7
  go_wp2
  go_loopw [3, 4] (fun nv iv wr => ∃ (k : Nat) (n : Int), k ≤ N ∧ nv = .int .i64 n ∧ iv = .int .i64 k ∧ Hid (∀ r ∈ L.take k, r.nm.length ≤ 200 ∧ r.lt.length ≤ 200) ∧ Hid (Below w.heap.size w wr)) (fun _ i _ => N - (intOf i).toNat)
  case atStart => exact ⟨0, 0, Nat.zero_le _, rfl, rfl, Lib.hid (by simp), Lib.hid (Below.refl _ _)⟩
  case round =>
    obtain ⟨k, n, hk, rfl, rfl, hall, HB⟩ := hrel
    obtain ⟨wo, rfl⟩ : ∃ wo : World, wo = wr := ⟨_, rfl⟩
    by_cases hlt : k < N
    · have hkp : k < L.length := by rw [HN.out]; exact hlt
      have r0 := range_below hbl (hp.out k hkp) HB.out
      obtain ⟨r, hr⟩ : ∃ r, L[k]'hkp = r := ⟨_, rfl⟩
      rw [hr] at r0
      have HNX : Hid (r.nm.length ≤ 200 ∧ r.lt.length ≤ 200 → ∀ r ∈ L.take (k + 1), r.nm.length ≤ 200 ∧ r.lt.length ≤ 200) := Lib.hid (fun q x hx => by
        rw [List.take_succ_eq_append_getElem hkp, List.mem_append] at hx
        rcases hx with hx | hx
        · exact hall.out x hx
        · rw [List.mem_singleton] at hx; rw [hx, hr]; exact q)
      obtain ⟨bn, bl⟩ := hbd.out r (hr ▸ List.getElem_mem hkp)
      clear hr hkp hall
      obtain ⟨nm, fr, tu, mo, kk, vv, dd, nn, cc, sv, lt⟩ := r
      simp only at bn bl
      unfold maxLen at bn bl
      have S0 : Hid (HvS w b (off + k * 11) [.string ⟨nm.toArray⟩, .int .i64 fr, .int .i64 tu, .int .i64 mo, .int .i64 kk, .int .i64 vv, .int .i64 dd, .int .i64 nn, .int .i64 cc, .int .i64 sv, .string ⟨lt.toArray⟩] wo) := Lib.hid ⟨r0, HB.out⟩
      have c0 : wo.cell? ⟨b, off + k * 11, none⟩ = some (.string ⟨nm.toArray⟩) := S0.out.r 0 _ rfl
      have c10 := S0.out.r 10 _ rfl
      clear r0
      by_cases g1 : 200 < nm.length
      · go_wp2
        go_ret
        exact ⟨HvQ.yes L, HB.out⟩
      by_cases g2 : 200 < lt.length
      · go_wp2
        go_ret
        exact ⟨HvQ.yes L, HB.out⟩
      have HNX2 := Lib.hid (HNX.out ⟨by show nm.length ≤ 200; omega, by show lt.length ≤ 200; omega⟩)
      clear HNX
      go_upto_region 9 with fail
      clear c0 c10 g1 g2 bn bl
      obtain ⟨q1, hq1⟩ : ∃ q, decide (0 < IntKind.i64.wrap (tu - fr)) = q := ⟨_, rfl⟩
      obtain ⟨q2, hq2⟩ : ∃ q, decide (-20000 < fr) = q := ⟨_, rfl⟩
      obtain ⟨q3, hq3⟩ : ∃ q, decide (tu < 20000) = q := ⟨_, rfl⟩
      cases q1 with
      | false =>
        refine Hr.Walk.region (R := fun _ x => HvS w b (off + k * 11) [.string ⟨nm.toArray⟩, .int .i64 fr, .int .i64 tu, .int .i64 mo, .int .i64 kk, .int .i64 vv, .int .i64 dd, .int .i64 nn, .int .i64 cc, .int .i64 sv, .string ⟨lt.toArray⟩] x) (by kernel_rfl) ?_
        obtain ⟨w1, hw1⟩ : ∃ z, wo.drew = z := ⟨_, rfl⟩
        have S1 : Hid (HvS w b (off + k * 11) [.string ⟨nm.toArray⟩, .int .i64 fr, .int .i64 tu, .int .i64 mo, .int .i64 kk, .int .i64 vv, .int .i64 dd, .int .i64 nn, .int .i64 cc, .int .i64 sv, .string ⟨lt.toArray⟩] w1) := Lib.hid (by rw [← hw1]; exact ⟨S0.out.r, below_drewN S0.out.g 1⟩)
        rw [hw1]
        clear hw1
        refine Hr.Walk.take (i := 0) (v := ?vc00) (fun x => HvS w b (off + k * 11) [.string ⟨nm.toArray⟩, .int .i64 fr, .int .i64 tu, .int .i64 mo, .int .i64 kk, .int .i64 vv, .int .i64 dd, .int .i64 nn, .int .i64 cc, .int .i64 sv, .string ⟨lt.toArray⟩] x) (fun _ => True) rfl (by kernel_rfl) (by kernel_rfl) (by kernel_rfl) (fun _ _ _ h => h) (fun _ _ _ _ _ _ => trivial) (fun _ _ _ h => h) (fun _ _ h => h) trivial (Or.inl ⟨by rfl, ?hyc00⟩) S1.out S1.out ?restc00
        case hyc00 => intro x hx; have e1 := hx.r 1 _ rfl; have e2 := hx.r 2 _ rfl; clear hx; go_simp; try with_reducible rfl
        (try go_simp)
        refine Hr.Walk.take (i := 1) (v := ?vc01) (fun x => HvS w b (off + k * 11) [.string ⟨nm.toArray⟩, .int .i64 fr, .int .i64 tu, .int .i64 mo, .int .i64 kk, .int .i64 vv, .int .i64 dd, .int .i64 nn, .int .i64 cc, .int .i64 sv, .string ⟨lt.toArray⟩] x) (fun _ => True) rfl (by kernel_rfl) (by kernel_rfl) (by kernel_rfl) (fun _ _ _ h => h) (fun _ _ _ _ _ _ => trivial) (fun _ _ _ h => h) (fun _ _ h => h) trivial (Or.inl ⟨by rfl, ?hyc01⟩) S1.out S1.out ?restc01
        case hyc01 => intro x hx; have e1 := hx.r 1 _ rfl; have e2 := hx.r 2 _ rfl; clear hx; go_simp; try with_reducible rfl
        (try go_simp)
        refine Hr.Walk.take (i := 2) (v := ?vc02) (fun x => HvS w b (off + k * 11) [.string ⟨nm.toArray⟩, .int .i64 fr, .int .i64 tu, .int .i64 mo, .int .i64 kk, .int .i64 vv, .int .i64 dd, .int .i64 nn, .int .i64 cc, .int .i64 sv, .string ⟨lt.toArray⟩] x) (fun _ => True) rfl (by kernel_rfl) (by kernel_rfl) (by kernel_rfl) (fun _ _ _ h => h) (fun _ _ _ _ _ _ => trivial) (fun _ _ _ h => h) (fun _ _ h => h) trivial (Or.inl ⟨by rfl, ?hyc02⟩) S1.out S1.out ?restc02
        case hyc02 => intro x hx; have e1 := hx.r 1 _ rfl; have e2 := hx.r 2 _ rfl; clear hx; go_simp; try with_reducible rfl
        (try go_simp)
        refine Hr.Walk.take (i := 3) (v := ?vc03) (fun x => HvS w b (off + k * 11) [.string ⟨nm.toArray⟩, .int .i64 fr, .int .i64 tu, .int .i64 mo, .int .i64 kk, .int .i64 vv, .int .i64 dd, .int .i64 nn, .int .i64 cc, .int .i64 sv, .string ⟨lt.toArray⟩] x) (fun _ => True) rfl (by kernel_rfl) (by kernel_rfl) (by kernel_rfl) (fun _ _ _ h => h) (fun _ _ _ _ _ _ => trivial) (fun _ _ _ h => h) (fun _ _ h => h) trivial (Or.inl ⟨by rfl, ?hyc03⟩) S1.out S1.out ?restc03
        case hyc03 => intro x hx; have e1 := hx.r 1 _ rfl; have e2 := hx.r 2 _ rfl; clear hx; go_simp; try with_reducible rfl
        (try go_simp)
        refine Hr.Walk.take (i := 4) (v := ?vc04) (fun x => HvS w b (off + k * 11) [.string ⟨nm.toArray⟩, .int .i64 fr, .int .i64 tu, .int .i64 mo, .int .i64 kk, .int .i64 vv, .int .i64 dd, .int .i64 nn, .int .i64 cc, .int .i64 sv, .string ⟨lt.toArray⟩] x) (fun _ => True) rfl (by kernel_rfl) (by kernel_rfl) (by kernel_rfl) (fun _ _ _ h => h) (fun _ _ _ _ _ _ => trivial) (fun _ _ _ h => h) (fun _ _ h => h) trivial (Or.inl ⟨by rfl, ?hyc04⟩) S1.out S1.out ?restc04
        case hyc04 => intro x hx; have e1 := hx.r 1 _ rfl; have e2 := hx.r 2 _ rfl; clear hx; go_simp; try with_reducible rfl
        (try go_simp)
        refine Hr.Walk.take (i := 5) (v := ?vc05) (fun x => HvS w b (off + k * 11) [.string ⟨nm.toArray⟩, .int .i64 fr, .int .i64 tu, .int .i64 mo, .int .i64 kk, .int .i64 vv, .int .i64 dd, .int .i64 nn, .int .i64 cc, .int .i64 sv, .string ⟨lt.toArray⟩] x) (fun _ => True) rfl (by kernel_rfl) (by kernel_rfl) (by kernel_rfl) (fun _ _ _ h => h) (fun _ _ _ _ _ _ => trivial) (fun _ _ _ h => h) (fun _ _ h => h) trivial (Or.inl ⟨by rfl, ?hyc05⟩) S1.out S1.out ?restc05
        case hyc05 => intro x hx; have e1 := hx.r 1 _ rfl; have e2 := hx.r 2 _ rfl; clear hx; go_simp; try with_reducible rfl
        (try go_simp)
        refine Hr.Walk.one (i := 6) (by kernel_rfl) rfl (fun K hK => ?_)
        have hx := S1.out; have e1 := hx.r 1 _ rfl; have e2 := hx.r 2 _ rfl; clear hx
        go_simp
        refine hK.out _ _ S1.out ?_
        clear hK K
        refine Hr.Walk.one (i := 7) (by kernel_rfl) rfl (fun K hK => ?_)
        have hx := S1.out; have e1 := hx.r 1 _ rfl; have e2 := hx.r 2 _ rfl; clear hx
        go_simp
        refine hK.out _ _ S1.out ?_
        clear hK K
        refine Hr.Walk.one (i := 8) (by kernel_rfl) rfl (fun K hK => ?_)
        have hx := S1.out; have e1 := hx.r 1 _ rfl; have e2 := hx.r 2 _ rfl; clear hx
        go_simp
        refine hK.out _ _ S1.out ?_
        clear hK K
        refine Hr.Walk.one (i := 9) (by kernel_rfl) rfl (fun K hK => ?_)
        have hx := S1.out; have e1 := hx.r 1 _ rfl; have e2 := hx.r 2 _ rfl; clear hx
        go_simp
        refine hK.out _ _ S1.out ?_
        clear hK K
        refine Hr.Walk.one (i := 10) (by kernel_rfl) rfl (fun K hK => ?_)
        have hx := S1.out; have e1 := hx.r 1 _ rfl; have e2 := hx.r 2 _ rfl; clear hx
        go_simp
        refine hK.out _ _ S1.out ?_
        clear hK K
        refine Hr.Walk.one (i := 11) (by kernel_rfl) rfl (fun K hK => ?_)
        have hx := S1.out; have e1 := hx.r 1 _ rfl; have e2 := hx.r 2 _ rfl; clear hx
        go_simp
        refine hK.out _ _ S1.out ?_
        clear hK K
        refine Hr.Walk.one (i := 12) (by kernel_rfl) rfl (fun K hK => ?_)
        have hx := S1.out; have e1 := hx.r 1 _ rfl; have e2 := hx.r 2 _ rfl; clear hx
        go_simp
        refine hK.out _ _ S1.out ?_
        clear hK K
        refine Hr.Walk.take (i := 13) (v := undef) (fun x => HvS w b (off + k * 11) [.string ⟨nm.toArray⟩, .int .i64 fr, .int .i64 tu, .int .i64 mo, .int .i64 kk, .int .i64 vv, .int .i64 dd, .int .i64 nn, .int .i64 cc, .int .i64 sv, .string ⟨lt.toArray⟩] x) (fun _ => True) rfl (by kernel_rfl) (by kernel_rfl) (by kernel_rfl) (fun _ _ _ h => h) (fun _ _ _ _ _ _ => trivial) (fun _ _ _ h => h) (fun _ _ h => h) trivial (Or.inr ⟨by rfl, rfl⟩) S1.out S1.out ?_
        (try go_simp)
        refine Hr.Walk.one (i := 14) (by kernel_rfl) rfl (fun K hK => ?_)
        have hx := S1.out; have e1 := hx.r 1 _ rfl; have e2 := hx.r 2 _ rfl; clear hx
        go_simp
        refine hK.out _ _ S1.out ?_
        clear hK K
        refine Hr.Walk.one (i := 15) (by kernel_rfl) rfl (fun K hK => ?_)
        have hx := S1.out; have e1 := hx.r 1 _ rfl; have e2 := hx.r 2 _ rfl; clear hx
        go_simp
        refine hK.out _ _ S1.out ?_
        clear hK K
        refine Hr.Walk.one (i := 16) (by kernel_rfl) rfl (fun K hK => ?_)
        have hx := S1.out; have e1 := hx.r 1 _ rfl; have e2 := hx.r 2 _ rfl; clear hx
        go_simp
        refine hK.out _ _ S1.out ?_
        clear hK K
        refine Hr.Walk.one (i := 17) (by kernel_rfl) rfl (fun K hK => ?_)
        have hx := S1.out; have e1 := hx.r 1 _ rfl; have e2 := hx.r 2 _ rfl; clear hx
        go_simp
        refine hK.out _ _ S1.out ?_
        clear hK K
        refine Hr.Walk.one (i := 18) (by kernel_rfl) rfl (fun K hK => ?_)
        have hx := S1.out; have e1 := hx.r 1 _ rfl; have e2 := hx.r 2 _ rfl; clear hx
        go_simp
        refine hK.out _ _ S1.out ?_
        clear hK K
        refine Hr.Walk.one (i := 19) (by kernel_rfl) rfl (fun K hK => ?_)
        have hx := S1.out; have e1 := hx.r 1 _ rfl; have e2 := hx.r 2 _ rfl; clear hx
        go_simp
        refine hK.out _ _ S1.out ?_
        clear hK K
        refine Hr.Walk.one (i := 20) (by kernel_rfl) rfl (fun K hK => ?_)
        have hx := S1.out; have e1 := hx.r 1 _ rfl; have e2 := hx.r 2 _ rfl; clear hx
        go_simp
        refine hK.out _ _ S1.out ?_
        clear hK K
        refine Hr.Walk.take (i := 21) (v := undef) (fun x => HvS w b (off + k * 11) [.string ⟨nm.toArray⟩, .int .i64 fr, .int .i64 tu, .int .i64 mo, .int .i64 kk, .int .i64 vv, .int .i64 dd, .int .i64 nn, .int .i64 cc, .int .i64 sv, .string ⟨lt.toArray⟩] x) (fun _ => True) rfl (by kernel_rfl) (by kernel_rfl) (by kernel_rfl) (fun _ _ _ h => h) (fun _ _ _ _ _ _ => trivial) (fun _ _ _ h => h) (fun _ _ h => h) trivial (Or.inr ⟨by rfl, rfl⟩) S1.out S1.out ?_
        (try go_simp)
        refine Hr.Walk.one (i := 22) (by kernel_rfl) rfl (fun K hK => ?_)
        have hx := S1.out; have e1 := hx.r 1 _ rfl; have e2 := hx.r 2 _ rfl; clear hx
        go_simp
        refine hK.out _ _ S1.out ?_
        clear hK K
        refine Hr.Walk.one (i := 23) (by kernel_rfl) rfl (fun K hK => ?_)
        have hx := S1.out; have e1 := hx.r 1 _ rfl; have e2 := hx.r 2 _ rfl; clear hx
        go_simp
        refine hK.out _ _ S1.out ?_
        clear hK K
        refine Hr.Walk.one (i := 24) (by kernel_rfl) rfl (fun K hK => ?_)
        have hx := S1.out; have e1 := hx.r 1 _ rfl; have e2 := hx.r 2 _ rfl; clear hx
        go_simp
        refine hK.out _ _ S1.out ?_
        clear hK K
        refine Hr.Walk.one (i := 25) (by kernel_rfl) rfl (fun K hK => ?_)
        have hx := S1.out; have e1 := hx.r 1 _ rfl; have e2 := hx.r 2 _ rfl; clear hx
        go_simp
        refine hK.out _ _ S1.out ?_
        clear hK K
        refine Hr.Walk.one (i := 26) (by kernel_rfl) rfl (fun K hK => ?_)
        have hx := S1.out; have e1 := hx.r 1 _ rfl; have e2 := hx.r 2 _ rfl; clear hx
        go_simp
        refine hK.out _ _ S1.out ?_
        clear hK K
        refine Hr.Walk.one (i := 27) (by kernel_rfl) rfl (fun K hK => ?_)
        have hx := S1.out; have e1 := hx.r 1 _ rfl; have e2 := hx.r 2 _ rfl; clear hx
        go_simp
        refine hK.out _ _ S1.out ?_
        clear hK K
        refine Hr.Walk.done (by kernel_rfl) ?_ _
        go_wp2
        go_roundw
        case rel => exact ⟨k + 1, n, by omega, rfl, by go_num, HNX2, Lib.hid S1.out.g⟩
        case measure => simp [intOf]; omega
      | true =>
      cases q2 with
      | false =>
        refine Hr.Walk.region (R := fun _ x => HvS w b (off + k * 11) [.string ⟨nm.toArray⟩, .int .i64 fr, .int .i64 tu, .int .i64 mo, .int .i64 kk, .int .i64 vv, .int .i64 dd, .int .i64 nn, .int .i64 cc, .int .i64 sv, .string ⟨lt.toArray⟩] x) (by kernel_rfl) ?_
        obtain ⟨w1, hw1⟩ : ∃ z, wo.drew = z := ⟨_, rfl⟩
        have S1 : Hid (HvS w b (off + k * 11) [.string ⟨nm.toArray⟩, .int .i64 fr, .int .i64 tu, .int .i64 mo, .int .i64 kk, .int .i64 vv, .int .i64 dd, .int .i64 nn, .int .i64 cc, .int .i64 sv, .string ⟨lt.toArray⟩] w1) := Lib.hid (by rw [← hw1]; exact ⟨S0.out.r, below_drewN S0.out.g 1⟩)
        rw [hw1]
        clear hw1
        refine Hr.Walk.take (i := 0) (v := ?vc10) (fun x => HvS w b (off + k * 11) [.string ⟨nm.toArray⟩, .int .i64 fr, .int .i64 tu, .int .i64 mo, .int .i64 kk, .int .i64 vv, .int .i64 dd, .int .i64 nn, .int .i64 cc, .int .i64 sv, .string ⟨lt.toArray⟩] x) (fun _ => True) rfl (by kernel_rfl) (by kernel_rfl) (by kernel_rfl) (fun _ _ _ h => h) (fun _ _ _ _ _ _ => trivial) (fun _ _ _ h => h) (fun _ _ h => h) trivial (Or.inl ⟨by rfl, ?hyc10⟩) S1.out S1.out ?restc10
        case hyc10 => intro x hx; have e1 := hx.r 1 _ rfl; have e2 := hx.r 2 _ rfl; clear hx; go_simp; try with_reducible rfl
        (try go_simp)
        refine Hr.Walk.take (i := 1) (v := ?vc11) (fun x => HvS w b (off + k * 11) [.string ⟨nm.toArray⟩, .int .i64 fr, .int .i64 tu, .int .i64 mo, .int .i64 kk, .int .i64 vv, .int .i64 dd, .int .i64 nn, .int .i64 cc, .int .i64 sv, .string ⟨lt.toArray⟩] x) (fun _ => True) rfl (by kernel_rfl) (by kernel_rfl) (by kernel_rfl) (fun _ _ _ h => h) (fun _ _ _ _ _ _ => trivial) (fun _ _ _ h => h) (fun _ _ h => h) trivial (Or.inl ⟨by rfl, ?hyc11⟩) S1.out S1.out ?restc11
        case hyc11 => intro x hx; have e1 := hx.r 1 _ rfl; have e2 := hx.r 2 _ rfl; clear hx; go_simp; try with_reducible rfl
        (try go_simp)
        refine Hr.Walk.take (i := 2) (v := ?vc12) (fun x => HvS w b (off + k * 11) [.string ⟨nm.toArray⟩, .int .i64 fr, .int .i64 tu, .int .i64 mo, .int .i64 kk, .int .i64 vv, .int .i64 dd, .int .i64 nn, .int .i64 cc, .int .i64 sv, .string ⟨lt.toArray⟩] x) (fun _ => True) rfl (by kernel_rfl) (by kernel_rfl) (by kernel_rfl) (fun _ _ _ h => h) (fun _ _ _ _ _ _ => trivial) (fun _ _ _ h => h) (fun _ _ h => h) trivial (Or.inl ⟨by rfl, ?hyc12⟩) S1.out S1.out ?restc12
        case hyc12 => intro x hx; have e1 := hx.r 1 _ rfl; have e2 := hx.r 2 _ rfl; clear hx; go_simp; try with_reducible rfl
        (try go_simp)
        refine Hr.Walk.take (i := 3) (v := ?vc13) (fun x => HvS w b (off + k * 11) [.string ⟨nm.toArray⟩, .int .i64 fr, .int .i64 tu, .int .i64 mo, .int .i64 kk, .int .i64 vv, .int .i64 dd, .int .i64 nn, .int .i64 cc, .int .i64 sv, .string ⟨lt.toArray⟩] x) (fun _ => True) rfl (by kernel_rfl) (by kernel_rfl) (by kernel_rfl) (fun _ _ _ h => h) (fun _ _ _ _ _ _ => trivial) (fun _ _ _ h => h) (fun _ _ h => h) trivial (Or.inl ⟨by rfl, ?hyc13⟩) S1.out S1.out ?restc13
        case hyc13 => intro x hx; have e1 := hx.r 1 _ rfl; have e2 := hx.r 2 _ rfl; clear hx; go_simp; try with_reducible rfl
        (try go_simp)
        refine Hr.Walk.take (i := 4) (v := ?vc14) (fun x => HvS w b (off + k * 11) [.string ⟨nm.toArray⟩, .int .i64 fr, .int .i64 tu, .int .i64 mo, .int .i64 kk, .int .i64 vv, .int .i64 dd, .int .i64 nn, .int .i64 cc, .int .i64 sv, .string ⟨lt.toArray⟩] x) (fun _ => True) rfl (by kernel_rfl) (by kernel_rfl) (by kernel_rfl) (fun _ _ _ h => h) (fun _ _ _ _ _ _ => trivial) (fun _ _ _ h => h) (fun _ _ h => h) trivial (Or.inl ⟨by rfl, ?hyc14⟩) S1.out S1.out ?restc14
        case hyc14 => intro x hx; have e1 := hx.r 1 _ rfl; have e2 := hx.r 2 _ rfl; clear hx; go_simp; try with_reducible rfl
        (try go_simp)
        refine Hr.Walk.take (i := 5) (v := ?vc15) (fun x => HvS w b (off + k * 11) [.string ⟨nm.toArray⟩, .int .i64 fr, .int .i64 tu, .int .i64 mo, .int .i64 kk, .int .i64 vv, .int .i64 dd, .int .i64 nn, .int .i64 cc, .int .i64 sv, .string ⟨lt.toArray⟩] x) (fun _ => True) rfl (by kernel_rfl) (by kernel_rfl) (by kernel_rfl) (fun _ _ _ h => h) (fun _ _ _ _ _ _ => trivial) (fun _ _ _ h => h) (fun _ _ h => h) trivial (Or.inl ⟨by rfl, ?hyc15⟩) S1.out S1.out ?restc15
        case hyc15 => intro x hx; have e1 := hx.r 1 _ rfl; have e2 := hx.r 2 _ rfl; clear hx; go_simp; try with_reducible rfl
        (try go_simp)
        refine Hr.Walk.one (i := 6) (by kernel_rfl) rfl (fun K hK => ?_)
        have hx := S1.out; have e1 := hx.r 1 _ rfl; have e2 := hx.r 2 _ rfl; clear hx
        go_simp
        refine hK.out _ _ S1.out ?_
        clear hK K
        refine Hr.Walk.one (i := 7) (by kernel_rfl) rfl (fun K hK => ?_)
        have hx := S1.out; have e1 := hx.r 1 _ rfl; have e2 := hx.r 2 _ rfl; clear hx
        go_simp
        refine hK.out _ _ S1.out ?_
        clear hK K
        refine Hr.Walk.one (i := 8) (by kernel_rfl) rfl (fun K hK => ?_)
        have hx := S1.out; have e1 := hx.r 1 _ rfl; have e2 := hx.r 2 _ rfl; clear hx
        go_simp
        refine hK.out _ _ S1.out ?_
        clear hK K
        refine Hr.Walk.one (i := 9) (by kernel_rfl) rfl (fun K hK => ?_)
        have hx := S1.out; have e1 := hx.r 1 _ rfl; have e2 := hx.r 2 _ rfl; clear hx
        go_simp
        refine hK.out _ _ S1.out ?_
        clear hK K
        refine Hr.Walk.one (i := 10) (by kernel_rfl) rfl (fun K hK => ?_)
        have hx := S1.out; have e1 := hx.r 1 _ rfl; have e2 := hx.r 2 _ rfl; clear hx
        go_simp
        refine hK.out _ _ S1.out ?_
        clear hK K
        refine Hr.Walk.one (i := 11) (by kernel_rfl) rfl (fun K hK => ?_)
        have hx := S1.out; have e1 := hx.r 1 _ rfl; have e2 := hx.r 2 _ rfl; clear hx
        go_simp
        refine hK.out _ _ S1.out ?_
        clear hK K
        refine Hr.Walk.one (i := 12) (by kernel_rfl) rfl (fun K hK => ?_)
        have hx := S1.out; have e1 := hx.r 1 _ rfl; have e2 := hx.r 2 _ rfl; clear hx
        go_simp
        refine hK.out _ _ S1.out ?_
        clear hK K
        refine Hr.Walk.take (i := 13) (v := ?vc113) (fun x => HvS w b (off + k * 11) [.string ⟨nm.toArray⟩, .int .i64 fr, .int .i64 tu, .int .i64 mo, .int .i64 kk, .int .i64 vv, .int .i64 dd, .int .i64 nn, .int .i64 cc, .int .i64 sv, .string ⟨lt.toArray⟩] x) (fun _ => True) rfl (by kernel_rfl) (by kernel_rfl) (by kernel_rfl) (fun _ _ _ h => h) (fun _ _ _ _ _ _ => trivial) (fun _ _ _ h => h) (fun _ _ h => h) trivial (Or.inl ⟨by rfl, ?hyc113⟩) S1.out S1.out ?restc113
        case hyc113 => intro x hx; have e1 := hx.r 1 _ rfl; have e2 := hx.r 2 _ rfl; clear hx; go_simp; try with_reducible rfl
        (try go_simp)
        refine Hr.Walk.one (i := 14) (by kernel_rfl) rfl (fun K hK => ?_)
        have hx := S1.out; have e1 := hx.r 1 _ rfl; have e2 := hx.r 2 _ rfl; clear hx
        go_simp
        refine hK.out _ _ S1.out ?_
        clear hK K
        refine Hr.Walk.one (i := 15) (by kernel_rfl) rfl (fun K hK => ?_)
        have hx := S1.out; have e1 := hx.r 1 _ rfl; have e2 := hx.r 2 _ rfl; clear hx
        go_simp
        refine hK.out _ _ S1.out ?_
        clear hK K
        refine Hr.Walk.one (i := 16) (by kernel_rfl) rfl (fun K hK => ?_)
        have hx := S1.out; have e1 := hx.r 1 _ rfl; have e2 := hx.r 2 _ rfl; clear hx
        go_simp
        refine hK.out _ _ S1.out ?_
        clear hK K
        refine Hr.Walk.one (i := 17) (by kernel_rfl) rfl (fun K hK => ?_)
        have hx := S1.out; have e1 := hx.r 1 _ rfl; have e2 := hx.r 2 _ rfl; clear hx
        go_simp
        refine hK.out _ _ S1.out ?_
        clear hK K
        refine Hr.Walk.one (i := 18) (by kernel_rfl) rfl (fun K hK => ?_)
        have hx := S1.out; have e1 := hx.r 1 _ rfl; have e2 := hx.r 2 _ rfl; clear hx
        go_simp
        refine hK.out _ _ S1.out ?_
        clear hK K
        refine Hr.Walk.one (i := 19) (by kernel_rfl) rfl (fun K hK => ?_)
        have hx := S1.out; have e1 := hx.r 1 _ rfl; have e2 := hx.r 2 _ rfl; clear hx
        go_simp
        refine hK.out _ _ S1.out ?_
        clear hK K
        refine Hr.Walk.one (i := 20) (by kernel_rfl) rfl (fun K hK => ?_)
        have hx := S1.out; have e1 := hx.r 1 _ rfl; have e2 := hx.r 2 _ rfl; clear hx
        go_simp
        refine hK.out _ _ S1.out ?_
        clear hK K
        refine Hr.Walk.take (i := 21) (v := undef) (fun x => HvS w b (off + k * 11) [.string ⟨nm.toArray⟩, .int .i64 fr, .int .i64 tu, .int .i64 mo, .int .i64 kk, .int .i64 vv, .int .i64 dd, .int .i64 nn, .int .i64 cc, .int .i64 sv, .string ⟨lt.toArray⟩] x) (fun _ => True) rfl (by kernel_rfl) (by kernel_rfl) (by kernel_rfl) (fun _ _ _ h => h) (fun _ _ _ _ _ _ => trivial) (fun _ _ _ h => h) (fun _ _ h => h) trivial (Or.inr ⟨by rfl, rfl⟩) S1.out S1.out ?_
        (try go_simp)
        refine Hr.Walk.one (i := 22) (by kernel_rfl) rfl (fun K hK => ?_)
        have hx := S1.out; have e1 := hx.r 1 _ rfl; have e2 := hx.r 2 _ rfl; clear hx
        go_simp
        refine hK.out _ _ S1.out ?_
        clear hK K
        refine Hr.Walk.one (i := 23) (by kernel_rfl) rfl (fun K hK => ?_)
        have hx := S1.out; have e1 := hx.r 1 _ rfl; have e2 := hx.r 2 _ rfl; clear hx
        go_simp
        refine hK.out _ _ S1.out ?_
        clear hK K
        refine Hr.Walk.one (i := 24) (by kernel_rfl) rfl (fun K hK => ?_)
        have hx := S1.out; have e1 := hx.r 1 _ rfl; have e2 := hx.r 2 _ rfl; clear hx
        go_simp
        refine hK.out _ _ S1.out ?_
        clear hK K
        refine Hr.Walk.one (i := 25) (by kernel_rfl) rfl (fun K hK => ?_)
        have hx := S1.out; have e1 := hx.r 1 _ rfl; have e2 := hx.r 2 _ rfl; clear hx
        go_simp
        refine hK.out _ _ S1.out ?_
        clear hK K
        refine Hr.Walk.one (i := 26) (by kernel_rfl) rfl (fun K hK => ?_)
        have hx := S1.out; have e1 := hx.r 1 _ rfl; have e2 := hx.r 2 _ rfl; clear hx
        go_simp
        refine hK.out _ _ S1.out ?_
        clear hK K
        refine Hr.Walk.one (i := 27) (by kernel_rfl) rfl (fun K hK => ?_)
        have hx := S1.out; have e1 := hx.r 1 _ rfl; have e2 := hx.r 2 _ rfl; clear hx
        go_simp
        refine hK.out _ _ S1.out ?_
        clear hK K
        refine Hr.Walk.done (by kernel_rfl) ?_ _
        go_wp2
        go_roundw
        case rel => exact ⟨k + 1, n, by omega, rfl, by go_num, HNX2, Lib.hid S1.out.g⟩
        case measure => simp [intOf]; omega
      | true =>
      cases q3 with
      | false =>
        refine Hr.Walk.region (R := fun _ x => HvS w b (off + k * 11) [.string ⟨nm.toArray⟩, .int .i64 fr, .int .i64 tu, .int .i64 mo, .int .i64 kk, .int .i64 vv, .int .i64 dd, .int .i64 nn, .int .i64 cc, .int .i64 sv, .string ⟨lt.toArray⟩] x) (by kernel_rfl) ?_
        obtain ⟨w1, hw1⟩ : ∃ z, wo.drew = z := ⟨_, rfl⟩
        have S1 : Hid (HvS w b (off + k * 11) [.string ⟨nm.toArray⟩, .int .i64 fr, .int .i64 tu, .int .i64 mo, .int .i64 kk, .int .i64 vv, .int .i64 dd, .int .i64 nn, .int .i64 cc, .int .i64 sv, .string ⟨lt.toArray⟩] w1) := Lib.hid (by rw [← hw1]; exact ⟨S0.out.r, below_drewN S0.out.g 1⟩)
        rw [hw1]
        clear hw1
        refine Hr.Walk.take (i := 0) (v := ?vc20) (fun x => HvS w b (off + k * 11) [.string ⟨nm.toArray⟩, .int .i64 fr, .int .i64 tu, .int .i64 mo, .int .i64 kk, .int .i64 vv, .int .i64 dd, .int .i64 nn, .int .i64 cc, .int .i64 sv, .string ⟨lt.toArray⟩] x) (fun _ => True) rfl (by kernel_rfl) (by kernel_rfl) (by kernel_rfl) (fun _ _ _ h => h) (fun _ _ _ _ _ _ => trivial) (fun _ _ _ h => h) (fun _ _ h => h) trivial (Or.inl ⟨by rfl, ?hyc20⟩) S1.out S1.out ?restc20
        case hyc20 => intro x hx; have e1 := hx.r 1 _ rfl; have e2 := hx.r 2 _ rfl; clear hx; go_simp; try with_reducible rfl
        (try go_simp)
        refine Hr.Walk.take (i := 1) (v := ?vc21) (fun x => HvS w b (off + k * 11) [.string ⟨nm.toArray⟩, .int .i64 fr, .int .i64 tu, .int .i64 mo, .int .i64 kk, .int .i64 vv, .int .i64 dd, .int .i64 nn, .int .i64 cc, .int .i64 sv, .string ⟨lt.toArray⟩] x) (fun _ => True) rfl (by kernel_rfl) (by kernel_rfl) (by kernel_rfl) (fun _ _ _ h => h) (fun _ _ _ _ _ _ => trivial) (fun _ _ _ h => h) (fun _ _ h => h) trivial (Or.inl ⟨by rfl, ?hyc21⟩) S1.out S1.out ?restc21
        case hyc21 => intro x hx; have e1 := hx.r 1 _ rfl; have e2 := hx.r 2 _ rfl; clear hx; go_simp; try with_reducible rfl
        (try go_simp)
        refine Hr.Walk.take (i := 2) (v := ?vc22) (fun x => HvS w b (off + k * 11) [.string ⟨nm.toArray⟩, .int .i64 fr, .int .i64 tu, .int .i64 mo, .int .i64 kk, .int .i64 vv, .int .i64 dd, .int .i64 nn, .int .i64 cc, .int .i64 sv, .string ⟨lt.toArray⟩] x) (fun _ => True) rfl (by kernel_rfl) (by kernel_rfl) (by kernel_rfl) (fun _ _ _ h => h) (fun _ _ _ _ _ _ => trivial) (fun _ _ _ h => h) (fun _ _ h => h) trivial (Or.inl ⟨by rfl, ?hyc22⟩) S1.out S1.out ?restc22
        case hyc22 => intro x hx; have e1 := hx.r 1 _ rfl; have e2 := hx.r 2 _ rfl; clear hx; go_simp; try with_reducible rfl
        (try go_simp)
        refine Hr.Walk.take (i := 3) (v := ?vc23) (fun x => HvS w b (off + k * 11) [.string ⟨nm.toArray⟩, .int .i64 fr, .int .i64 tu, .int .i64 mo, .int .i64 kk, .int .i64 vv, .int .i64 dd, .int .i64 nn, .int .i64 cc, .int .i64 sv, .string ⟨lt.toArray⟩] x) (fun _ => True) rfl (by kernel_rfl) (by kernel_rfl) (by kernel_rfl) (fun _ _ _ h => h) (fun _ _ _ _ _ _ => trivial) (fun _ _ _ h => h) (fun _ _ h => h) trivial (Or.inl ⟨by rfl, ?hyc23⟩) S1.out S1.out ?restc23
        case hyc23 => intro x hx; have e1 := hx.r 1 _ rfl; have e2 := hx.r 2 _ rfl; clear hx; go_simp; try with_reducible rfl
        (try go_simp)
        refine Hr.Walk.take (i := 4) (v := ?vc24) (fun x => HvS w b (off + k * 11) [.string ⟨nm.toArray⟩, .int .i64 fr, .int .i64 tu, .int .i64 mo, .int .i64 kk, .int .i64 vv, .int .i64 dd, .int .i64 nn, .int .i64 cc, .int .i64 sv, .string ⟨lt.toArray⟩] x) (fun _ => True) rfl (by kernel_rfl) (by kernel_rfl) (by kernel_rfl) (fun _ _ _ h => h) (fun _ _ _ _ _ _ => trivial) (fun _ _ _ h => h) (fun _ _ h => h) trivial (Or.inl ⟨by rfl, ?hyc24⟩) S1.out S1.out ?restc24
        case hyc24 => intro x hx; have e1 := hx.r 1 _ rfl; have e2 := hx.r 2 _ rfl; clear hx; go_simp; try with_reducible rfl
        (try go_simp)
        refine Hr.Walk.take (i := 5) (v := ?vc25) (fun x => HvS w b (off + k * 11) [.string ⟨nm.toArray⟩, .int .i64 fr, .int .i64 tu, .int .i64 mo, .int .i64 kk, .int .i64 vv, .int .i64 dd, .int .i64 nn, .int .i64 cc, .int .i64 sv, .string ⟨lt.toArray⟩] x) (fun _ => True) rfl (by kernel_rfl) (by kernel_rfl) (by kernel_rfl) (fun _ _ _ h => h) (fun _ _ _ _ _ _ => trivial) (fun _ _ _ h => h) (fun _ _ h => h) trivial (Or.inl ⟨by rfl, ?hyc25⟩) S1.out S1.out ?restc25
        case hyc25 => intro x hx; have e1 := hx.r 1 _ rfl; have e2 := hx.r 2 _ rfl; clear hx; go_simp; try with_reducible rfl
        (try go_simp)
        refine Hr.Walk.one (i := 6) (by kernel_rfl) rfl (fun K hK => ?_)
        have hx := S1.out; have e1 := hx.r 1 _ rfl; have e2 := hx.r 2 _ rfl; clear hx
        go_simp
        refine hK.out _ _ S1.out ?_
        clear hK K
        refine Hr.Walk.one (i := 7) (by kernel_rfl) rfl (fun K hK => ?_)
        have hx := S1.out; have e1 := hx.r 1 _ rfl; have e2 := hx.r 2 _ rfl; clear hx
        go_simp
        refine hK.out _ _ S1.out ?_
        clear hK K
        refine Hr.Walk.one (i := 8) (by kernel_rfl) rfl (fun K hK => ?_)
        have hx := S1.out; have e1 := hx.r 1 _ rfl; have e2 := hx.r 2 _ rfl; clear hx
        go_simp
        refine hK.out _ _ S1.out ?_
        clear hK K
        refine Hr.Walk.one (i := 9) (by kernel_rfl) rfl (fun K hK => ?_)
        have hx := S1.out; have e1 := hx.r 1 _ rfl; have e2 := hx.r 2 _ rfl; clear hx
        go_simp
        refine hK.out _ _ S1.out ?_
        clear hK K
        refine Hr.Walk.one (i := 10) (by kernel_rfl) rfl (fun K hK => ?_)
        have hx := S1.out; have e1 := hx.r 1 _ rfl; have e2 := hx.r 2 _ rfl; clear hx
        go_simp
        refine hK.out _ _ S1.out ?_
        clear hK K
        refine Hr.Walk.one (i := 11) (by kernel_rfl) rfl (fun K hK => ?_)
        have hx := S1.out; have e1 := hx.r 1 _ rfl; have e2 := hx.r 2 _ rfl; clear hx
        go_simp
        refine hK.out _ _ S1.out ?_
        clear hK K
        refine Hr.Walk.one (i := 12) (by kernel_rfl) rfl (fun K hK => ?_)
        have hx := S1.out; have e1 := hx.r 1 _ rfl; have e2 := hx.r 2 _ rfl; clear hx
        go_simp
        refine hK.out _ _ S1.out ?_
        clear hK K
        refine Hr.Walk.take (i := 13) (v := ?vc213) (fun x => HvS w b (off + k * 11) [.string ⟨nm.toArray⟩, .int .i64 fr, .int .i64 tu, .int .i64 mo, .int .i64 kk, .int .i64 vv, .int .i64 dd, .int .i64 nn, .int .i64 cc, .int .i64 sv, .string ⟨lt.toArray⟩] x) (fun _ => True) rfl (by kernel_rfl) (by kernel_rfl) (by kernel_rfl) (fun _ _ _ h => h) (fun _ _ _ _ _ _ => trivial) (fun _ _ _ h => h) (fun _ _ h => h) trivial (Or.inl ⟨by rfl, ?hyc213⟩) S1.out S1.out ?restc213
        case hyc213 => intro x hx; have e1 := hx.r 1 _ rfl; have e2 := hx.r 2 _ rfl; clear hx; go_simp; try with_reducible rfl
        (try go_simp)
        refine Hr.Walk.one (i := 14) (by kernel_rfl) rfl (fun K hK => ?_)
        have hx := S1.out; have e1 := hx.r 1 _ rfl; have e2 := hx.r 2 _ rfl; clear hx
        go_simp
        refine hK.out _ _ S1.out ?_
        clear hK K
        refine Hr.Walk.one (i := 15) (by kernel_rfl) rfl (fun K hK => ?_)
        have hx := S1.out; have e1 := hx.r 1 _ rfl; have e2 := hx.r 2 _ rfl; clear hx
        go_simp
        refine hK.out _ _ S1.out ?_
        clear hK K
        refine Hr.Walk.one (i := 16) (by kernel_rfl) rfl (fun K hK => ?_)
        have hx := S1.out; have e1 := hx.r 1 _ rfl; have e2 := hx.r 2 _ rfl; clear hx
        go_simp
        refine hK.out _ _ S1.out ?_
        clear hK K
        refine Hr.Walk.one (i := 17) (by kernel_rfl) rfl (fun K hK => ?_)
        have hx := S1.out; have e1 := hx.r 1 _ rfl; have e2 := hx.r 2 _ rfl; clear hx
        go_simp
        refine hK.out _ _ S1.out ?_
        clear hK K
        refine Hr.Walk.one (i := 18) (by kernel_rfl) rfl (fun K hK => ?_)
        have hx := S1.out; have e1 := hx.r 1 _ rfl; have e2 := hx.r 2 _ rfl; clear hx
        go_simp
        refine hK.out _ _ S1.out ?_
        clear hK K
        refine Hr.Walk.one (i := 19) (by kernel_rfl) rfl (fun K hK => ?_)
        have hx := S1.out; have e1 := hx.r 1 _ rfl; have e2 := hx.r 2 _ rfl; clear hx
        go_simp
        refine hK.out _ _ S1.out ?_
        clear hK K
        refine Hr.Walk.one (i := 20) (by kernel_rfl) rfl (fun K hK => ?_)
        have hx := S1.out; have e1 := hx.r 1 _ rfl; have e2 := hx.r 2 _ rfl; clear hx
        go_simp
        refine hK.out _ _ S1.out ?_
        clear hK K
        refine Hr.Walk.take (i := 21) (v := ?vc221) (fun x => HvS w b (off + k * 11) [.string ⟨nm.toArray⟩, .int .i64 fr, .int .i64 tu, .int .i64 mo, .int .i64 kk, .int .i64 vv, .int .i64 dd, .int .i64 nn, .int .i64 cc, .int .i64 sv, .string ⟨lt.toArray⟩] x) (fun _ => True) rfl (by kernel_rfl) (by kernel_rfl) (by kernel_rfl) (fun _ _ _ h => h) (fun _ _ _ _ _ _ => trivial) (fun _ _ _ h => h) (fun _ _ h => h) trivial (Or.inl ⟨by rfl, ?hyc221⟩) S1.out S1.out ?restc221
        case hyc221 => intro x hx; have e1 := hx.r 1 _ rfl; have e2 := hx.r 2 _ rfl; clear hx; go_simp; try with_reducible rfl
        (try go_simp)
        refine Hr.Walk.one (i := 22) (by kernel_rfl) rfl (fun K hK => ?_)
        have hx := S1.out; have e1 := hx.r 1 _ rfl; have e2 := hx.r 2 _ rfl; clear hx
        go_simp
        refine hK.out _ _ S1.out ?_
        clear hK K
        refine Hr.Walk.one (i := 23) (by kernel_rfl) rfl (fun K hK => ?_)
        have hx := S1.out; have e1 := hx.r 1 _ rfl; have e2 := hx.r 2 _ rfl; clear hx
        go_simp
        refine hK.out _ _ S1.out ?_
        clear hK K
        refine Hr.Walk.one (i := 24) (by kernel_rfl) rfl (fun K hK => ?_)
        have hx := S1.out; have e1 := hx.r 1 _ rfl; have e2 := hx.r 2 _ rfl; clear hx
        go_simp
        refine hK.out _ _ S1.out ?_
        clear hK K
        refine Hr.Walk.one (i := 25) (by kernel_rfl) rfl (fun K hK => ?_)
        have hx := S1.out; have e1 := hx.r 1 _ rfl; have e2 := hx.r 2 _ rfl; clear hx
        go_simp
        refine hK.out _ _ S1.out ?_
        clear hK K
        refine Hr.Walk.one (i := 26) (by kernel_rfl) rfl (fun K hK => ?_)
        have hx := S1.out; have e1 := hx.r 1 _ rfl; have e2 := hx.r 2 _ rfl; clear hx
        go_simp
        refine hK.out _ _ S1.out ?_
        clear hK K
        refine Hr.Walk.one (i := 27) (by kernel_rfl) rfl (fun K hK => ?_)
        have hx := S1.out; have e1 := hx.r 1 _ rfl; have e2 := hx.r 2 _ rfl; clear hx
        go_simp
        refine hK.out _ _ S1.out ?_
        clear hK K
        refine Hr.Walk.done (by kernel_rfl) ?_ _
        go_wp2
        go_roundw
        case rel => exact ⟨k + 1, n, by omega, rfl, by go_num, HNX2, Lib.hid S1.out.g⟩
        case measure => simp [intOf]; omega
      | true =>
        refine Hr.Walk.region (R := fun _ x => HvS w b (off + k * 11) [.string ⟨nm.toArray⟩, .int .i64 fr, .int .i64 tu, .int .i64 mo, .int .i64 kk, .int .i64 vv, .int .i64 dd, .int .i64 nn, .int .i64 cc, .int .i64 sv, .string ⟨lt.toArray⟩] x) (by kernel_rfl) ?_
        obtain ⟨w1, hw1⟩ : ∃ z, wo.drew = z := ⟨_, rfl⟩
        have S1 : Hid (HvS w b (off + k * 11) [.string ⟨nm.toArray⟩, .int .i64 fr, .int .i64 tu, .int .i64 mo, .int .i64 kk, .int .i64 vv, .int .i64 dd, .int .i64 nn, .int .i64 cc, .int .i64 sv, .string ⟨lt.toArray⟩] w1) := Lib.hid (by rw [← hw1]; exact ⟨S0.out.r, below_drewN S0.out.g 1⟩)
        rw [hw1]
        clear hw1
        refine Hr.Walk.take (i := 0) (v := ?vc30) (fun x => HvS w b (off + k * 11) [.string ⟨nm.toArray⟩, .int .i64 fr, .int .i64 tu, .int .i64 mo, .int .i64 kk, .int .i64 vv, .int .i64 dd, .int .i64 nn, .int .i64 cc, .int .i64 sv, .string ⟨lt.toArray⟩] x) (fun _ => True) rfl (by kernel_rfl) (by kernel_rfl) (by kernel_rfl) (fun _ _ _ h => h) (fun _ _ _ _ _ _ => trivial) (fun _ _ _ h => h) (fun _ _ h => h) trivial (Or.inl ⟨by rfl, ?hyc30⟩) S1.out S1.out ?restc30
        case hyc30 => intro x hx; have e1 := hx.r 1 _ rfl; have e2 := hx.r 2 _ rfl; clear hx; go_simp; try with_reducible rfl
        (try go_simp)
        refine Hr.Walk.take (i := 1) (v := ?vc31) (fun x => HvS w b (off + k * 11) [.string ⟨nm.toArray⟩, .int .i64 fr, .int .i64 tu, .int .i64 mo, .int .i64 kk, .int .i64 vv, .int .i64 dd, .int .i64 nn, .int .i64 cc, .int .i64 sv, .string ⟨lt.toArray⟩] x) (fun _ => True) rfl (by kernel_rfl) (by kernel_rfl) (by kernel_rfl) (fun _ _ _ h => h) (fun _ _ _ _ _ _ => trivial) (fun _ _ _ h => h) (fun _ _ h => h) trivial (Or.inl ⟨by rfl, ?hyc31⟩) S1.out S1.out ?restc31
        case hyc31 => intro x hx; have e1 := hx.r 1 _ rfl; have e2 := hx.r 2 _ rfl; clear hx; go_simp; try with_reducible rfl
        (try go_simp)
        refine Hr.Walk.take (i := 2) (v := ?vc32) (fun x => HvS w b (off + k * 11) [.string ⟨nm.toArray⟩, .int .i64 fr, .int .i64 tu, .int .i64 mo, .int .i64 kk, .int .i64 vv, .int .i64 dd, .int .i64 nn, .int .i64 cc, .int .i64 sv, .string ⟨lt.toArray⟩] x) (fun _ => True) rfl (by kernel_rfl) (by kernel_rfl) (by kernel_rfl) (fun _ _ _ h => h) (fun _ _ _ _ _ _ => trivial) (fun _ _ _ h => h) (fun _ _ h => h) trivial (Or.inl ⟨by rfl, ?hyc32⟩) S1.out S1.out ?restc32
        case hyc32 => intro x hx; have e1 := hx.r 1 _ rfl; have e2 := hx.r 2 _ rfl; clear hx; go_simp; try with_reducible rfl
        (try go_simp)
        refine Hr.Walk.take (i := 3) (v := ?vc33) (fun x => HvS w b (off + k * 11) [.string ⟨nm.toArray⟩, .int .i64 fr, .int .i64 tu, .int .i64 mo, .int .i64 kk, .int .i64 vv, .int .i64 dd, .int .i64 nn, .int .i64 cc, .int .i64 sv, .string ⟨lt.toArray⟩] x) (fun _ => True) rfl (by kernel_rfl) (by kernel_rfl) (by kernel_rfl) (fun _ _ _ h => h) (fun _ _ _ _ _ _ => trivial) (fun _ _ _ h => h) (fun _ _ h => h) trivial (Or.inl ⟨by rfl, ?hyc33⟩) S1.out S1.out ?restc33
        case hyc33 => intro x hx; have e1 := hx.r 1 _ rfl; have e2 := hx.r 2 _ rfl; clear hx; go_simp; try with_reducible rfl
        (try go_simp)
        refine Hr.Walk.take (i := 4) (v := ?vc34) (fun x => HvS w b (off + k * 11) [.string ⟨nm.toArray⟩, .int .i64 fr, .int .i64 tu, .int .i64 mo, .int .i64 kk, .int .i64 vv, .int .i64 dd, .int .i64 nn, .int .i64 cc, .int .i64 sv, .string ⟨lt.toArray⟩] x) (fun _ => True) rfl (by kernel_rfl) (by kernel_rfl) (by kernel_rfl) (fun _ _ _ h => h) (fun _ _ _ _ _ _ => trivial) (fun _ _ _ h => h) (fun _ _ h => h) trivial (Or.inl ⟨by rfl, ?hyc34⟩) S1.out S1.out ?restc34
        case hyc34 => intro x hx; have e1 := hx.r 1 _ rfl; have e2 := hx.r 2 _ rfl; clear hx; go_simp; try with_reducible rfl
        (try go_simp)
        refine Hr.Walk.take (i := 5) (v := ?vc35) (fun x => HvS w b (off + k * 11) [.string ⟨nm.toArray⟩, .int .i64 fr, .int .i64 tu, .int .i64 mo, .int .i64 kk, .int .i64 vv, .int .i64 dd, .int .i64 nn, .int .i64 cc, .int .i64 sv, .string ⟨lt.toArray⟩] x) (fun _ => True) rfl (by kernel_rfl) (by kernel_rfl) (by kernel_rfl) (fun _ _ _ h => h) (fun _ _ _ _ _ _ => trivial) (fun _ _ _ h => h) (fun _ _ h => h) trivial (Or.inl ⟨by rfl, ?hyc35⟩) S1.out S1.out ?restc35
        case hyc35 => intro x hx; have e1 := hx.r 1 _ rfl; have e2 := hx.r 2 _ rfl; clear hx; go_simp; try with_reducible rfl
        (try go_simp)
        refine Hr.Walk.one (i := 6) (by kernel_rfl) rfl (fun K hK => ?_)
        have hx := S1.out; have e1 := hx.r 1 _ rfl; have e2 := hx.r 2 _ rfl; clear hx
        go_simp
        refine hK.out _ _ S1.out ?_
        clear hK K
        refine Hr.Walk.one (i := 7) (by kernel_rfl) rfl (fun K hK => ?_)
        have hx := S1.out; have e1 := hx.r 1 _ rfl; have e2 := hx.r 2 _ rfl; clear hx
        go_simp
        refine hK.out _ _ S1.out ?_
        clear hK K
        refine Hr.Walk.one (i := 8) (by kernel_rfl) rfl (fun K hK => ?_)
        have hx := S1.out; have e1 := hx.r 1 _ rfl; have e2 := hx.r 2 _ rfl; clear hx
        go_simp
        refine hK.out _ _ S1.out ?_
        clear hK K
        refine Hr.Walk.one (i := 9) (by kernel_rfl) rfl (fun K hK => ?_)
        have hx := S1.out; have e1 := hx.r 1 _ rfl; have e2 := hx.r 2 _ rfl; clear hx
        go_simp
        refine hK.out _ _ S1.out ?_
        clear hK K
        refine Hr.Walk.one (i := 10) (by kernel_rfl) rfl (fun K hK => ?_)
        have hx := S1.out; have e1 := hx.r 1 _ rfl; have e2 := hx.r 2 _ rfl; clear hx
        go_simp
        refine hK.out _ _ S1.out ?_
        clear hK K
        refine Hr.Walk.one (i := 11) (by kernel_rfl) rfl (fun K hK => ?_)
        have hx := S1.out; have e1 := hx.r 1 _ rfl; have e2 := hx.r 2 _ rfl; clear hx
        go_simp
        refine hK.out _ _ S1.out ?_
        clear hK K
        refine Hr.Walk.one (i := 12) (by kernel_rfl) rfl (fun K hK => ?_)
        have hx := S1.out; have e1 := hx.r 1 _ rfl; have e2 := hx.r 2 _ rfl; clear hx
        go_simp
        refine hK.out _ _ S1.out ?_
        clear hK K
        refine Hr.Walk.take (i := 13) (v := ?vc313) (fun x => HvS w b (off + k * 11) [.string ⟨nm.toArray⟩, .int .i64 fr, .int .i64 tu, .int .i64 mo, .int .i64 kk, .int .i64 vv, .int .i64 dd, .int .i64 nn, .int .i64 cc, .int .i64 sv, .string ⟨lt.toArray⟩] x) (fun _ => True) rfl (by kernel_rfl) (by kernel_rfl) (by kernel_rfl) (fun _ _ _ h => h) (fun _ _ _ _ _ _ => trivial) (fun _ _ _ h => h) (fun _ _ h => h) trivial (Or.inl ⟨by rfl, ?hyc313⟩) S1.out S1.out ?restc313
        case hyc313 => intro x hx; have e1 := hx.r 1 _ rfl; have e2 := hx.r 2 _ rfl; clear hx; go_simp; try with_reducible rfl
        (try go_simp)
        refine Hr.Walk.one (i := 14) (by kernel_rfl) rfl (fun K hK => ?_)
        have hx := S1.out; have e1 := hx.r 1 _ rfl; have e2 := hx.r 2 _ rfl; clear hx
        go_simp
        refine hK.out _ _ S1.out ?_
        clear hK K
        refine Hr.Walk.one (i := 15) (by kernel_rfl) rfl (fun K hK => ?_)
        have hx := S1.out; have e1 := hx.r 1 _ rfl; have e2 := hx.r 2 _ rfl; clear hx
        go_simp
        refine hK.out _ _ S1.out ?_
        clear hK K
        refine Hr.Walk.one (i := 16) (by kernel_rfl) rfl (fun K hK => ?_)
        have hx := S1.out; have e1 := hx.r 1 _ rfl; have e2 := hx.r 2 _ rfl; clear hx
        go_simp
        refine hK.out _ _ S1.out ?_
        clear hK K
        refine Hr.Walk.one (i := 17) (by kernel_rfl) rfl (fun K hK => ?_)
        have hx := S1.out; have e1 := hx.r 1 _ rfl; have e2 := hx.r 2 _ rfl; clear hx
        go_simp
        refine hK.out _ _ S1.out ?_
        clear hK K
        refine Hr.Walk.one (i := 18) (by kernel_rfl) rfl (fun K hK => ?_)
        have hx := S1.out; have e1 := hx.r 1 _ rfl; have e2 := hx.r 2 _ rfl; clear hx
        go_simp
        refine hK.out _ _ S1.out ?_
        clear hK K
        refine Hr.Walk.one (i := 19) (by kernel_rfl) rfl (fun K hK => ?_)
        have hx := S1.out; have e1 := hx.r 1 _ rfl; have e2 := hx.r 2 _ rfl; clear hx
        go_simp
        refine hK.out _ _ S1.out ?_
        clear hK K
        refine Hr.Walk.one (i := 20) (by kernel_rfl) rfl (fun K hK => ?_)
        have hx := S1.out; have e1 := hx.r 1 _ rfl; have e2 := hx.r 2 _ rfl; clear hx
        go_simp
        refine hK.out _ _ S1.out ?_
        clear hK K
        refine Hr.Walk.take (i := 21) (v := ?vc321) (fun x => HvS w b (off + k * 11) [.string ⟨nm.toArray⟩, .int .i64 fr, .int .i64 tu, .int .i64 mo, .int .i64 kk, .int .i64 vv, .int .i64 dd, .int .i64 nn, .int .i64 cc, .int .i64 sv, .string ⟨lt.toArray⟩] x) (fun _ => True) rfl (by kernel_rfl) (by kernel_rfl) (by kernel_rfl) (fun _ _ _ h => h) (fun _ _ _ _ _ _ => trivial) (fun _ _ _ h => h) (fun _ _ h => h) trivial (Or.inl ⟨by rfl, ?hyc321⟩) S1.out S1.out ?restc321
        case hyc321 => intro x hx; have e1 := hx.r 1 _ rfl; have e2 := hx.r 2 _ rfl; clear hx; go_simp; try with_reducible rfl
        (try go_simp)
        refine Hr.Walk.one (i := 22) (by kernel_rfl) rfl (fun K hK => ?_)
        have hx := S1.out; have e1 := hx.r 1 _ rfl; have e2 := hx.r 2 _ rfl; clear hx
        go_simp
        refine hK.out _ _ S1.out ?_
        clear hK K
        refine Hr.Walk.one (i := 23) (by kernel_rfl) rfl (fun K hK => ?_)
        have hx := S1.out; have e1 := hx.r 1 _ rfl; have e2 := hx.r 2 _ rfl; clear hx
        go_simp
        refine hK.out _ _ S1.out ?_
        clear hK K
        refine Hr.Walk.one (i := 24) (by kernel_rfl) rfl (fun K hK => ?_)
        have hx := S1.out; have e1 := hx.r 1 _ rfl; have e2 := hx.r 2 _ rfl; clear hx
        go_simp
        refine hK.out _ _ S1.out ?_
        clear hK K
        refine Hr.Walk.one (i := 25) (by kernel_rfl) rfl (fun K hK => ?_)
        have hx := S1.out; have e1 := hx.r 1 _ rfl; have e2 := hx.r 2 _ rfl; clear hx
        go_simp
        refine hK.out _ _ S1.out ?_
        clear hK K
        refine Hr.Walk.one (i := 26) (by kernel_rfl) rfl (fun K hK => ?_)
        have hx := S1.out; have e1 := hx.r 1 _ rfl; have e2 := hx.r 2 _ rfl; clear hx
        go_simp
        refine hK.out _ _ S1.out ?_
        clear hK K
        refine Hr.Walk.one (i := 27) (by kernel_rfl) rfl (fun K hK => ?_)
        have hx := S1.out; have e1 := hx.r 1 _ rfl; have e2 := hx.r 2 _ rfl; clear hx
        go_simp
        refine hK.out _ _ S1.out ?_
        clear hK K
        refine Hr.Walk.done (by kernel_rfl) ?_ _
        go_upto_region 10 with fail
        clear S0
        refine Hr.Walk.region (R := fun _ x => HvS w b (off + k * 11) [.string ⟨nm.toArray⟩, .int .i64 fr, .int .i64 tu, .int .i64 mo, .int .i64 kk, .int .i64 vv, .int .i64 dd, .int .i64 nn, .int .i64 cc, .int .i64 sv, .string ⟨lt.toArray⟩] x) (by kernel_rfl) ?_
        obtain ⟨w2, hw2⟩ : ∃ z, w1.drew = z := ⟨_, rfl⟩
        have S2 : Hid (HvS w b (off + k * 11) [.string ⟨nm.toArray⟩, .int .i64 fr, .int .i64 tu, .int .i64 mo, .int .i64 kk, .int .i64 vv, .int .i64 dd, .int .i64 nn, .int .i64 cc, .int .i64 sv, .string ⟨lt.toArray⟩] w2) := Lib.hid (by rw [← hw2]; exact ⟨S1.out.r, below_drewN S1.out.g 1⟩)
        rw [hw2]
        clear hw2
        refine Hr.Walk.take (i := 0) (v := ?vt0) (fun x => HvS w b (off + k * 11) [.string ⟨nm.toArray⟩, .int .i64 fr, .int .i64 tu, .int .i64 mo, .int .i64 kk, .int .i64 vv, .int .i64 dd, .int .i64 nn, .int .i64 cc, .int .i64 sv, .string ⟨lt.toArray⟩] x) (fun _ => True) rfl (by kernel_rfl) (by kernel_rfl) (by kernel_rfl) (fun _ _ _ h => h) (fun _ _ _ _ _ _ => trivial) (fun _ _ _ h => h) (fun _ _ h => h) trivial (Or.inl ⟨by rfl, ?hyt0⟩) S2.out S2.out ?restt0
        case hyt0 => intro x hx; have e1 := hx.r 1 _ rfl; have e2 := hx.r 2 _ rfl; clear hx; go_simp; try with_reducible rfl
        (try go_simp)
        refine Hr.Walk.take (i := 1) (v := ?vt1) (fun x => HvS w b (off + k * 11) [.string ⟨nm.toArray⟩, .int .i64 fr, .int .i64 tu, .int .i64 mo, .int .i64 kk, .int .i64 vv, .int .i64 dd, .int .i64 nn, .int .i64 cc, .int .i64 sv, .string ⟨lt.toArray⟩] x) (fun _ => True) rfl (by kernel_rfl) (by kernel_rfl) (by kernel_rfl) (fun _ _ _ h => h) (fun _ _ _ _ _ _ => trivial) (fun _ _ _ h => h) (fun _ _ h => h) trivial (Or.inl ⟨by rfl, ?hyt1⟩) S2.out S2.out ?restt1
        case hyt1 => intro x hx; have e1 := hx.r 1 _ rfl; have e2 := hx.r 2 _ rfl; clear hx; go_simp; try with_reducible rfl
        (try go_simp)
        refine Hr.Walk.take (i := 2) (v := ?vt2) (fun x => HvS w b (off + k * 11) [.string ⟨nm.toArray⟩, .int .i64 fr, .int .i64 tu, .int .i64 mo, .int .i64 kk, .int .i64 vv, .int .i64 dd, .int .i64 nn, .int .i64 cc, .int .i64 sv, .string ⟨lt.toArray⟩] x) (fun _ => True) rfl (by kernel_rfl) (by kernel_rfl) (by kernel_rfl) (fun _ _ _ h => h) (fun _ _ _ _ _ _ => trivial) (fun _ _ _ h => h) (fun _ _ h => h) trivial (Or.inl ⟨by rfl, ?hyt2⟩) S2.out S2.out ?restt2
        case hyt2 => intro x hx; have e1 := hx.r 1 _ rfl; have e2 := hx.r 2 _ rfl; clear hx; go_simp; try with_reducible rfl
        (try go_simp)
        refine Hr.Walk.take (i := 3) (v := ?vt3) (fun x => HvS w b (off + k * 11) [.string ⟨nm.toArray⟩, .int .i64 fr, .int .i64 tu, .int .i64 mo, .int .i64 kk, .int .i64 vv, .int .i64 dd, .int .i64 nn, .int .i64 cc, .int .i64 sv, .string ⟨lt.toArray⟩] x) (fun _ => True) rfl (by kernel_rfl) (by kernel_rfl) (by kernel_rfl) (fun _ _ _ h => h) (fun _ _ _ _ _ _ => trivial) (fun _ _ _ h => h) (fun _ _ h => h) trivial (Or.inl ⟨by rfl, ?hyt3⟩) S2.out S2.out ?restt3
        case hyt3 => intro x hx; have e1 := hx.r 1 _ rfl; have e2 := hx.r 2 _ rfl; clear hx; go_simp; try with_reducible rfl
        (try go_simp)
        refine Hr.Walk.take (i := 4) (v := ?vt4) (fun x => HvS w b (off + k * 11) [.string ⟨nm.toArray⟩, .int .i64 fr, .int .i64 tu, .int .i64 mo, .int .i64 kk, .int .i64 vv, .int .i64 dd, .int .i64 nn, .int .i64 cc, .int .i64 sv, .string ⟨lt.toArray⟩] x) (fun _ => True) rfl (by kernel_rfl) (by kernel_rfl) (by kernel_rfl) (fun _ _ _ h => h) (fun _ _ _ _ _ _ => trivial) (fun _ _ _ h => h) (fun _ _ h => h) trivial (Or.inl ⟨by rfl, ?hyt4⟩) S2.out S2.out ?restt4
        case hyt4 => intro x hx; have e1 := hx.r 1 _ rfl; have e2 := hx.r 2 _ rfl; clear hx; go_simp; try with_reducible rfl
        (try go_simp)
        refine Hr.Walk.take (i := 5) (v := ?vt5) (fun x => HvS w b (off + k * 11) [.string ⟨nm.toArray⟩, .int .i64 fr, .int .i64 tu, .int .i64 mo, .int .i64 kk, .int .i64 vv, .int .i64 dd, .int .i64 nn, .int .i64 cc, .int .i64 sv, .string ⟨lt.toArray⟩] x) (fun _ => True) rfl (by kernel_rfl) (by kernel_rfl) (by kernel_rfl) (fun _ _ _ h => h) (fun _ _ _ _ _ _ => trivial) (fun _ _ _ h => h) (fun _ _ h => h) trivial (Or.inl ⟨by rfl, ?hyt5⟩) S2.out S2.out ?restt5
        case hyt5 => intro x hx; have e1 := hx.r 1 _ rfl; have e2 := hx.r 2 _ rfl; clear hx; go_simp; try with_reducible rfl
        (try go_simp)
        refine Hr.Walk.take (i := 6) (v := ?vt6) (fun x => HvS w b (off + k * 11) [.string ⟨nm.toArray⟩, .int .i64 fr, .int .i64 tu, .int .i64 mo, .int .i64 kk, .int .i64 vv, .int .i64 dd, .int .i64 nn, .int .i64 cc, .int .i64 sv, .string ⟨lt.toArray⟩] x) (fun _ => True) rfl (by kernel_rfl) (by kernel_rfl) (by kernel_rfl) (fun _ _ _ h => h) (fun _ _ _ _ _ _ => trivial) (fun _ _ _ h => h) (fun _ _ h => h) trivial (Or.inl ⟨by rfl, ?hyt6⟩) S2.out S2.out ?restt6
        case hyt6 => intro x hx; have e1 := hx.r 1 _ rfl; have e2 := hx.r 2 _ rfl; clear hx; go_simp; try with_reducible rfl
        (try go_simp)
        refine Hr.Walk.take (i := 7) (v := ?vt7) (fun x => HvS w b (off + k * 11) [.string ⟨nm.toArray⟩, .int .i64 fr, .int .i64 tu, .int .i64 mo, .int .i64 kk, .int .i64 vv, .int .i64 dd, .int .i64 nn, .int .i64 cc, .int .i64 sv, .string ⟨lt.toArray⟩] x) (fun _ => True) rfl (by kernel_rfl) (by kernel_rfl) (by kernel_rfl) (fun _ _ _ h => h) (fun _ _ _ _ _ _ => trivial) (fun _ _ _ h => h) (fun _ _ h => h) trivial (Or.inl ⟨by rfl, ?hyt7⟩) S2.out S2.out ?restt7
        case hyt7 => intro x hx; have e1 := hx.r 1 _ rfl; have e2 := hx.r 2 _ rfl; clear hx; go_simp; try with_reducible rfl
        (try go_simp)
        refine Hr.Walk.one (i := 8) (by kernel_rfl) rfl (fun K hK => ?_)
        have hx := S2.out; have e1 := hx.r 1 _ rfl; have e2 := hx.r 2 _ rfl; clear hx
        go_simp
        refine hK.out _ _ S2.out ?_
        clear hK K
        refine Hr.Walk.one (i := 9) (by kernel_rfl) rfl (fun K hK => ?_)
        have hx := S2.out; have e1 := hx.r 1 _ rfl; have e2 := hx.r 2 _ rfl; clear hx
        go_simp
        refine hK.out _ _ S2.out ?_
        clear hK K
        refine Hr.Walk.one (i := 10) (by kernel_rfl) rfl (fun K hK => ?_)
        have hx := S2.out; have e1 := hx.r 1 _ rfl; have e2 := hx.r 2 _ rfl; clear hx
        go_simp
        refine hK.out _ _ S2.out ?_
        clear hK K
        refine Hr.Walk.one (i := 11) (by kernel_rfl) rfl (fun K hK => ?_)
        have hx := S2.out; have e1 := hx.r 1 _ rfl; have e2 := hx.r 2 _ rfl; clear hx
        go_simp
        refine hK.out _ _ S2.out ?_
        clear hK K
        refine Hr.Walk.one (i := 12) (by kernel_rfl) rfl (fun K hK => ?_)
        have hx := S2.out; have e1 := hx.r 1 _ rfl; have e2 := hx.r 2 _ rfl; clear hx
        go_simp
        refine hK.out _ _ S2.out ?_
        clear hK K
        refine Hr.Walk.one (i := 13) (by kernel_rfl) rfl (fun K hK => ?_)
        have hx := S2.out; have e1 := hx.r 1 _ rfl; have e2 := hx.r 2 _ rfl; clear hx
        go_simp
        refine hK.out _ _ S2.out ?_
        clear hK K
        refine Hr.Walk.done (by kernel_rfl) ?_ _
        go_wp2
        go_roundw
        case rel => exact ⟨k + 1, _, by omega, rfl, by go_num, HNX2, Lib.hid S2.out.g⟩
        case measure => simp [intOf]; omega
    · have HL : Hid (Light L) := Lib.hid ⟨by rw [HN.out]; omega, by
        have := hall.out
        rw [List.take_of_length_le (by rw [HN.out]; omega)] at this
        exact this⟩
      go_wp2
      go_ret
      exact ⟨HvQ.any HL.out _, HB.out⟩

set_option maxHeartbeats 3200000 in
set_option maxRecDepth 100000 in
theorem hv_nil (a : Option Addr) (c : Nat) (w : World) :
    Calls Tryd.prog 7 #[.slice a 0 c] w fun x w' => HvQ [] x ∧ Below w.heap.size w w' := by
  go_enter Tryd.func7, Tryd.ntmps7
  go_wp2
  go_loopw [3, 4] (fun nv i wr => nv = .int .i64 0 ∧ i = .int .i64 0 ∧ Below w.heap.size w wr) (fun _ _ _ => 0)
  case atStart => exact ⟨rfl, rfl, Below.refl _ _⟩
  case round =>
    obtain ⟨rfl, rfl, hb⟩ := hrel
    go_wp2
    go_ret
    exact ⟨HvQ.any ⟨by simp, by simp⟩ _, hb⟩
theorem hv_to (v : Value) (L : List RV) (w : World) (hv : RulV w v L) (hbd : ∀ r ∈ L, r.nm.length ≤ maxLen ∧ r.lt.length ≤ maxLen) (hlen : L.length ≤ maxLen) :
    Calls Tryd.prog 7 #[v] w fun x w' => HvQ L x ∧ Below w.heap.size w w' := by
  by_cases h1 : 300 < L.length
  · obtain ⟨a, c, rfl⟩ := hv.slice
    exact (hv_big a _ c w h1 hlen).mono fun _ _ ⟨he, hb⟩ => ⟨he ▸ HvQ.yes L, hb⟩
  · by_cases h0 : L.length = 0
    · obtain ⟨a, c, rfl⟩ := hv.slice
      have : L = [] := List.eq_nil_of_length_eq_zero h0
      subst this
      exact hv_nil a c w
    · obtain ⟨b, off, c, rfl, hb, hp⟩ := RowV.form hv (by omega)
      exact hv_row b off c L w hb (Lib.hid hp) (by omega) (Lib.hid hbd)
/-! ### Right -/
set_option maxHeartbeats 6400000 in
set_option maxRecDepth 100000 in
theorem rgt_row (b off c : Nat) (L : List RV) (e : Bool) (w : World) (hbl : b < w.heap.size) (hp : Hid (∀ (j : Nat) (hj : j < L.length), w.rangeAt b (off + j * 11) (rvC L[j]))) (hlen : L.length ≤ 300) (hsm : Hid (∀ r ∈ L, r.nm.length ≤ 1000 ∧ r.lt.length ≤ 1000)) (hE : Hid (L.all chkB = e)) :
    Calls Tryd.prog 12 #[.slice (some ⟨b, off, none⟩) L.length c] w fun x w' => x = .returned (.bool e) ∧ Below w.heap.size w w' := by
  obtain ⟨N, hN⟩ : ∃ N, L.length = N := ⟨_, rfl⟩
  rw [hN] at hlen ⊢
  have HN := Lib.hid hN
  clear hN
  go_enter Tryd.func12, Tryd.ntmps12
  go_wp2
  go_loopw [3] (fun i wr => ∃ k : Nat, k ≤ N ∧ i = .int .i64 k ∧ Hid ((L.take k).all chkB = true) ∧ Below w.heap.size w wr) (fun i _ => N - (intOf i).toNat)
  case atStart => exact ⟨0, Nat.zero_le _, rfl, Lib.hid rfl, Below.refl _ _⟩
  case round =>
    obtain ⟨k, hk, rfl, hall, hb⟩ := hrel
    obtain ⟨wo, rfl⟩ : ∃ wo : World, wo = wr := ⟨_, rfl⟩
    by_cases hlt : k < N
    · have hkp : k < L.length := by rw [HN.out]; exact hlt
      have r0 := range_below hbl (hp.out k hkp) hb
      obtain ⟨r, hr⟩ : ∃ r, L[k]'hkp = r := ⟨_, rfl⟩
      rw [hr] at r0
      obtain ⟨s1, s2⟩ := hsm.out r (hr ▸ List.getElem_mem hkp)
      have HNX : Hid (chkB r = true → (L.take (k + 1)).all chkB = true) := Lib.hid (fun q => all_snoc hkp hall.out (by rw [hr]; exact q))
      have HNO : Hid (chkB r = false → false = e) := Lib.hid (fun q => by rw [← hE.out, all_no hkp (by rw [hr]; exact q)])
      have HB := Lib.hid hb
      clear hr hkp hb hall
      obtain ⟨nm, fr, tu, mo, kk, vv, dd, nn, cc, sv, lt⟩ := r
      have C0 : Hid (wo.rangeAt b (off + k * 11) [.string ⟨nm.toArray⟩, .int .i64 fr, .int .i64 tu, .int .i64 mo, .int .i64 kk, .int .i64 vv, .int .i64 dd, .int .i64 nn, .int .i64 cc, .int .i64 sv, .string ⟨lt.toArray⟩]) := Lib.hid r0
      clear r0
      cases hc : chkB ⟨nm, fr, tu, mo, kk, vv, dd, nn, cc, sv, lt⟩ with
      | false =>
        have HR := Lib.hid (HNO.out hc)
        have HCB := Lib.hid hc
        clear hc
        go_wp2_with (refine ldV C0.out rfl (by rfl) (by rfl) (by rfl) ?_; intro K2 hK2; go_simp)
        refine (rrule_to nm lt fr tu mo kk vv dd nn cc sv false _ s1 s2 HCB).mono ?_
        rintro e2 w1 ⟨rfl, hb1⟩
        have B2 := Lib.hid (bstep HB.out hb1)
        clear hb1
        go_wp2
        go_ret
        exact ⟨ret_b HR.out, B2.out⟩
      | true =>
        have HR := Lib.hid (HNX.out hc)
        have HCB := Lib.hid hc
        clear hc
        go_wp2_with (refine ldV C0.out rfl (by rfl) (by rfl) (by rfl) ?_; intro K2 hK2; go_simp)
        refine (rrule_to nm lt fr tu mo kk vv dd nn cc sv true _ s1 s2 HCB).mono ?_
        rintro e2 w1 ⟨rfl, hb1⟩
        have B2 := Lib.hid (bstep HB.out hb1)
        clear hb1
        go_wp2
        go_roundw
        case rel => exact ⟨k + 1, by omega, by go_num, HR, B2.out⟩
        case measure => simp [intOf]; omega
    · have HR : Hid (true = e) := Lib.hid (by
        rw [← hE.out]
        have := hall.out
        rw [List.take_of_length_le (by rw [HN.out]; omega)] at this
        exact this.symm)
      go_wp2
      go_ret
      exact ⟨ret_b HR.out, hb⟩
set_option maxHeartbeats 3200000 in
set_option maxRecDepth 100000 in
theorem rgt_nil (a : Option Addr) (c : Nat) (w : World) :
    Calls Tryd.prog 12 #[.slice a 0 c] w fun x w' => x = .returned (.bool true) ∧ Below w.heap.size w w' := by
  go_enter Tryd.func12, Tryd.ntmps12
  go_wp2
  go_loopw [3] (fun i wr => i = .int .i64 0 ∧ Below w.heap.size w wr) (fun _ _ => 0)
  case atStart => exact ⟨rfl, Below.refl _ _⟩
  case round =>
    obtain ⟨rfl, hb⟩ := hrel
    go_wp2
    go_ret
    exact ⟨rfl, hb⟩
theorem rgt_to (v : Value) (L : List RV) (e : Bool) (w : World) (hv : RulV w v L) (hl : Light L) (hE : Hid (L.all chkB = e)) :
    Calls Tryd.prog 12 #[v] w fun x w' => x = .returned (.bool e) ∧ Below w.heap.size w w' := by
  by_cases h0 : L.length = 0
  · obtain ⟨a, c, rfl⟩ := hv.slice
    have : L = [] := List.eq_nil_of_length_eq_zero h0
    subst this
    obtain rfl : true = e := hE.out
    exact rgt_nil a c w
  · obtain ⟨b, off, c, rfl, hb, hp⟩ := RowV.form hv (by omega)
    exact rgt_row b off c L e w hb (Lib.hid hp) hl.1 (Lib.hid (fun r hr => by have := hl.2 r hr; omega)) hE
end Ons
end Go.Proofs.YthefgagmjamdkaaDoor
