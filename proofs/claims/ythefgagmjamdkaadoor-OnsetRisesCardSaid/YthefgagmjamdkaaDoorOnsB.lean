/-
  Contracts of package onset: check, localOf, first. (Written by gen/gen_onsb.py.)
-/
import Derived.Test.YthefgagmjamdkaaDoorRvA
import Derived.Test.YthefgagmjamdkaaDoorBdJ
import Derived.Test.YthefgagmjamdkaaDoorBdD
namespace Go.Proofs.YthefgagmjamdkaaDoor
open Go.RowKit
namespace Ons
open Rul Rs Cel
set_option maxHeartbeats 3200000 in
set_option maxRecDepth 100000 in
theorem ock_big (a : Option Addr) (n c : Nat) (w : World) (h : 200 < n) (hn : n ≤ 1000000000) :
    Calls Tryd.prog 19 #[.slice a n c] w fun x w' => x = .returned (.int .i64 2) ∧ Below w.heap.size w w' := by
  go_enter Tryd.func19, Tryd.ntmps19
  go_wp2
  go_ret
  exact ⟨rfl, Below.refl _ _⟩
set_option maxHeartbeats 3200000 in
set_option maxRecDepth 100000 in
theorem ock_nil (a : Option Addr) (c : Nat) (w : World) :
    Calls Tryd.prog 19 #[.slice a 0 c] w fun x w' => x = .returned (.int .i64 0) ∧ Below w.heap.size w w' := by
  go_enter Tryd.func19, Tryd.ntmps19
  go_wp2
  go_loopw [11] (fun i wr => i = .int .i64 0 ∧ Below w.heap.size w wr) (fun _ _ => 0)
  case atStart => exact ⟨rfl, Below.refl _ _⟩
  case round =>
    obtain ⟨rfl, hb⟩ := hrel
    go_wp2
    go_ret
    exact ⟨rfl, hb⟩
set_option maxHeartbeats 12800000 in
set_option maxRecDepth 100000 in
theorem ock_row (b off c : Nat) (L : List RV) (e : Int) (w : World) (hbl : b < w.heap.size) (hp : Hid (∀ (j : Nat) (hj : j < L.length), w.rangeAt b (off + j * 11) (rvC L[j]))) (hlen : L.length ≤ 200) (hsm : Hid (∀ r ∈ L, r.nm.length ≤ 1000000 ∧ r.lt.length ≤ 1000000))
    (hE : Hid ((if L.all chkB = true then (0 : Int) else 10) = e)) :
    Calls Tryd.prog 19 #[.slice (some ⟨b, off, none⟩) L.length c] w fun x w' => x = .returned (.int .i64 e) ∧ Below w.heap.size w w' := by
  obtain ⟨N, hN⟩ : ∃ N, L.length = N := ⟨_, rfl⟩
  rw [hN] at hlen ⊢
  have HN := Lib.hid hN
  clear hN
  go_enter Tryd.func19, Tryd.ntmps19
  go_wp2
  go_loopw [11] (fun i wr => ∃ k : Nat, k ≤ N ∧ i = .int .i64 k ∧ Hid ((L.take k).all chkB = true) ∧ Below w.heap.size w wr) (fun i _ => N - (intOf i).toNat)
  case atStart => exact ⟨0, Nat.zero_le _, rfl, Lib.hid rfl, Below.refl _ _⟩
  case round =>
    obtain ⟨k, hk, rfl, hall, hb⟩ := hrel
    obtain ⟨wo, rfl⟩ : ∃ wo : World, wo = wr := ⟨_, rfl⟩
    by_cases hlt : k < N
    · have hkp : k < L.length := by rw [HN.out]; exact hlt
      have r0 := range_below hbl (hp.out k hkp) hb
      obtain ⟨r, hr⟩ : ∃ r, L[k]'hkp = r := ⟨_, rfl⟩
      rw [hr] at r0
      obtain ⟨s1, s2⟩ := hsm.out r (hr ▸ List.getElem_mem hkp)
      have HNX : Hid (chkB r = true → (L.take (k + 1)).all chkB = true) := Lib.hid (fun q => all_snoc hkp hall.out (by rw [hr]; exact q))
      have HNO : Hid (chkB r = false → 10 = e) := Lib.hid (fun q => by rw [← hE.out, if_neg (by rw [all_no hkp (by rw [hr]; exact q)]; decide)])
      have HB := Lib.hid hb
      clear hr hkp hb hall
      obtain ⟨nm, fr, tu, mo, kk, vv, dd, nn, cc, sv, lt⟩ := r
      have C0 : Hid (wo.rangeAt b (off + k * 11) [.string ⟨nm.toArray⟩, .int .i64 fr, .int .i64 tu, .int .i64 mo, .int .i64 kk, .int .i64 vv, .int .i64 dd, .int .i64 nn, .int .i64 cc, .int .i64 sv, .string ⟨lt.toArray⟩]) := Lib.hid r0
      have C1 := Lib.hid (Cs.new wo [.string ⟨nm.toArray⟩, .int .i64 fr, .int .i64 tu, .int .i64 mo, .int .i64 kk, .int .i64 vv, .int .i64 dd, .int .i64 nn, .int .i64 cc, .int .i64 sv, .string ⟨lt.toArray⟩] 43).range
      have B1 := Lib.hid (HB.out.alloc HB.out.size (Obj.cells #[.string ⟨nm.toArray⟩, .int .i64 fr, .int .i64 tu, .int .i64 mo, .int .i64 kk, .int .i64 vv, .int .i64 dd, .int .i64 nn, .int .i64 cc, .int .i64 sv, .string ⟨lt.toArray⟩] 43))
      clear r0
      obtain ⟨q, hq⟩ : ∃ q, ruE ⟨nm, fr, tu, mo, kk, vv, dd, nn, cc, sv, lt⟩ = q := ⟨_, rfl⟩
      have HQ := Lib.hid hq
      clear hq
      go_wp2_with (first | (refine ldV C0.out rfl (by rfl) (by rfl) (by rfl) ?_; intro K2 hK2; go_simp) | (refine ldV C1.out rfl (by rfl) (by rfl) (by rfl) ?_; intro K2 hK2; go_simp))
      refine (rchk_to nm lt fr tu mo kk vv dd nn cc sv q _ s1 s2 HQ).mono ?_
      rintro e2 w1 ⟨rfl, hb1⟩
      have B2 := Lib.hid (bstep B1.out hb1)
      clear hb1
      cases hc : chkB ⟨nm, fr, tu, mo, kk, vv, dd, nn, cc, sv, lt⟩ with
      | false =>
        have HR := Lib.hid (HNO.out hc)
        have q10 : q = 10 := by rw [← HQ.out, ruE, if_neg (by rw [hc]; decide)]
        subst q10
        go_wp2
        go_ret
        exact ⟨ret_i HR.out, B2.out⟩
      | true =>
        have HR := Lib.hid (HNX.out hc)
        have q0 : q = 0 := by rw [← HQ.out, ruE, if_pos hc]
        subst q0
        go_wp2
        go_roundw
        case rel => exact ⟨k + 1, by omega, by go_num, HR, B2.out⟩
        case measure => simp [intOf]; omega
    · have HR : Hid (0 = e) := Lib.hid (by
        rw [← hE.out, if_pos]
        have := hall.out
        rw [List.take_of_length_le (by rw [HN.out]; omega)] at this
        exact this)
      go_wp2
      go_ret
      exact ⟨ret_i HR.out, hb⟩
theorem ock_to (v : Value) (L : List RV) (e : Int) (w : World) (hv : RulV w v L) (hsm : ∀ r ∈ L, r.nm.length ≤ 1000000 ∧ r.lt.length ≤ 1000000) (hlen : L.length ≤ 1000000000) (hE : Hid (okE L = e)) :
    Calls Tryd.prog 19 #[v] w fun x w' => x = .returned (.int .i64 e) ∧ Below w.heap.size w w' := by
  have hE := hE.out
  rw [okE] at hE
  by_cases h1 : 200 < L.length
  · rw [if_pos h1] at hE
    subst hE
    obtain ⟨a, c, rfl⟩ := hv.slice
    exact ock_big a _ c w h1 hlen
  · rw [if_neg h1] at hE
    by_cases h0 : L.length = 0
    · obtain ⟨a, c, rfl⟩ := hv.slice
      have : L = [] := List.eq_nil_of_length_eq_zero h0
      subst this
      rw [if_pos (show ([] : List RV).all chkB = true from rfl)] at hE
      subst hE
      exact ock_nil a c w
    · obtain ⟨b, off, c, rfl, hb, hp⟩ := RowV.form hv (by omega)
      exact ock_row b off c L e w hb (Lib.hid hp) (by omega) (Lib.hid hsm) (Lib.hid hE)
/-! ### localOf -/
theorem res_bd (y m k v d : Int) : -800000 ≤ Wk.resV y m k v d ∧ Wk.resV y m k v d ≤ 3000000 := by
  unfold Wk.resV
  split
  · rename_i h
    have hn : Civ.numE y m (Wk.rday y m k d) = 0 := by
      unfold Wk.resE at h
      split at h
      · split at h
        · exact h
        · exact absurd h (by decide)
      · exact absurd h (by decide)
    have hv : 0 ≤ y ∧ y ≤ 10000 ∧ 1 ≤ Wk.rday y m k d ∧ Wk.rday y m k d ≤ Cal.mlen y m := by
      by_cases hv : 0 ≤ y ∧ y ≤ 10000 ∧ 1 ≤ Wk.rday y m k d ∧ Wk.rday y m k d ≤ Cal.mlen y m
      · exact hv
      · rw [(Civ.numE_no hv).1] at hn; exact absurd hn (by decide)
    obtain ⟨m1, m2⟩ := Cal.mlen_pos (y := y) (m := m) (by omega)
    obtain ⟨_, _, _, _, n1, n2⟩ := Civ.num_bd hv.1 hv.2.1 m1 m2 hv.2.2.1 hv.2.2.2
    have sb := Wk.since_bd v (Cal.num y m (Wk.rday y m k d))
    have ub := Wk.untl_bd (Cal.num y m (Wk.rday y m k d)) v
    split
    · omega
    · split <;> omega
  · omega
theorem res_to (y m k v d N E : Int) (w : World) (hA : Civ.Ahead w) (h : Hid (Wk.resV y m k v d = N ∧ Wk.resE y m k v d = E)) :
    Calls Tryd.prog 16 #[.int .i64 y, .int .i64 m, .agg #[.int .i64 k, .int .i64 v, .int .i64 d]] w fun e w' => e = .returned (.tuple #[.int .i64 N, .int .i64 E]) ∧ Below w.heap.size w w' :=
  (Wk.resolve_any y m k v d w hA).mono fun _ _ ⟨he, hw⟩ => ⟨by rw [he, h.out.1, h.out.2], hw⟩


set_option maxHeartbeats 3200000 in
set_option maxRecDepth 100000 in
theorem loc_to (nm lt : List UInt8) (fr tu mo kk vv dd nn cc sv : Int) (y N E : Int) (rn : Int) (rb : Bool) (w : World) (hA : Civ.Ahead w) (n1 : -1000000 ≤ nn) (n2 : nn ≤ 1000000) (h : Hid (Wk.resV y mo kk vv dd = N ∧ Wk.resE y mo kk vv dd = E)) (h2 : Hid ((E = 0 ∧ rn = N * 86400 + nn ∧ rb = true) ∨ (E ≠ 0 ∧ rn = 0 ∧ rb = false))) :
    Calls Tryd.prog 20 #[.agg #[.string ⟨nm.toArray⟩, .int .i64 fr, .int .i64 tu, .int .i64 mo, .int .i64 kk, .int .i64 vv, .int .i64 dd, .int .i64 nn, .int .i64 cc, .int .i64 sv, .string ⟨lt.toArray⟩], .int .i64 y] w fun x w' => x = .returned (.tuple #[.int .i64 rn, .bool rb]) ∧ Below w.heap.size w w' := by
  have hbd := res_bd y mo kk vv dd
  rw [h.out.1] at hbd
  have HA := Lib.hid hA
  clear hA
  have b1 : Below w.heap.size w (w.alloc (Obj.cells #[.string ⟨nm.toArray⟩, .int .i64 fr, .int .i64 tu, .int .i64 mo, .int .i64 kk, .int .i64 vv, .int .i64 dd, .int .i64 nn, .int .i64 cc, .int .i64 sv, .string ⟨lt.toArray⟩] 43)) := (Below.refl _ _).alloc (Nat.le_refl _) _
  have A1 := Lib.hid (HA.out.stays b1)
  have C1 := Lib.hid (Cs.new w [.string ⟨nm.toArray⟩, .int .i64 fr, .int .i64 tu, .int .i64 mo, .int .i64 kk, .int .i64 vv, .int .i64 dd, .int .i64 nn, .int .i64 cc, .int .i64 sv, .string ⟨lt.toArray⟩] 43)
  have B1 := Lib.hid b1
  clear b1
  go_enter Tryd.func20, Tryd.ntmps20
  go_wp2_with fail
  refine (res_to y mo kk vv dd N E _ A1.out h).mono ?_
  rintro e2 w1 ⟨rfl, hb1⟩
  have C2 := Lib.hid (C1.out.below hb1)
  have B2 := Lib.hid (bstep B1.out hb1)
  clear hb1 C1
  have z7 := (C2.out.2 7 _ rfl).1
  rcases h2.out with ⟨rfl, rfl, rfl⟩ | ⟨hE, rfl, rfl⟩
  · have w1 : IntKind.i64.wrap (N * 86400) = N * 86400 := by rw [IntKind.wrap_i64]; omega
    have w2 : IntKind.i64.wrap (N * 86400 + nn) = N * 86400 + nn := by rw [IntKind.wrap_i64]; omega
    go_wp2
    go_ret2
    exact ⟨rfl, B2.out⟩
  · have hE' : (E != 0) = true := bne_iff_ne.2 hE
    have hE2 : (E == 0) = false := beq_eq_false_iff_ne.2 hE
    go_wp2
    go_ret2
    exact ⟨rfl, B2.out⟩


/-! ### first -/
theorem loc_case (E N nn : Int) : ∃ rn rb, (E = 0 ∧ rn = N * 86400 + nn ∧ rb = true) ∨ (E ≠ 0 ∧ rn = 0 ∧ rb = false) := by
  by_cases h : E = 0
  · exact ⟨_, _, Or.inl ⟨h, rfl, rfl⟩⟩
  · exact ⟨_, _, Or.inr ⟨h, rfl, rfl⟩⟩
set_option maxHeartbeats 6400000 in
set_option maxRecDepth 100000 in
theorem fst_to (nm lt : List UInt8) (fr tu mo kk vv dd nn cc sv : Int) (rn : Int) (rb : Bool) (w : World) (hA : Civ.Ahead w) (n1 : -1000000 ≤ nn) (n2 : nn ≤ 1000000) (f1 : 1 ≤ fr) (f2 : tu ≤ 9999) (h : Hid ((firstO ⟨nm, fr, tu, mo, kk, vv, dd, nn, cc, sv, lt⟩ = some rn ∧ rb = true) ∨ (firstO ⟨nm, fr, tu, mo, kk, vv, dd, nn, cc, sv, lt⟩ = none ∧ rn = 0 ∧ rb = false))) :
    Calls Tryd.prog 23 #[.agg #[.string ⟨nm.toArray⟩, .int .i64 fr, .int .i64 tu, .int .i64 mo, .int .i64 kk, .int .i64 vv, .int .i64 dd, .int .i64 nn, .int .i64 cc, .int .i64 sv, .string ⟨lt.toArray⟩]] w fun x w' => x = .returned (.tuple #[.int .i64 rn, .bool rb]) ∧ Below w.heap.size w w' := by
  have HA := Lib.hid hA
  clear hA
  have b1 : Below w.heap.size w (w.alloc (Obj.cells #[.string ⟨nm.toArray⟩, .int .i64 fr, .int .i64 tu, .int .i64 mo, .int .i64 kk, .int .i64 vv, .int .i64 dd, .int .i64 nn, .int .i64 cc, .int .i64 sv, .string ⟨lt.toArray⟩] 43)) := (Below.refl _ _).alloc (Nat.le_refl _) _
  have C1 := Lib.hid (Cs.new w [.string ⟨nm.toArray⟩, .int .i64 fr, .int .i64 tu, .int .i64 mo, .int .i64 kk, .int .i64 vv, .int .i64 dd, .int .i64 nn, .int .i64 cc, .int .i64 sv, .string ⟨lt.toArray⟩] 43)
  have B1 := Lib.hid b1
  clear b1
  go_enter Tryd.func23, Tryd.ntmps23
  go_wp2
  go_loopw [4] (fun i wr => ∃ j : Nat, i = .int .i64 (fr + j) ∧ Hid (∀ i : Nat, i < j → Wk.resE (fr + i) mo kk vv dd ≠ 0) ∧ Hid (Cs w.heap.size wr [.string ⟨nm.toArray⟩, .int .i64 fr, .int .i64 tu, .int .i64 mo, .int .i64 kk, .int .i64 vv, .int .i64 dd, .int .i64 nn, .int .i64 cc, .int .i64 sv, .string ⟨lt.toArray⟩]) ∧ Hid (Below w.heap.size w wr)) (fun i _ => (10001 - intOf i).toNat)
  case atStart => exact ⟨0, by simp, Lib.hid (fun i hi => by omega), C1, B1⟩
  case round =>
    obtain ⟨j, rfl, hno, HC, HB⟩ := hrel
    obtain ⟨wo, rfl⟩ : ∃ wo : World, wo = wr := ⟨_, rfl⟩
    clear C1 B1
    have z2 := (HC.out.2 2 _ rfl).1
    by_cases hlt : fr + j ≤ tu
    · obtain ⟨y, hy⟩ : ∃ y, fr + (j : Int) = y := ⟨_, rfl⟩
      rw [hy] at hlt ⊢
      have HY := Lib.hid hy
      have y1 : 1 ≤ y := by omega
      clear hy
      obtain ⟨N, hN⟩ : ∃ N, Wk.resV y mo kk vv dd = N := ⟨_, rfl⟩
      obtain ⟨E, hE⟩ : ∃ E, Wk.resE y mo kk vv dd = E := ⟨_, rfl⟩
      have HV := Lib.hid (And.intro hN hE)
      clear hN hE
      obtain ⟨ln, lb, hl⟩ := loc_case E N nn
      have HL := Lib.hid hl
      clear hl
      have A1 := Lib.hid (HA.out.stays HB.out)
      have C2 := Lib.hid HC.out.range
      go_wp2_with (refine ldV C2.out rfl (by rfl) (by rfl) (by rfl) ?_; intro K2 hK2; go_simp)
      refine (loc_to nm lt fr tu mo kk vv dd nn cc sv y N E ln lb _ A1.out n1 n2 HV HL).mono ?_
      rintro e2 w1 ⟨rfl, hb1⟩
      have B2 := Lib.hid (bstep HB.out hb1)
      have C3 := Lib.hid (HC.out.below hb1)
      clear hb1 C2
      rcases HL.out with ⟨rfl, hln, rfl⟩ | ⟨hE, hln, rfl⟩
      · have HR : Hid (rn = ln ∧ rb = true) := Lib.hid (by
          have q : firstO ⟨nm, fr, tu, mo, kk, vv, dd, nn, cc, sv, lt⟩ = some (loc ⟨nm, fr, tu, mo, kk, vv, dd, nn, cc, sv, lt⟩ (fr + j)) := first_at (r := ⟨nm, fr, tu, mo, kk, vv, dd, nn, cc, sv, lt⟩) hno.out (by show fr + (j : Int) ≤ tu; rw [HY.out]; exact hlt) (by show Wk.resE (fr + j) mo kk vv dd = 0; rw [HY.out]; exact HV.out.2)
          rcases h.out with ⟨p1, p2⟩ | ⟨p1, _⟩
          · rw [q] at p1
            have := Option.some.inj p1
            exact ⟨by rw [← this, hln, loc, HY.out]; show Wk.resV y mo kk vv dd * 86400 + nn = _; rw [HV.out.1], p2⟩
          · rw [q] at p1; cases p1)
        clear hln
        obtain ⟨rfl, rfl⟩ := HR.out
        go_wp2
        go_ret2
        exact ⟨rfl, B2.out⟩
      · have HNO : Hid (∀ i : Nat, i < j + 1 → Wk.resE (fr + i) mo kk vv dd ≠ 0) := Lib.hid (fun i hi => by
          by_cases q : i = j
          · subst q; rw [HY.out, HV.out.2]; exact hE
          · exact hno.out i (by omega))
        clear hln
        go_wp2
        go_roundw
        case rel => exact ⟨j + 1, by have := HY.out; go_num, HNO, C3, B2⟩
        case measure => simp [intOf]; omega
    · have HR : Hid (rn = 0 ∧ rb = false) := Lib.hid (by
        have q : firstO ⟨nm, fr, tu, mo, kk, vv, dd, nn, cc, sv, lt⟩ = none := first_none (r := ⟨nm, fr, tu, mo, kk, vv, dd, nn, cc, sv, lt⟩) (fun i hi => hno.out i (by have hi' : i < (tu + 1 - fr).toNat := hi; omega))
        rcases h.out with ⟨p1, _⟩ | ⟨_, p2⟩
        · rw [q] at p1; cases p1
        · exact p2)
      obtain ⟨rfl, rfl⟩ := HR.out
      go_wp2
      go_ret2
      exact ⟨rfl, HB.out⟩
end Ons
end Go.Proofs.YthefgagmjamdkaaDoor
