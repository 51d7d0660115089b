/-
  Lines of whatever size: solsticelaw18.Heavy; solsticekeep.Line.
-/
import Derived.Test.YtdakpncfophjnaaLinU
namespace Go.Proofs.Ytdakpncfophjnaa
open Go.RowKit
namespace Lin
open CutB Cel
open Opn (TxtV)
def LightP (p : PV) : Prop := p.nm.length ≤ 200 ∧ p.vs.length ≤ 20 ∧ ∀ v ∈ p.vs, v.length ≤ 200
def Light (l : LV) : Prop := l.nm.length ≤ 200 ∧ l.vl.length ≤ 500 ∧ l.ps.length ≤ 20 ∧ ∀ p ∈ l.ps, LightP p
def BdP (ps : List PV) : Prop := ps.length ≤ maxLen ∧ ∀ p ∈ ps, p.nm.length ≤ maxLen ∧ p.vs.length ≤ maxLen ∧ ∀ v ∈ p.vs, v.length ≤ maxLen
/-- What Heavy tells. -/
def HvQ (q : Prop) (w : World) (e : Ending) (w' : World) : Prop := ∃ b, e = .returned (.bool b) ∧ Hid (b = false → q) ∧ Below w.heap.size w w'
theorem sz_l (l : List UInt8) : (⟨l.toArray⟩ : ByteArray).size = l.length := rfl
theorem take_all {α : Type} {L : List α} {Q : α → Prop} {k : Nat} (hk : k < L.length) (h : ∀ x ∈ L.take k, Q x) (hx : Q L[k]) : ∀ x ∈ L.take (k + 1), Q x := by
  rw [List.take_succ_eq_append_getElem hk]
  intro x hm
  rcases List.mem_append.1 hm with q | q
  · exact h x q
  · rw [List.mem_singleton.1 q]; exact hx
set_option maxHeartbeats 6400000 in
set_option maxRecDepth 100000 in
theorem hvy_4 (X0 X2 : ByteArray) (b off c N : Nat) (ps : List PV) (w : World) (h0 : X0.size ≤ 200) (h2 : X2.size ≤ 500) (hN : Hid (ps.length = N)) (h20 : N ≤ 20)
    (hbl : b < w.heap.size) (hp : Hid (∀ (j : Nat) (hj : j < ps.length), ∃ sv, w.cell? ⟨b, off + j * 2, none⟩ = some (.string ⟨(ps[j]).nm.toArray⟩) ∧ w.cell? ⟨b, off + j * 2 + 1, none⟩ = some sv ∧ TxtV w sv (ps[j]).vs)) (hbd : Hid (BdP ps)) :
    Calls Try.prog 12 #[.agg #[.string X0, .slice (some ⟨b, off, none⟩) N c, .string X2]] w (HvQ (∀ p ∈ ps, LightP p) w) := by
  have BB := Lib.hid ((Below.refl w.heap.size w).alloc (Nat.le_refl _) (Obj.cells #[.string X0, .slice (some ⟨b, off, none⟩) N c, .string X2] 24))
  go_enter Try.func12, Try.ntmps12
  go_wp2
  go_loopw [3] (fun i wr => ∃ k : Nat, k ≤ N ∧ i = .int .i64 k ∧ Hid (∀ p ∈ ps.take k, LightP p) ∧ wr = w.alloc (Obj.cells #[.string X0, .slice (some ⟨b, off, none⟩) N c, .string X2] 24)) (fun i _ => N - (intOf i).toNat)
  case atStart => exact ⟨0, Nat.zero_le _, rfl, Lib.hid (by simp), rfl⟩
  case round =>
    obtain ⟨k, hk, rfl, hall, rfl⟩ := hrel
    by_cases hlt : k < N
    · have hkp : k < ps.length := by rw [hN.out]; exact hlt
      obtain ⟨sv, c0, c1, ht⟩ := hp.out k hkp
      obtain ⟨p, hpk⟩ : ∃ p, ps[k]'hkp = p := ⟨_, rfl⟩
      obtain ⟨m1, m2, m3⟩ := hbd.out.2 p (hpk ▸ List.getElem_mem hkp)
      rw [hpk] at c0 ht
      have HNX : Hid (LightP p → ∀ q ∈ ps.take (k + 1), LightP q) := Lib.hid (fun q => take_all hkp hall.out (by rw [hpk]; exact q))
      obtain ⟨X, hX⟩ : ∃ X : ByteArray, ⟨p.nm.toArray⟩ = X := ⟨_, rfl⟩
      have hXs : X.size = p.nm.length := by rw [← hX]; exact sz_l _
      rw [hX] at c0
      unfold maxLen at m1 m2
      have x1 : X.size ≤ 9223372036854775807 := by omega
      have M3 := Lib.hid m3
      have HXS := Lib.hid hXs
      clear hpk hX hXs m3
      by_cases b1 : 200 < X.size
      · obtain ⟨a2, c2, hsv⟩ := ht.slice
        clear ht
        go_wp2
        go_ret
        exact ⟨true, rfl, Lib.hid (fun q => by cases q), BB.out⟩
      · obtain ⟨a2, c2, rfl⟩ := ht.slice
        obtain ⟨M, hM⟩ : ∃ M, p.vs.length = M := ⟨_, rfl⟩
        have HM := Lib.hid hM
        rw [hM] at c1 m2 ht
        by_cases b2 : 20 < M
        · clear ht hM
          go_wp2
          go_ret
          exact ⟨true, rfl, Lib.hid (fun q => by cases q), BB.out⟩
        · have HT := Lib.hid ht
          clear ht hM
          go_wp2
          go_loopw [4] (fun i wr => ∃ j : Nat, j ≤ M ∧ i = .int .i64 j ∧ Hid (∀ v ∈ p.vs.take j, v.length ≤ 200) ∧ wr = w.alloc (Obj.cells #[.string X0, .slice (some ⟨b, off, none⟩) N c, .string X2] 24)) (fun i _ => M - (intOf i).toNat)
          case atStart => exact ⟨0, Nat.zero_le _, rfl, Lib.hid (by simp), rfl⟩
          case round =>
            obtain ⟨j, hj, rfl, hvall, rfl⟩ := hrel
            by_cases hjt : j < M
            · have hjv : j < p.vs.length := by rw [HM.out]; exact hjt
              obtain ⟨b2', off2, c2', hf, hb2, hc2⟩ := HT.out.form (by omega)
              obtain ⟨rfl, _, rfl⟩ : a2 = some ⟨b2', off2, none⟩ ∧ M = p.vs.length ∧ c2 = c2' := by injection hf with q1 q2 q3; exact ⟨q1, q2, q3⟩
              have f0 := hc2 j hjv
              obtain ⟨v, hvj⟩ : ∃ v, p.vs[j]'hjv = v := ⟨_, rfl⟩
              rw [hvj] at f0
              have m4 := M3.out v (hvj ▸ List.getElem_mem hjv)
              unfold maxLen at m4
              have HVX : Hid (v.length ≤ 200 → ∀ u ∈ p.vs.take (j + 1), u.length ≤ 200) := Lib.hid (fun q => take_all (Q := fun u => u.length ≤ 200) hjv hvall.out (by rw [hvj]; exact q))
              obtain ⟨Y, hY⟩ : ∃ Y : ByteArray, ⟨v.toArray⟩ = Y := ⟨_, rfl⟩
              have hYs : Y.size = v.length := by rw [← hY]; exact sz_l _
              rw [hY] at f0
              have y1 : Y.size ≤ 9223372036854775807 := by omega
              have HYS := Lib.hid hYs
              clear hY hYs m4 hvj hc2 hf hvall hjv
              by_cases b3 : 200 < Y.size
              · go_wp2
                go_ret
                exact ⟨true, rfl, Lib.hid (fun q => by cases q), BB.out⟩
              · have HV := Lib.hid (HVX.out (by have := HYS.out; omega))
                go_wp2
                go_roundw
                case rel => exact ⟨j + 1, by omega, by go_num, HV, trivial⟩
                case measure => simp [intOf]; omega
            · have HL := Lib.hid (HNX.out ⟨by have := HXS.out; omega, by have := HM.out; omega, by
                have := hvall.out
                rw [List.take_of_length_le (by rw [HM.out]; omega)] at this
                exact this⟩)
              clear hvall
              go_wp2
              go_roundw
              case rel => exact ⟨k + 1, by omega, by go_num, HL, trivial⟩
              case measure => simp [intOf]; omega
    · have HR : Hid (∀ p ∈ ps, LightP p) := Lib.hid (by
        have := hall.out
        rw [List.take_of_length_le (by rw [hN.out]; omega)] at this
        exact this)
      clear hall
      go_wp2
      go_ret
      exact ⟨false, rfl, Lib.hid (fun _ => HR.out), BB.out⟩
set_option maxHeartbeats 3200000 in
set_option maxRecDepth 100000 in
theorem hvy_0 (X0 X2 : ByteArray) (a : Option Addr) (c : Nat) (w : World) (h0 : X0.size ≤ 200) (h2 : X2.size ≤ 500) :
    Calls Try.prog 12 #[.agg #[.string X0, .slice a 0 c, .string X2]] w fun e w' => e = .returned (.bool false) ∧ Below w.heap.size w w' := by
  have BB := Lib.hid ((Below.refl w.heap.size w).alloc (Nat.le_refl _) (Obj.cells #[.string X0, .slice a 0 c, .string X2] 24))
  go_enter Try.func12, Try.ntmps12
  go_wp2
  go_loopw [3] (fun i wr => i = .int .i64 0 ∧ wr = w.alloc (Obj.cells #[.string X0, .slice a 0 c, .string X2] 24)) (fun _ _ => 0)
  case atStart => exact ⟨rfl, rfl⟩
  case round =>
    obtain ⟨rfl, rfl⟩ := hrel
    go_wp2
    go_ret
    exact ⟨rfl, BB.out⟩
set_option maxHeartbeats 3200000 in
set_option maxRecDepth 100000 in
theorem hvy_big (X0 X2 : ByteArray) (a : Option Addr) (n c : Nat) (w : World) (h0 : X0.size ≤ maxLen) (h2 : X2.size ≤ maxLen) (hn : n ≤ maxLen) (h : 200 < X0.size ∨ (X0.size ≤ 200 ∧ 500 < X2.size) ∨ (X0.size ≤ 200 ∧ X2.size ≤ 500 ∧ 20 < n)) :
    Calls Try.prog 12 #[.agg #[.string X0, .slice a n c, .string X2]] w fun e w' => e = .returned (.bool true) ∧ Below w.heap.size w w' := by
  have BB := Lib.hid ((Below.refl w.heap.size w).alloc (Nat.le_refl _) (Obj.cells #[.string X0, .slice a n c, .string X2] 24))
  unfold maxLen at h0 h2 hn
  rcases h with x | ⟨x, y⟩ | ⟨x, y, z⟩
  · go_enter Try.func12, Try.ntmps12
    go_wp2
    go_ret
    exact ⟨rfl, BB.out⟩
  · go_enter Try.func12, Try.ntmps12
    go_wp2
    go_ret
    exact ⟨rfl, BB.out⟩
  · go_enter Try.func12, Try.ntmps12
    go_wp2
    go_ret
    exact ⟨rfl, BB.out⟩
theorem hvy_to (nm vl : List UInt8) (pv : Value) (ps : List PV) (w : World) (h1 : nm.length ≤ maxLen) (h2 : vl.length ≤ maxLen) (hp : ParsV w pv ps) (hbd : BdP ps) :
    Calls Try.prog 12 #[.agg #[.string ⟨nm.toArray⟩, pv, .string ⟨vl.toArray⟩]] w (HvQ (Light ⟨nm, ps, vl⟩) w) := by
  obtain ⟨a, n, c, hpv, hn, _⟩ := id hp
  by_cases q : 200 < nm.length ∨ (nm.length ≤ 200 ∧ 500 < vl.length) ∨ (nm.length ≤ 200 ∧ vl.length ≤ 500 ∧ 20 < n)
  · subst hpv
    exact (hvy_big ⟨nm.toArray⟩ ⟨vl.toArray⟩ a n c w h1 h2 (by rw [hn]; exact hbd.1) q).mono fun _ _ ⟨he, hb⟩ => ⟨true, he, Lib.hid (fun q => by cases q), hb⟩
  · have x1 : nm.length ≤ 200 := by omega
    have x2 : vl.length ≤ 500 := by omega
    have x3 : n ≤ 20 := by omega
    cases hps : ps with
    | nil =>
      subst hps
      obtain ⟨a, c, rfl⟩ := hp.nil
      exact (hvy_0 ⟨nm.toArray⟩ ⟨vl.toArray⟩ a c w x1 x2).mono fun _ _ ⟨he, hb⟩ => ⟨false, he, Lib.hid (fun _ => ⟨x1, x2, by simp, by simp⟩), hb⟩
    | cons p ps' =>
      rw [← hps]
      obtain ⟨b, off, c, rfl, hbb, hc⟩ := hp.form (by rw [hps]; simp)
      have hn' : ps.length = n := hn.symm
      exact (hvy_4 ⟨nm.toArray⟩ ⟨vl.toArray⟩ b off c ps.length ps w x1 x2 (Lib.hid rfl) (by omega) hbb (Lib.hid hc) (Lib.hid hbd)).mono fun _ _ ⟨r, he, hr, hb⟩ => ⟨r, he, Lib.hid (fun q => ⟨x1, x2, by show ps.length ≤ 20; omega, hr.out q⟩), hb⟩
end Lin
end Go.Proofs.Ytdakpncfophjnaa
