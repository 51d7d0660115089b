/-
  Several texts in one (LinQ, LinY).
-/
import Derived.Test.YtdakpncfophjnaaLinU
import Derived.Lib.QuietBelow
/-
  Lines of whatever size: solsticelaw18.Heavy; solsticekeep.Line.
-/
namespace Go.Proofs.Ytdakpncfophjnaa
open Go.RowKit
namespace Lin
open CutB Cel
open Opn (TxtV)
def LightP (p : PV) : Prop := p.nm.length ≤ 200 ∧ p.vs.length ≤ 20 ∧ ∀ v ∈ p.vs, v.length ≤ 200
def Light (l : LV) : Prop := l.nm.length ≤ 200 ∧ l.vl.length ≤ 500 ∧ l.ps.length ≤ 20 ∧ ∀ p ∈ l.ps, LightP p
def BdP (ps : List PV) : Prop := ps.length ≤ maxLen ∧ ∀ p ∈ ps, p.nm.length ≤ maxLen ∧ p.vs.length ≤ maxLen ∧ ∀ v ∈ p.vs, v.length ≤ maxLen
/-- What Heavy tells. -/
def HvQ (q : Prop) (w : World) (e : Ending) (w' : World) : Prop := ∃ b, e = .returned (.bool b) ∧ Hid (b = false → q) ∧ Below w.heap.size w w'
theorem sz_l (l : List UInt8) : (⟨l.toArray⟩ : ByteArray).size = l.length := rfl
theorem take_all {α : Type} {L : List α} {Q : α → Prop} {k : Nat} (hk : k < L.length) (h : ∀ x ∈ L.take k, Q x) (hx : Q L[k]) : ∀ x ∈ L.take (k + 1), Q x := by
  rw [List.take_succ_eq_append_getElem hk]
  intro x hm
  rcases List.mem_append.1 hm with q | q
  · exact h x q
  · rw [List.mem_singleton.1 q]; exact hx
set_option maxHeartbeats 6400000 in
set_option maxRecDepth 100000 in
theorem hvy_4 (X0 X2 : ByteArray) (b off c N : Nat) (ps : List PV) (w : World) (h0 : X0.size ≤ 200) (h2 : X2.size ≤ 500) (hN : Hid (ps.length = N)) (h20 : N ≤ 20)
    (hbl : b < w.heap.size) (hp : Hid (∀ (j : Nat) (hj : j < ps.length), ∃ sv, w.cell? ⟨b, off + j * 2, none⟩ = some (.string ⟨(ps[j]).nm.toArray⟩) ∧ w.cell? ⟨b, off + j * 2 + 1, none⟩ = some sv ∧ TxtV w sv (ps[j]).vs)) (hbd : Hid (BdP ps)) :
    Calls Try.prog 12 #[.agg #[.string X0, .slice (some ⟨b, off, none⟩) N c, .string X2]] w (HvQ (∀ p ∈ ps, LightP p) w) := by
  have BB := Lib.hid ((Below.refl w.heap.size w).alloc (Nat.le_refl _) (Obj.cells #[.string X0, .slice (some ⟨b, off, none⟩) N c, .string X2] 24))
  go_enter Try.func12, Try.ntmps12
  go_wp2
  go_loopw [3] (fun i wr => ∃ k : Nat, k ≤ N ∧ i = .int .i64 k ∧ Hid (∀ p ∈ ps.take k, LightP p) ∧ wr = w.alloc (Obj.cells #[.string X0, .slice (some ⟨b, off, none⟩) N c, .string X2] 24)) (fun i _ => N - (intOf i).toNat)
  case atStart => exact ⟨0, Nat.zero_le _, rfl, Lib.hid (by simp), rfl⟩
  case round =>
    obtain ⟨k, hk, rfl, hall, rfl⟩ := hrel
    by_cases hlt : k < N
    · have hkp : k < ps.length := by rw [hN.out]; exact hlt
      obtain ⟨sv, c0, c1, ht⟩ := hp.out k hkp
      obtain ⟨p, hpk⟩ : ∃ p, ps[k]'hkp = p := ⟨_, rfl⟩
      obtain ⟨m1, m2, m3⟩ := hbd.out.2 p (hpk ▸ List.getElem_mem hkp)
      rw [hpk] at c0 ht
      have HNX : Hid (LightP p → ∀ q ∈ ps.take (k + 1), LightP q) := Lib.hid (fun q => take_all hkp hall.out (by rw [hpk]; exact q))
      obtain ⟨X, hX⟩ : ∃ X : ByteArray, ⟨p.nm.toArray⟩ = X := ⟨_, rfl⟩
      have hXs : X.size = p.nm.length := by rw [← hX]; exact sz_l _
      rw [hX] at c0
      unfold maxLen at m1 m2
      have x1 : X.size ≤ 9223372036854775807 := by omega
      have M3 := Lib.hid m3
      have HXS := Lib.hid hXs
      clear hpk hX hXs m3
      by_cases b1 : 200 < X.size
      · obtain ⟨a2, c2, hsv⟩ := ht.slice
        clear ht
        go_wp2
        go_ret
        exact ⟨true, rfl, Lib.hid (fun q => by cases q), BB.out⟩
      · obtain ⟨a2, c2, rfl⟩ := ht.slice
        obtain ⟨M, hM⟩ : ∃ M, p.vs.length = M := ⟨_, rfl⟩
        have HM := Lib.hid hM
        rw [hM] at c1 m2 ht
        by_cases b2 : 20 < M
        · clear ht hM
          go_wp2
          go_ret
          exact ⟨true, rfl, Lib.hid (fun q => by cases q), BB.out⟩
        · have HT := Lib.hid ht
          clear ht hM
          go_wp2
          go_loopw [4] (fun i wr => ∃ j : Nat, j ≤ M ∧ i = .int .i64 j ∧ Hid (∀ v ∈ p.vs.take j, v.length ≤ 200) ∧ wr = w.alloc (Obj.cells #[.string X0, .slice (some ⟨b, off, none⟩) N c, .string X2] 24)) (fun i _ => M - (intOf i).toNat)
          case atStart => exact ⟨0, Nat.zero_le _, rfl, Lib.hid (by simp), rfl⟩
          case round =>
            obtain ⟨j, hj, rfl, hvall, rfl⟩ := hrel
            by_cases hjt : j < M
            · have hjv : j < p.vs.length := by rw [HM.out]; exact hjt
              obtain ⟨b2', off2, c2', hf, hb2, hc2⟩ := HT.out.form (by omega)
              obtain ⟨rfl, _, rfl⟩ : a2 = some ⟨b2', off2, none⟩ ∧ M = p.vs.length ∧ c2 = c2' := by injection hf with q1 q2 q3; exact ⟨q1, q2, q3⟩
              have f0 := hc2 j hjv
              obtain ⟨v, hvj⟩ : ∃ v, p.vs[j]'hjv = v := ⟨_, rfl⟩
              rw [hvj] at f0
              have m4 := M3.out v (hvj ▸ List.getElem_mem hjv)
              unfold maxLen at m4
              have HVX : Hid (v.length ≤ 200 → ∀ u ∈ p.vs.take (j + 1), u.length ≤ 200) := Lib.hid (fun q => take_all (Q := fun u => u.length ≤ 200) hjv hvall.out (by rw [hvj]; exact q))
              obtain ⟨Y, hY⟩ : ∃ Y : ByteArray, ⟨v.toArray⟩ = Y := ⟨_, rfl⟩
              have hYs : Y.size = v.length := by rw [← hY]; exact sz_l _
              rw [hY] at f0
              have y1 : Y.size ≤ 9223372036854775807 := by omega
              have HYS := Lib.hid hYs
              clear hY hYs m4 hvj hc2 hf hvall hjv
              by_cases b3 : 200 < Y.size
              · go_wp2
                go_ret
                exact ⟨true, rfl, Lib.hid (fun q => by cases q), BB.out⟩
              · have HV := Lib.hid (HVX.out (by have := HYS.out; omega))
                go_wp2
                go_roundw
                case rel => exact ⟨j + 1, by omega, by go_num, HV, trivial⟩
                case measure => simp [intOf]; omega
            · have HL := Lib.hid (HNX.out ⟨by have := HXS.out; omega, by have := HM.out; omega, by
                have := hvall.out
                rw [List.take_of_length_le (by rw [HM.out]; omega)] at this
                exact this⟩)
              clear hvall
              go_wp2
              go_roundw
              case rel => exact ⟨k + 1, by omega, by go_num, HL, trivial⟩
              case measure => simp [intOf]; omega
    · have HR : Hid (∀ p ∈ ps, LightP p) := Lib.hid (by
        have := hall.out
        rw [List.take_of_length_le (by rw [hN.out]; omega)] at this
        exact this)
      clear hall
      go_wp2
      go_ret
      exact ⟨false, rfl, Lib.hid (fun _ => HR.out), BB.out⟩
set_option maxHeartbeats 3200000 in
set_option maxRecDepth 100000 in
theorem hvy_0 (X0 X2 : ByteArray) (a : Option Addr) (c : Nat) (w : World) (h0 : X0.size ≤ 200) (h2 : X2.size ≤ 500) :
    Calls Try.prog 12 #[.agg #[.string X0, .slice a 0 c, .string X2]] w fun e w' => e = .returned (.bool false) ∧ Below w.heap.size w w' := by
  have BB := Lib.hid ((Below.refl w.heap.size w).alloc (Nat.le_refl _) (Obj.cells #[.string X0, .slice a 0 c, .string X2] 24))
  go_enter Try.func12, Try.ntmps12
  go_wp2
  go_loopw [3] (fun i wr => i = .int .i64 0 ∧ wr = w.alloc (Obj.cells #[.string X0, .slice a 0 c, .string X2] 24)) (fun _ _ => 0)
  case atStart => exact ⟨rfl, rfl⟩
  case round =>
    obtain ⟨rfl, rfl⟩ := hrel
    go_wp2
    go_ret
    exact ⟨rfl, BB.out⟩
set_option maxHeartbeats 3200000 in
set_option maxRecDepth 100000 in
theorem hvy_big (X0 X2 : ByteArray) (a : Option Addr) (n c : Nat) (w : World) (h0 : X0.size ≤ maxLen) (h2 : X2.size ≤ maxLen) (hn : n ≤ maxLen) (h : 200 < X0.size ∨ (X0.size ≤ 200 ∧ 500 < X2.size) ∨ (X0.size ≤ 200 ∧ X2.size ≤ 500 ∧ 20 < n)) :
    Calls Try.prog 12 #[.agg #[.string X0, .slice a n c, .string X2]] w fun e w' => e = .returned (.bool true) ∧ Below w.heap.size w w' := by
  have BB := Lib.hid ((Below.refl w.heap.size w).alloc (Nat.le_refl _) (Obj.cells #[.string X0, .slice a n c, .string X2] 24))
  unfold maxLen at h0 h2 hn
  rcases h with x | ⟨x, y⟩ | ⟨x, y, z⟩
  · go_enter Try.func12, Try.ntmps12
    go_wp2
    go_ret
    exact ⟨rfl, BB.out⟩
  · go_enter Try.func12, Try.ntmps12
    go_wp2
    go_ret
    exact ⟨rfl, BB.out⟩
  · go_enter Try.func12, Try.ntmps12
    go_wp2
    go_ret
    exact ⟨rfl, BB.out⟩
theorem hvy_to (nm vl : List UInt8) (pv : Value) (ps : List PV) (w : World) (h1 : nm.length ≤ maxLen) (h2 : vl.length ≤ maxLen) (hp : ParsV w pv ps) (hbd : BdP ps) :
    Calls Try.prog 12 #[.agg #[.string ⟨nm.toArray⟩, pv, .string ⟨vl.toArray⟩]] w (HvQ (Light ⟨nm, ps, vl⟩) w) := by
  obtain ⟨a, n, c, hpv, hn, _⟩ := id hp
  by_cases q : 200 < nm.length ∨ (nm.length ≤ 200 ∧ 500 < vl.length) ∨ (nm.length ≤ 200 ∧ vl.length ≤ 500 ∧ 20 < n)
  · subst hpv
    exact (hvy_big ⟨nm.toArray⟩ ⟨vl.toArray⟩ a n c w h1 h2 (by rw [hn]; exact hbd.1) q).mono fun _ _ ⟨he, hb⟩ => ⟨true, he, Lib.hid (fun q => by cases q), hb⟩
  · have x1 : nm.length ≤ 200 := by omega
    have x2 : vl.length ≤ 500 := by omega
    have x3 : n ≤ 20 := by omega
    cases hps : ps with
    | nil =>
      subst hps
      obtain ⟨a, c, rfl⟩ := hp.nil
      exact (hvy_0 ⟨nm.toArray⟩ ⟨vl.toArray⟩ a c w x1 x2).mono fun _ _ ⟨he, hb⟩ => ⟨false, he, Lib.hid (fun _ => ⟨x1, x2, by simp, by simp⟩), hb⟩
    | cons p ps' =>
      rw [← hps]
      obtain ⟨b, off, c, rfl, hbb, hc⟩ := hp.form (by rw [hps]; simp)
      have hn' : ps.length = n := hn.symm
      exact (hvy_4 ⟨nm.toArray⟩ ⟨vl.toArray⟩ b off c ps.length ps w x1 x2 (Lib.hid rfl) (by omega) hbb (Lib.hid hc) (Lib.hid hbd)).mono fun _ _ ⟨r, he, hr, hb⟩ => ⟨r, he, Lib.hid (fun q => ⟨x1, x2, by show ps.length ≤ 20; omega, hr.out q⟩), hb⟩
end Lin
end Go.Proofs.Ytdakpncfophjnaa
/-
  solsticekeep.Line over two lines, wherever they came from.
-/
namespace Go.Proofs.Ytdakpncfophjnaa
open Go.RowKit
namespace Lin
open CutB Cel
open Opn (TxtV)
theorem texts_v (v u : Value) (L M : List (List UInt8)) (tb : Bool) (w : World) (m n : Nat) (hv : TxtV w v L) (hu : TxtV w u M) (hL : L.length ≤ 1000000) (hM : M.length ≤ 1000000) (h : Hid (decide (L = M) = tb)) :
    Calls Try.prog 20 #[v, u] (w.drewN (m + n)) fun e w' => e = .returned (.bool tb) ∧ ∃ k, w' = w.drewN (m + k) :=
  (Opn.texts_any v u L M (w.drewN (m + n)) (hv.drew _) (hu.drew _) hL hM).mono fun _ _ ⟨b, he, hb, k, hm⟩ => ⟨by rw [he, hb.out, h.out], n + k, by rw [hm, World.drewN_drewN]; congr 1; omega⟩
/-- What keep.Line tells. -/
def KlQ (q : Bool) (w : World) (e : Ending) (w' : World) : Prop := e = .returned (.bool q) ∧ Below w.heap.size w w'
theorem lv_ne {a b : LV} (h : a.nm ≠ b.nm ∨ a.vl ≠ b.vl ∨ a.ps ≠ b.ps) : decide (a = b) = false := decide_eq_false (fun e => by subst e; rcases h with h | h | h <;> exact h rfl)
theorem ba_beq {A B : List UInt8} (h : A ≠ B) : ((⟨A.toArray⟩ : ByteArray).toList == (⟨B.toArray⟩ : ByteArray).toList) = false :=
  beq_eq_false_iff_ne.2 (fun e => Opn.sb_ne h (ByteArray.ext (Array.toList_inj.1 (by rw [← Lib.toList_data, ← Lib.toList_data, e]))))
set_option maxHeartbeats 3200000 in
set_option maxRecDepth 100000 in
theorem kln_1 (X Y X2 Y2 : ByteArray) (v u : Value) (w : World) (h : (X.toList == Y.toList) = false) :
    Calls Try.prog 19 #[.agg #[.string X, v, .string X2], .agg #[.string Y, u, .string Y2]] w (KlQ false w) := by
  have BB := Lib.hid (((Below.refl w.heap.size w).alloc (Nat.le_refl _) (Obj.cells #[.string X, v, .string X2] 24)).alloc (by simp) (Obj.cells #[.string Y, u, .string Y2] 24))
  go_enter Try.func19, Try.ntmps19
  go_wp2
  go_ret
  exact ⟨rfl, BB.out⟩
set_option maxHeartbeats 3200000 in
set_option maxRecDepth 100000 in
theorem kln_2 (X X2 Y2 : ByteArray) (v u : Value) (w : World) (h : (X2.toList == Y2.toList) = false) :
    Calls Try.prog 19 #[.agg #[.string X, v, .string X2], .agg #[.string X, u, .string Y2]] w (KlQ false w) := by
  have BB := Lib.hid (((Below.refl w.heap.size w).alloc (Nat.le_refl _) (Obj.cells #[.string X, v, .string X2] 24)).alloc (by simp) (Obj.cells #[.string X, u, .string Y2] 24))
  go_enter Try.func19, Try.ntmps19
  go_wp2
  go_ret
  exact ⟨rfl, BB.out⟩
set_option maxHeartbeats 3200000 in
set_option maxRecDepth 100000 in
theorem kln_3 (X X2 : ByteArray) (a a2 : Option Addr) (n n2 c c2 : Nat) (w : World) (h : n ≠ n2) :
    Calls Try.prog 19 #[.agg #[.string X, .slice a n c, .string X2], .agg #[.string X, .slice a2 n2 c2, .string X2]] w (KlQ false w) := by
  have BB := Lib.hid (((Below.refl w.heap.size w).alloc (Nat.le_refl _) (Obj.cells #[.string X, .slice a n c, .string X2] 24)).alloc (by simp) (Obj.cells #[.string X, .slice a2 n2 c2, .string X2] 24))
  have hne : ((n : Int) == (n2 : Int)) = false := beq_eq_false_iff_ne.2 (by omega)
  have hne2 : ((n : Int) != (n2 : Int)) = true := by rw [bne, hne]; rfl
  go_enter Try.func19, Try.ntmps19
  go_wp2
  go_ret
  exact ⟨rfl, BB.out⟩
set_option maxHeartbeats 3200000 in
set_option maxRecDepth 100000 in
theorem kln_4 (X X2 : ByteArray) (a a2 : Option Addr) (c c2 : Nat) (w : World) :
    Calls Try.prog 19 #[.agg #[.string X, .slice a 0 c, .string X2], .agg #[.string X, .slice a2 0 c2, .string X2]] w (KlQ true w) := by
  have BB := Lib.hid (((Below.refl w.heap.size w).alloc (Nat.le_refl _) (Obj.cells #[.string X, .slice a 0 c, .string X2] 24)).alloc (by simp) (Obj.cells #[.string X, .slice a2 0 c2, .string X2] 24))
  go_enter Try.func19, Try.ntmps19
  go_wp2
  go_loopw [5] (fun i wr => i = .int .i64 0 ∧ wr = (w.alloc (Obj.cells #[.string X, .slice a 0 c, .string X2] 24)).alloc (Obj.cells #[.string X, .slice a2 0 c2, .string X2] 24)) (fun _ _ => 0)
  case atStart => exact ⟨rfl, rfl⟩
  case round =>
    obtain ⟨rfl, rfl⟩ := hrel
    go_wp2
    go_ret
    exact ⟨rfl, BB.out⟩
set_option maxHeartbeats 12800000 in
set_option maxRecDepth 100000 in
theorem kln_5 (X X2 : ByteArray) (b1 o1 c1 b2 o2 c2 N : Nat) (ps qs : List PV) (tb : Bool) (w : World) (hN : Hid (ps.length = N)) (hM : Hid (qs.length = N)) (hl : N ≤ 1000000)
    (hb1 : b1 < w.heap.size) (hp : Hid (∀ (j : Nat) (hj : j < ps.length), ∃ sv, w.cell? ⟨b1, o1 + j * 2, none⟩ = some (.string ⟨(ps[j]).nm.toArray⟩) ∧ w.cell? ⟨b1, o1 + j * 2 + 1, none⟩ = some sv ∧ TxtV w sv (ps[j]).vs))
    (hb2 : b2 < w.heap.size) (hq : Hid (∀ (j : Nat) (hj : j < qs.length), ∃ sv, w.cell? ⟨b2, o2 + j * 2, none⟩ = some (.string ⟨(qs[j]).nm.toArray⟩) ∧ w.cell? ⟨b2, o2 + j * 2 + 1, none⟩ = some sv ∧ TxtV w sv (qs[j]).vs))
    (s1 : Hid (∀ p ∈ ps, p.vs.length ≤ 1000000)) (s2 : Hid (∀ p ∈ qs, p.vs.length ≤ 1000000)) (hT : Hid (decide (ps = qs) = tb)) :
    Calls Try.prog 19 #[.agg #[.string X, .slice (some ⟨b1, o1, none⟩) N c1, .string X2], .agg #[.string X, .slice (some ⟨b2, o2, none⟩) N c2, .string X2]] w (KlQ tb w) := by
  have BB := Lib.hid (((Below.refl w.heap.size w).alloc (Nat.le_refl _) (Obj.cells #[.string X, .slice (some ⟨b1, o1, none⟩) N c1, .string X2] 24)).alloc (by simp) (Obj.cells #[.string X, .slice (some ⟨b2, o2, none⟩) N c2, .string X2] 24))
  go_enter Try.func19, Try.ntmps19
  go_wp2
  go_loopw [5] (fun i wr => ∃ k : Nat, k ≤ N ∧ i = .int .i64 k ∧ Hid (ps.take k = qs.take k) ∧ ∃ m, wr = ((w.alloc (Obj.cells #[.string X, .slice (some ⟨b1, o1, none⟩) N c1, .string X2] 24)).alloc (Obj.cells #[.string X, .slice (some ⟨b2, o2, none⟩) N c2, .string X2] 24)).drewN m) (fun i _ => N - (intOf i).toNat)
  case atStart => exact ⟨0, Nat.zero_le _, rfl, Lib.hid rfl, 0, rfl⟩
  case round =>
    obtain ⟨k, hk, rfl, hall, m, rfl⟩ := hrel
    by_cases hlt : k < N
    · have hkp : k < ps.length := by rw [hN.out]; exact hlt
      have hkq : k < qs.length := by rw [hM.out]; exact hlt
      obtain ⟨sv, c0, c1', ht⟩ := hp.out k hkp
      obtain ⟨su, d0, d1', hu⟩ := hq.out k hkq
      obtain ⟨p, hpk⟩ : ∃ p, ps[k]'hkp = p := ⟨_, rfl⟩
      obtain ⟨q, hqk⟩ : ∃ q, qs[k]'hkq = q := ⟨_, rfl⟩
      have m1 := s1.out p (hpk ▸ List.getElem_mem hkp)
      have m2 := s2.out q (hqk ▸ List.getElem_mem hkq)
      rw [hpk] at c0 ht
      rw [hqk] at d0 hu
      have HEQ : Hid (p = q → ps.take (k + 1) = qs.take (k + 1)) := Lib.hid (fun e => by rw [List.take_succ_eq_append_getElem hkp, List.take_succ_eq_append_getElem hkq, hall.out, hpk, hqk, e])
      have HNE : Hid (p ≠ q → tb = false) := Lib.hid (fun e => by rw [← hT.out]; exact decide_eq_false (fun h => e (by subst h; rw [← hpk, ← hqk])))
      have BD := Lib.hid (below_drewN BB.out m)
      have HT := Lib.hid (show TxtV ((w.alloc (Obj.cells #[.string X, .slice (some ⟨b1, o1, none⟩) N c1, .string X2] 24)).alloc (Obj.cells #[.string X, .slice (some ⟨b2, o2, none⟩) N c2, .string X2] 24)) sv p.vs from ht.below BB.out)
      have HU := Lib.hid (show TxtV ((w.alloc (Obj.cells #[.string X, .slice (some ⟨b1, o1, none⟩) N c1, .string X2] 24)).alloc (Obj.cells #[.string X, .slice (some ⟨b2, o2, none⟩) N c2, .string X2] 24)) su q.vs from hu.below BB.out)
      clear hpk hqk hall ht hu hkp hkq
      by_cases hnm : p.nm = q.nm
      · rw [← hnm] at d0
        obtain ⟨Z, hZ⟩ : ∃ Z : ByteArray, ⟨p.nm.toArray⟩ = Z := ⟨_, rfl⟩
        rw [hZ] at c0 d0
        clear hZ
        obtain ⟨te, hte⟩ : ∃ te, decide (p.vs = q.vs) = te := ⟨_, rfl⟩
        have HTE := Lib.hid hte
        cases te with
        | true =>
          have HTK := Lib.hid (HEQ.out (by
            obtain ⟨pn, pv⟩ := p
            obtain ⟨qn, qv⟩ := q
            simp only at hnm
            have := of_decide_eq_true hte
            simp only at this
            rw [hnm, this]))
          clear hte hnm HEQ HNE
          go_wp2_with fail
          go_quiet (first | (go_at_call 20; with_reducible exact texts_v _ _ p.vs q.vs true _ _ _ HT.out HU.out m1 m2 HTE))
          go_wp2
          go_roundw
          case rel => exact ⟨k + 1, by omega, by go_num, HTK, _, by first | rfl | rw [World.drewN_drewN]⟩
          case measure => simp [intOf]; omega
        | false =>
          have HF := Lib.hid (HNE.out (fun e => by rw [e] at hte; exact absurd hte (by simp)))
          clear hte hnm HEQ HNE
          go_wp2_with fail
          go_quiet (first | (go_at_call 20; with_reducible exact texts_v _ _ p.vs q.vs false _ _ _ HT.out HU.out m1 m2 HTE))
          go_wp2
          go_ret
          exact ⟨by rw [HF.out]; rfl, below_drewN (below_drewN BB.out _) _⟩
      · have HF := Lib.hid (HNE.out (fun e => hnm (by rw [e])))
        have hb := ba_beq hnm
        obtain ⟨Z, hZ⟩ : ∃ Z : ByteArray, ⟨p.nm.toArray⟩ = Z := ⟨_, rfl⟩
        obtain ⟨Z2, hZ2⟩ : ∃ Z : ByteArray, ⟨q.nm.toArray⟩ = Z := ⟨_, rfl⟩
        rw [hZ] at c0 hb
        rw [hZ2] at d0 hb
        clear hZ hZ2 hnm HEQ HNE
        go_wp2_with fail
        go_quiet (fail)
        go_wp2
        go_ret
        exact ⟨by rw [HF.out]; rfl, below_drewN (below_drewN BB.out _) _⟩
    · have HF : Hid (tb = true) := Lib.hid (by
        rw [← hT.out]
        have := hall.out
        rw [List.take_of_length_le (by rw [hN.out]; omega), List.take_of_length_le (by rw [hM.out]; omega)] at this
        exact decide_eq_true this)
      have BD := Lib.hid (below_drewN BB.out m)
      go_wp2
      go_ret
      exact ⟨by rw [HF.out]; rfl, BD.out⟩
theorem kln_to (l1 l2 : LV) (v u : Value) (tb : Bool) (w : World) (h1 : ParsV w v l1.ps) (h2 : ParsV w u l2.ps) (n1 : l1.ps.length ≤ 1000000) (n2 : l2.ps.length ≤ 1000000) (s1 : ∀ p ∈ l1.ps, p.vs.length ≤ 1000000) (s2 : ∀ p ∈ l2.ps, p.vs.length ≤ 1000000) (hT : Hid (decide (l1 = l2) = tb)) :
    Calls Try.prog 19 #[.agg #[.string ⟨l1.nm.toArray⟩, v, .string ⟨l1.vl.toArray⟩], .agg #[.string ⟨l2.nm.toArray⟩, u, .string ⟨l2.vl.toArray⟩]] w (KlQ tb w) := by
  obtain ⟨nm1, ps1, vl1⟩ := l1
  obtain ⟨nm2, ps2, vl2⟩ := l2
  simp only at h1 h2 n1 n2 s1 s2 ⊢
  by_cases e1 : nm1 = nm2
  · subst e1
    by_cases e2 : vl1 = vl2
    · subst e2
      have hT' : decide (ps1 = ps2) = tb := by rw [← hT.out]; simp
      by_cases e3 : ps1.length = ps2.length
      · cases hps : ps1 with
        | nil =>
          subst hps
          obtain rfl : ps2 = [] := List.eq_nil_of_length_eq_zero (by rw [← e3]; rfl)
          obtain ⟨a, c, rfl⟩ := h1.nil
          obtain ⟨a2, c2, rfl⟩ := h2.nil
          have : tb = true := by rw [← hT']; rfl
          subst this
          exact kln_4 _ _ a a2 c c2 w
        | cons p ps' =>
          obtain ⟨b, off, c, rfl, hbb, hc⟩ := h1.form (by rw [hps]; simp)
          obtain ⟨b2, off2, c2, rfl, hbb2, hc2⟩ := h2.form (by rw [← e3, hps]; simp)
          rw [← e3]
          exact kln_5 _ _ b off c b2 off2 c2 _ ps1 ps2 tb w (Lib.hid rfl) (Lib.hid e3.symm) n1 hbb (Lib.hid hc) hbb2 (Lib.hid hc2) (Lib.hid s1) (Lib.hid s2) (Lib.hid hT')
      · have : tb = false := by rw [← hT']; exact decide_eq_false (fun e => e3 (by rw [e]))
        subst this
        obtain ⟨a, n, c, rfl, hn, _⟩ := h1
        obtain ⟨a2, n', c2, rfl, hn2, _⟩ := h2
        exact kln_3 _ _ a a2 n n' c c2 w (by omega)
    · have : tb = false := by rw [← hT.out]; exact lv_ne (Or.inr (Or.inl e2))
      subst this
      exact kln_2 _ _ _ _ _ w (ba_beq e2)
  · have : tb = false := by rw [← hT.out]; exact lv_ne (Or.inl e1)
    subst this
    exact kln_1 _ _ _ _ _ _ w (ba_beq e1)
end Lin
end Go.Proofs.Ytdakpncfophjnaa
