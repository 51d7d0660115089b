/-
  zone.Check and the reference's Zone, whatever zone. (Written by gen/gen_zeh.py.)
-/
import Derived.Test.YthefgagmjamdkaaGreatDoorZeC
import Derived.Test.YthefgagmjamdkaaGreatDoorZeR
namespace Go.Proofs.YthefgagmjamdkaaGreatDoor
open Go.RowKit
namespace Zon
open Sol Clk Cel Rul Rs

set_option maxHeartbeats 12800000 in
set_option maxRecDepth 100000 in
theorem zck_to (NM : List UInt8) (v : Value) (L : List EV) (q : Int) (w : World) (hA : Civ.Ahead w) (hm : Wrd.MaxL w) (hv : ErV w v L) (m : NM.length ≤ 1000) (hl : L.length ≤ maxLen) (hbd : ∀ e ∈ L, e.ru.length ≤ 1000000 ∧ e.fm.length ≤ 1000000)
    (hE : Hid ((if znB NM L = true then (0 : Int) else 11) = q)) :
    Calls Tryz.prog 16 #[.agg #[.string ⟨NM.toArray⟩, v]] w fun x w' => x = .returned (.int .i64 q) ∧ Below w.heap.size w w' := by
  obtain ⟨a, c0, rfl⟩ := hv.slice
  obtain ⟨N, hN⟩ : ∃ N, L.length = N := ⟨_, rfl⟩
  have SM : Hid ((⟨NM.toArray⟩ : ByteArray).size ≤ 1000000) := Lib.hid (by show NM.length ≤ 1000000; omega)
  have B0 := Lib.hid ((Below.refl w.heap.size w).alloc (Nat.le_refl _) (Obj.cells #[.string ⟨NM.toArray⟩, .slice a N c0] 24))
  unfold maxLen at hl
  have hE := hE.out
  rw [znB] at hE
  cases hn : nameB NM with
  | false =>
    have h11 : (11 : Int) = q := by rw [← hE, hn]; rfl
    subst h11
    have HN := Lib.hid hn
    rw [hN] at hv hl ⊢
    clear hE hn
    go_enter Tryz.func16, Tryz.ntmps16
    go_wp2_with fail
    refine (nam_to _ NM false _ SM.out (Lib.hid rfl) HN).mono ?_
    rintro e w1 ⟨rfl, rfl⟩
    go_wp2
    go_ret
    exact ⟨rfl, B0.out⟩
  | true =>
    have HN := Lib.hid hn
    by_cases c1 : L.length < 1
    · have h11 : (11 : Int) = q := by rw [← hE, decide_eq_false (by omega)]; simp
      subst h11
      rw [hN] at hv hl c1 ⊢
      clear hE hn
      go_enter Tryz.func16, Tryz.ntmps16
      go_wp2_with fail
      refine (nam_to _ NM true _ SM.out (Lib.hid rfl) HN).mono ?_
      rintro e w1 ⟨rfl, rfl⟩
      go_wp2
      go_ret
      exact ⟨rfl, B0.out⟩
    by_cases c2 : 30 < L.length
    · have h11 : (11 : Int) = q := by rw [← hE, decide_eq_false (by omega)]; simp
      subst h11
      rw [hN] at hv hl c1 c2 ⊢
      clear hE hn
      go_enter Tryz.func16, Tryz.ntmps16
      go_wp2_with fail
      refine (nam_to _ NM true _ SM.out (Lib.hid rfl) HN).mono ?_
      rintro e w1 ⟨rfl, rfl⟩
      go_wp2
      go_ret
      exact ⟨rfl, B0.out⟩
    obtain ⟨b, off, c2', e1, hb, hrow⟩ := RowV.form hv (by omega)
    injection e1 with e1 e2 e3
    subst e1 e3
    have hE : (if erG L L.length = true then (0 : Int) else 11) = q := by
      rw [← hE, hn, decide_eq_true (by omega)]; simp
    exact zck_row NM b off c0 L q w hA hm hb (Lib.hid hrow) m (by omega) (by omega) (Lib.hid hbd) HN (Lib.hid hE)
set_option maxHeartbeats 12800000 in
set_option maxRecDepth 100000 in
theorem rzn_to (NM : List UInt8) (v : Value) (L : List EV) (q : Bool) (w : World) (hv : ErV w v L) (m : NM.length ≤ 1000) (hl : L.length ≤ maxLen) (hbd : ∀ e ∈ L, e.ru.length ≤ 1000 ∧ e.fm.length ≤ 1000)
    (hE : Hid (znB NM L = q)) :
    Calls Tryz.prog 15 #[.agg #[.string ⟨NM.toArray⟩, v]] w fun x w' => x = .returned (.bool q) ∧ Below w.heap.size w w' := by
  obtain ⟨a, c0, rfl⟩ := hv.slice
  obtain ⟨N, hN⟩ : ∃ N, L.length = N := ⟨_, rfl⟩
  have SM : Hid ((⟨NM.toArray⟩ : ByteArray).size ≤ 1000) := Lib.hid (by show NM.length ≤ 1000; omega)
  have B0 := Lib.hid ((Below.refl w.heap.size w).alloc (Nat.le_refl _) (Obj.cells #[.string ⟨NM.toArray⟩, .slice a N c0] 24))
  unfold maxLen at hl
  have hE := hE.out
  rw [znB] at hE
  cases hn : nameB NM with
  | false =>
    have h11 : false = q := by rw [← hE, hn]; rfl
    subst h11
    have HN := Lib.hid hn
    rw [hN] at hv hl ⊢
    clear hE hn
    go_enter Tryz.func15, Tryz.ntmps15
    go_wp2_with fail
    refine (rnam_to _ NM false _ SM.out (Lib.hid rfl) HN).mono ?_
    rintro e w1 ⟨rfl, rfl⟩
    go_wp2
    go_ret
    exact ⟨rfl, B0.out⟩
  | true =>
    have HN := Lib.hid hn
    by_cases c1 : 1 ≤ L.length ∧ L.length ≤ 30
    · obtain ⟨b, off, c2', e1, hb, hrow⟩ := RowV.form hv (by omega)
      injection e1 with e1 e2 e3
      subst e1 e3
      have hE : erG L L.length = q := by
        rw [← hE, hn, decide_eq_true c1]; simp
      exact rzn_row NM b off c0 L q w hb (Lib.hid hrow) m (by omega) (by omega) (Lib.hid hbd) HN (Lib.hid hE)
    · have h11 : false = q := by rw [← hE, decide_eq_false c1]; simp
      subst h11
      rw [hN] at hv hl c1 ⊢
      have hin : Hid (decide ((1 : Int) ≤ (N : Int) ∧ (N : Int) ≤ 30) = false) := Lib.hid (decide_eq_false (by omega))
      clear hE hn
      go_enter Tryz.func15, Tryz.ntmps15
      go_wp2_with fail
      refine (rnam_to _ NM true _ SM.out (Lib.hid rfl) HN).mono ?_
      rintro e w1 ⟨rfl, rfl⟩
      go_wp2_with fail
      refine (Fm.rin9_to N 1 30 false _ hin).mono ?_
      rintro e w1 ⟨rfl, rfl⟩
      go_wp2
      go_ret
      exact ⟨rfl, B0.out⟩
end Zon
end Go.Proofs.YthefgagmjamdkaaGreatDoor
