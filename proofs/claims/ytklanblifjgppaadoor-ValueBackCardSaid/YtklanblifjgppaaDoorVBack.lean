/-
  ValueBack: what is written of a time, of an offset, is read; unlike ones have unlike texts; the later time's text comes behind.
-/
import Derived.Test.YtklanblifjgppaaDoorValM
import Derived.Test.YtklanblifjgppaaDoorVal9
import Derived.Test.YtklanblifjgppaaDoorRefCiv2
namespace Go.Proofs.YtklanblifjgppaaDoor
open Go.RowKit
namespace Val
open Sol Civ Wk
def vsm (t : Int) : Int := -62135596800 + IntKind.u64.wrap t % 315537897600
theorem vsm_bd (t : Int) : -62135596800 ≤ vsm t ∧ vsm t < 253402300800 := by unfold vsm; omega
theorem n_first : Cal.num 1 1 1 = -719162 := by decide +kernel
theorem n_last : Cal.num 10000 1 1 = 2932897 := by decide +kernel
set_option maxHeartbeats 1600000 in
theorem vsome_to (t a : Int) (w : World) (h : Hid (vsm t = a)) :
    Calls Tryd.prog 6 #[.int .i64 t] w fun e w' => e = .returned (.int .i64 a) ∧ Below w.heap.size w w' := by
  have u0 : 0 ≤ IntKind.u64.wrap t := by rw [IntKind.wrap_u64]; omega
  have H := h.out
  rw [vsm] at H
  have r1 : (IntKind.u64.wrap t).tmod 315537897600 = IntKind.u64.wrap t % 315537897600 := Int.tmod_eq_emod_of_nonneg u0
  have hx : 0 ≤ IntKind.u64.wrap t % 315537897600 ∧ IntKind.u64.wrap t % 315537897600 < 315537897600 := by omega
  have HH := Lib.hid H
  obtain ⟨x0, x1⟩ := hx
  clear H
  go_enter Tryd.func6, Tryd.ntmps6
  go_wp2_with fail
  refine (rnum_any 1 1 1 _ (by omega) (by omega) (by omega) (by omega) (by omega) (by omega)).mono ?_
  rintro e w1 ⟨rfl, b1⟩
  rw [n_first]
  go_wp2_with fail
  refine (rnum_any 10000 1 1 _ (by omega) (by omega) (by omega) (by omega) (by omega) (by omega)).mono ?_
  rintro e w2 ⟨rfl, b2⟩
  rw [n_last]
  go_wp2
  go_ret
  exact ⟨ret_i HH.out, b1.trans (b2.mono b1.size)⟩
theorem tm_size {T : List UInt8} (h : T.length ≤ 16) : (⟨T.toArray⟩ : ByteArray).size ≤ 1000 := by show T.length ≤ 1000; omega
set_option maxHeartbeats 6400000 in
set_option maxRecDepth 100000 in
theorem vback_any (a b off off2 : Int) (u : Bool) (w : World) (hA : Ahead w) (hp : Pow w) (hm : MaxL w) :
    Calls Tryd.prog 3 #[.int .i64 a, .int .i64 b, .int .i64 off, .int .i64 off2, .bool u] w fun e w' => e = .returned (.bool true) ∧ Below w.heap.size w w' := by
  have HA := Lib.hid hA
  have HP := Lib.hid hp
  have HM := Lib.hid hm
  clear hA hp hm
  obtain ⟨A, hA⟩ : ∃ x, vsm a = x := ⟨_, rfl⟩
  obtain ⟨B, hB⟩ : ∃ x, vsm b = x := ⟨_, rfl⟩
  have dA := vsm_bd a
  have dB := vsm_bd b
  rw [hA] at dA
  rw [hB] at dB
  obtain ⟨a0, a1⟩ := dA
  obtain ⟨b0, b1⟩ := dB
  have SA := Lib.hid hA
  have SB := Lib.hid hB
  have p0 : -86400 < off.tmod 86400 := Int.lt_tmod_of_pos off (by omega)
  have p1 := Int.tmod_lt_of_pos off (show (0 : Int) < 86400 by omega)
  have q0 : -86400 < off2.tmod 86400 := Int.lt_tmod_of_pos off2 (by omega)
  have q1 := Int.tmod_lt_of_pos off2 (show (0 : Int) < 86400 by omega)
  obtain ⟨P, hP⟩ : ∃ x, off.tmod 86400 = x := ⟨_, rfl⟩
  obtain ⟨Q, hQ⟩ : ∃ x, off2.tmod 86400 = x := ⟨_, rfl⟩
  rw [hP] at p0 p1
  rw [hQ] at q0 q1
  obtain ⟨g1, g2⟩ := pt_back u a0 a1
  obtain ⟨k1, k2⟩ := po_back p0 p1
  have hlt := fun h => tm_less u a0 b1 (t := A) (t2 := B) h
  have hgt := fun h => tm_less u b0 a1 (t := B) (t2 := A) h
  have hoi := fun h => of_inj p0 p1 q0 q1 (a := P) (b := Q) h
  have eA := (tm_parts a0 a1).1
  have eB := (tm_parts b0 b1).1
  have eP : ofE P = 0 := by rw [ofE, if_pos ⟨p0, p1⟩]
  have eQ : ofE Q = 0 := by rw [ofE, if_pos ⟨q0, q1⟩]
  have hxy : (A = B → tmS A u = tmS B u) := fun h => by rw [h]
  have hpq : (P = Q → ofS P = ofS Q) := fun h => by rw [h]
  obtain ⟨X, hX⟩ : ∃ x, tmS A u = x := ⟨_, rfl⟩
  obtain ⟨Y, hY⟩ : ∃ x, tmS B u = x := ⟨_, rfl⟩
  obtain ⟨O, hO⟩ : ∃ x, ofS P = x := ⟨_, rfl⟩
  obtain ⟨R, hR⟩ : ∃ x, ofS Q = x := ⟨_, rfl⟩
  have TA := Lib.hid (And.intro hX eA)
  have TB := Lib.hid (And.intro hY eB)
  have TP := Lib.hid (And.intro hO eP)
  have TQ := Lib.hid (And.intro hR eQ)
  rw [hX, hY] at hlt hxy
  rw [hX, hY] at hgt
  rw [hO, hR] at hoi hpq
  rw [hX] at g1 g2
  rw [hO] at k1 k2
  have G1 := Lib.hid g1
  have K1 := Lib.hid k1
  have ZX := Lib.hid (tm_size g2)
  have ZO := Lib.hid (tm_size (T := O) (by omega))
  have HC : Hid ((A = B ∧ X = Y ∧ Op.bytesLess X Y = false) ∨ ((A == B) = false ∧ (X == Y) = false ∧ A < B ∧ Op.bytesLess X Y = true) ∨ ((A == B) = false ∧ (X == Y) = false ∧ ¬ A < B ∧ Op.bytesLess X Y = false)) := Lib.hid (by
    rcases Int.lt_trichotomy A B with h | h | h
    · have l := hlt h
      refine Or.inr (Or.inl ⟨beq_eq_false_iff_ne.2 (by omega), beq_eq_false_iff_ne.2 (fun e => ?_), h, l⟩)
      rw [e, less_irr] at l; cases l
    · exact Or.inl ⟨h, hxy h, by rw [hxy h]; exact less_irr _⟩
    · have l := hgt h
      refine Or.inr (Or.inr ⟨beq_eq_false_iff_ne.2 (by omega), beq_eq_false_iff_ne.2 (fun e => ?_), by omega, less_asym _ _ l⟩)
      rw [e, less_irr] at l; cases l)
  have HO : Hid ((P = Q ∧ O = R) ∨ ((P == Q) = false ∧ (O == R) = false)) := Lib.hid (by
    by_cases h : P = Q
    · exact Or.inl ⟨h, hpq h⟩
    · exact Or.inr ⟨beq_eq_false_iff_ne.2 h, beq_eq_false_iff_ne.2 (fun e => h (hoi e))⟩)
  clear hlt hgt hoi hxy hpq eA eB eP eQ hX hY hO hR g1 g2 k1 k2 hA hB
  have uu : (u == u) = true := beq_self_eq_true u
  go_enter Tryd.func3, Tryd.ntmps3
  go_wp2_with fail
  refine (vsome_to a A _ SA).mono ?_
  rintro e v1 ⟨rfl, c1⟩
  go_wp2_with fail
  refine (vsome_to b B _ SB).mono ?_
  rintro e v2 ⟨rfl, d2⟩
  have c2 := c1.trans (d2.mono c1.size)
  have C2 := Lib.hid c2
  clear d2 c1 c2
  go_wp2_with fail
  refine (time_to A u X 0 _ (HA.out.stays C2.out) (HP.out.stays C2.out) (by omega) (by omega) TA).mono ?_
  rintro e v3 ⟨rfl, d3⟩
  have C3 := Lib.hid (C2.out.trans (d3.mono C2.out.size))
  go_wp2_with fail
  refine (time_to B u Y 0 _ (HA.out.stays C3.out) (HP.out.stays C3.out) (by omega) (by omega) TB).mono ?_
  rintro e v4 ⟨rfl, d4⟩
  have C4 := Lib.hid (C3.out.trans (d4.mono C3.out.size))
  go_wp2_with fail
  refine (ptime_to _ X _ _ _ _ (HA.out.stays C4.out) ZX.out (Lib.hid rfl) G1).mono ?_
  rintro e v5 ⟨rfl, d5⟩
  have C5 := Lib.hid (C4.out.trans (d5.mono C4.out.size))
  go_wp2_with fail
  refine (off_to P O 0 _ (HP.out.stays C5.out) TP).mono ?_
  rintro e v6 ⟨rfl, d6⟩
  have C6 := Lib.hid (C5.out.trans (d6.mono C5.out.size))
  go_wp2_with fail
  refine (off_to Q R 0 _ (HP.out.stays C6.out) TQ).mono ?_
  rintro e v7 ⟨rfl, d7⟩
  have C7 := Lib.hid (C6.out.trans (d7.mono C6.out.size))
  go_wp2_with fail
  refine (poff_to _ O _ _ _ ZO.out (Lib.hid rfl) K1).mono ?_
  rintro e v8 ⟨rfl, rfl⟩
  clear d3 d4 d5 d6 d7
  rcases HC.out with ⟨rfl, rfl, h1⟩ | ⟨h1, h2, h3, h4⟩ | ⟨h1, h2, h3, h4⟩
  all_goals
    rcases HO.out with ⟨rfl, rfl⟩ | ⟨h5, h6⟩
    all_goals
      go_wp2_with fail
      refine (wakes20_any _ (HA.out.stays C7.out) (HP.out.stays C7.out) (HM.out.stays C7.out)).mono ?_
      rintro e v9 ⟨rfl, d9⟩
      go_wp2
      go_ret
      first | exact ⟨rfl, C7.out.trans (d9.mono C7.out.size)⟩ | exact ⟨ret_b (by simp [h3]), C7.out.trans (d9.mono C7.out.size)⟩
end Val
end Go.Proofs.YtklanblifjgppaaDoor
