/-
  Contracts of package line: readValue.
-/
import Derived.Test.YtdakpncfophjnaaLinA
namespace Go.Proofs.Ytdakpncfophjnaa
open Go.RowKit
namespace Lin
open CutB
theorem ia_v (s cs : ByteArray) (S C : List UInt8) (v : Int) (w : World) (hc : SAny.Sgn cs C) (hs : s.size ≤ 1000000) (hS : Hid (s.data.toList = S)) (h : Hid (Lib.indexAny S C = v)) :
    Calls Try.prog 43 #[.string s, .string cs] w fun e w' => e = .returned (.int .i64 v) ∧ Below w.heap.size w w' :=
  (SAny.ia_to s cs S C w hc hs hS).mono fun _ _ ⟨he, hb⟩ => ⟨by rw [he, h.out], hb⟩
theorem ne_facts {s : ByteArray} (h : 0 < s.size) : s.toList.isEmpty = false ∧ (s.toList == []) = false ∧ ¬ s.toList = [] := by
  have h1 : ¬ s.toList = [] := by
    rw [Lib.toList_data]
    intro e
    have := congrArg List.length e
    rw [Array.length_toList] at this
    simp only [List.length_nil] at this
    have : s.size = 0 := this
    omega
  exact ⟨by simpa using h1, beq_eq_false_iff_ne.2 h1, h1⟩
set_option maxHeartbeats 3200000 in
set_option maxRecDepth 100000 in
theorem rv_to (s : ByteArray) (S : List UInt8) (w : World) (hs : s.size ≤ 1000000) (hS : Hid (s.data.toList = S)) :
    Calls Try.prog 67 #[.string s] w (RvQ (rvL S) w) := by
  have hl : S.length = s.size := by rw [← hS.out]; simp
  match S, hS, hl with
  | [], hS, hl =>
    obtain rfl : s = ⟨#[]⟩ := Rws.ba_eq hS.out
    have HV : Hid (Lib.indexAny [] [58, 59, 44] = -1) := Lib.hid rfl
    clear hl hs
    go_enter Try.func67, Try.ntmps67
    go_wp2_with fail
    refine (ia_v _ _ [] [58, 59, 44] (-1) _ sg3 (by decide) (Lib.hid rfl) HV).mono ?_
    rintro e w1 ⟨rfl, b1⟩
    have B1 := Lib.hid b1
    clear b1
    go_wp2
    go_ret3
    exact ⟨_, _, _, rfl, Lib.hid rfl, B1.out⟩
  | c :: T, hS, hl =>
    have h0 : 0 < s.size := by rw [← hl]; simp
    obtain ⟨_, hx⟩ := at_l hS.out 0 h0
    have hx : s[0] = c := hx
    obtain ⟨x1, x2, x3⟩ := ne_facts h0
    by_cases e : c = 34
    · subst e
      have hT : (s.extract 1 s.size).data.toList = T := by rw [dtE, hS.out]; rfl
      have hz : (s.extract 1 s.size).size ≤ 1000000 := by
        have : (s.extract 1 s.size).size = (s.extract 1 s.size).data.toList.length := by simp
        rw [this, hT]
        simp only [List.length_cons] at hl
        omega
      have HT := Lib.hid hT
      have HZ := Lib.hid hz
      have e1 : (1 : Int) ≤ (s.size : Int) := by omega
      have e2 : 1 ≤ s.size := by omega
      clear hT hz
      by_cases y : tlT [34] T = []
      · have HR : Hid (rvL (34 :: T) = none) := Lib.hid (by rw [rvL, if_pos rfl, if_pos y])
        have HB : Hid (Lib.indexByte T 34 = -1) := Lib.hid (by rw [ib_eq, if_pos y])
        rw [HR.out]
        clear y
        go_enter Try.func67, Try.ntmps67
        go_wp2_with fail
        refine (cut_none _ T 34 _ HT HB).mono ?_
        rintro e w1 ⟨rfl, rfl⟩
        go_wp2
        go_ret3
        exact ⟨_, _, _, rfl, Lib.hid rfl, Below.refl _ _⟩
      · have HR : Hid (rvL (34 :: T) = some (hdT [34] T, (tlT [34] T).tail)) := Lib.hid (by rw [rvL, if_pos rfl, if_neg y])
        have HB : Hid (Lib.indexByte T 34 = ((hdT [34] T).length : Nat)) := Lib.hid (by rw [ib_eq, if_neg y])
        rw [HR.out]
        clear y
        go_enter Try.func67, Try.ntmps67
        go_wp2_with fail
        refine (cut_some _ T 34 _ _ HZ.out HT HB).mono ?_
        rintro e w1 ⟨a, b, rfl, hab, b1⟩
        have B1 := Lib.hid b1
        clear b1
        go_wp2
        go_ret3
        exact ⟨_, _, _, rfl, Lib.hid ⟨rfl, Rws.ba_eq (by rw [hab.out.1, take_hd]), Rws.ba_eq (by rw [hab.out.2, drop_hd1])⟩, B1.out⟩
    · have x4 : ((c.toNat : Int) == 34) = false := beq_eq_false_iff_ne.2 (fun q => e (UInt8.toNat_inj.1 (by show c.toNat = 34; omega)))
      have cb := c.toNat_lt
      by_cases y : tlT [58, 59, 44] (c :: T) = []
      · have HR : Hid (rvL (c :: T) = none) := Lib.hid (by rw [rvL, if_neg e, if_pos y])
        have HB : Hid (Lib.indexAny (c :: T) [58, 59, 44] = -1) := Lib.hid (by rw [ia_eq, if_pos y])
        rw [HR.out]
        clear y e
        go_enter Try.func67, Try.ntmps67
        go_wp2_with fail
        refine (ia_v _ _ (c :: T) [58, 59, 44] (-1) _ sg3 hs hS HB).mono ?_
        rintro e w1 ⟨rfl, b1⟩
        have B1 := Lib.hid b1
        clear b1
        go_wp2
        go_ret3
        exact ⟨_, _, _, rfl, Lib.hid rfl, B1.out⟩
      · have HR : Hid (rvL (c :: T) = some (hdT [58, 59, 44] (c :: T), tlT [58, 59, 44] (c :: T))) := Lib.hid (by rw [rvL, if_neg e, if_neg y])
        obtain ⟨m, hm⟩ : ∃ m, (hdT [58, 59, 44] (c :: T)).length = m := ⟨_, rfl⟩
        have HB : Hid (Lib.indexAny (c :: T) [58, 59, 44] = (m : Int)) := Lib.hid (by rw [ia_eq, if_neg y, hm])
        have hlt : m < s.size := by rw [← hl, ← hm]; exact hd_lt y
        have HA : Hid (s.extract 0 m = ⟨(hdT [58, 59, 44] (c :: T)).toArray⟩ ∧ s.extract m s.size = ⟨(tlT [58, 59, 44] (c :: T)).toArray⟩) := Lib.hid ⟨Rws.ba_eq (by rw [dt0, hS.out, ← hm, take_hd]), Rws.ba_eq (by rw [dtE, hS.out, ← hm, drop_hd])⟩
        rw [HR.out]
        clear y e hm
        have t1 : (m : Int).toNat = m := rfl
        go_enter Try.func67, Try.ntmps67
        go_wp2_with fail
        refine (ia_v _ _ (c :: T) [58, 59, 44] (m : Int) _ sg3 hs hS HB).mono ?_
        rintro e w1 ⟨rfl, b1⟩
        have B1 := Lib.hid b1
        clear b1
        go_wp2
        go_quiet (fail)
        go_wp2
        go_ret3
        exact ⟨_, _, _, rfl, Lib.hid ⟨rfl, HA.out.1, HA.out.2⟩, by first | exact B1.out | exact below_drewN B1.out _⟩
end Lin
end Go.Proofs.Ytdakpncfophjnaa
