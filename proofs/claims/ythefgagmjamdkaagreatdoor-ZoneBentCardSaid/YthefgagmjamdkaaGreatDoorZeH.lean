/-
  What layer 10's laws take: Heavy. (Written by gen/gen_zeh.py.)
-/
import Derived.Test.YthefgagmjamdkaaGreatDoorZeA
namespace Go.Proofs.YthefgagmjamdkaaGreatDoor
open Go.RowKit
namespace Zon
open Sol Clk Cel Rul Rs

set_option maxHeartbeats 3200000 in
set_option maxRecDepth 100000 in
theorem hvn_no (st kd sv yr mo k v d n c : Int) (ru fm : List UInt8) (un : Bool) (w : World) (h1 : ru.length ≤ 200) (h2 : fm.length ≤ 200) :
    Calls Tryz.prog 6 #[.agg #[.int .i64 st, .int .i64 kd, .int .i64 sv, .string ⟨ru.toArray⟩, .string ⟨fm.toArray⟩, .bool un, .int .i64 yr, .int .i64 mo, .int .i64 k, .int .i64 v, .int .i64 d, .int .i64 n, .int .i64 c]] w fun e w' => e = .returned (.bool false) ∧ Below w.heap.size w w' := by
  have s1 : (⟨ru.toArray⟩ : ByteArray).size = ru.length := rfl
  have s2 : (⟨fm.toArray⟩ : ByteArray).size = fm.length := rfl
  go_enter Tryz.func6, Tryz.ntmps6
  go_wp2
  go_ret
  exact ⟨by first | rfl | exact ret_b (by simp <;> omega), by repeat (first | with_reducible exact Below.refl _ _ | refine Below.drew ?_ | refine Below.alloc ?_ (by simp; try omega) _)⟩
set_option maxHeartbeats 3200000 in
set_option maxRecDepth 100000 in
theorem hvn_ru (st kd sv yr mo k v d n c : Int) (ru fm : List UInt8) (un : Bool) (w : World) (m : ru.length ≤ maxLen) (h1 : 200 < ru.length) :
    Calls Tryz.prog 6 #[.agg #[.int .i64 st, .int .i64 kd, .int .i64 sv, .string ⟨ru.toArray⟩, .string ⟨fm.toArray⟩, .bool un, .int .i64 yr, .int .i64 mo, .int .i64 k, .int .i64 v, .int .i64 d, .int .i64 n, .int .i64 c]] w fun e w' => e = .returned (.bool true) ∧ Below w.heap.size w w' := by
  unfold maxLen at m
  have s1 : (⟨ru.toArray⟩ : ByteArray).size = ru.length := rfl
  have s2 : (⟨fm.toArray⟩ : ByteArray).size = fm.length := rfl
  go_enter Tryz.func6, Tryz.ntmps6
  go_wp2
  go_ret
  exact ⟨by first | rfl | exact ret_b (by simp <;> omega), by repeat (first | with_reducible exact Below.refl _ _ | refine Below.drew ?_ | refine Below.alloc ?_ (by simp; try omega) _)⟩
set_option maxHeartbeats 3200000 in
set_option maxRecDepth 100000 in
theorem hvn_fm (st kd sv yr mo k v d n c : Int) (ru fm : List UInt8) (un : Bool) (w : World) (m : fm.length ≤ maxLen) (h1 : ru.length ≤ 200) (h2 : 200 < fm.length) :
    Calls Tryz.prog 6 #[.agg #[.int .i64 st, .int .i64 kd, .int .i64 sv, .string ⟨ru.toArray⟩, .string ⟨fm.toArray⟩, .bool un, .int .i64 yr, .int .i64 mo, .int .i64 k, .int .i64 v, .int .i64 d, .int .i64 n, .int .i64 c]] w fun e w' => e = .returned (.bool true) ∧ Below w.heap.size w w' := by
  unfold maxLen at m
  have s1 : (⟨ru.toArray⟩ : ByteArray).size = ru.length := rfl
  have s2 : (⟨fm.toArray⟩ : ByteArray).size = fm.length := rfl
  go_enter Tryz.func6, Tryz.ntmps6
  go_wp2
  go_ret
  exact ⟨by first | rfl | exact ret_b (by simp <;> omega), by repeat (first | with_reducible exact Below.refl _ _ | refine Below.drew ?_ | refine Below.alloc ?_ (by simp; try omega) _)⟩
theorem hvn_yes (st kd sv yr mo k v d n c : Int) (ru fm : List UInt8) (un : Bool) (w : World) (m1 : ru.length ≤ maxLen) (m2 : fm.length ≤ maxLen) (h : ¬ (ru.length ≤ 200 ∧ fm.length ≤ 200)) :
    Calls Tryz.prog 6 #[.agg #[.int .i64 st, .int .i64 kd, .int .i64 sv, .string ⟨ru.toArray⟩, .string ⟨fm.toArray⟩, .bool un, .int .i64 yr, .int .i64 mo, .int .i64 k, .int .i64 v, .int .i64 d, .int .i64 n, .int .i64 c]] w fun e w' => e = .returned (.bool true) ∧ Below w.heap.size w w' := by
  by_cases h1 : 200 < ru.length
  · exact hvn_ru st kd sv yr mo k v d n c ru fm un w m1 h1
  · exact hvn_fm st kd sv yr mo k v d n c ru fm un w m2 (by omega) (by omega)
def HzQ (NM : List UInt8) (L : List EV) (e : Ending) : Prop := ∃ b : Bool, e = .returned (.bool b) ∧ (b = false → LightE NM L)
theorem HzQ.yes (NM : List UInt8) (L : List EV) : HzQ NM L (.returned (.bool true)) := ⟨true, rfl, fun h => by cases h⟩
theorem HzQ.any {NM : List UInt8} {L : List EV} (h : LightE NM L) (b : Bool) : HzQ NM L (.returned (.bool b)) := ⟨b, rfl, fun _ => h⟩
set_option maxHeartbeats 12800000 in
set_option maxRecDepth 100000 in
theorem hvz_to (NM : List UInt8) (v : Value) (L : List EV) (w : World) (hv : ErV w v L) (m : NM.length ≤ maxLen) (hl : L.length ≤ maxLen) (hbd : Hid (∀ e ∈ L, BdE e)) :
    Calls Tryz.prog 5 #[.agg #[.string ⟨NM.toArray⟩, v]] w fun x w' => HzQ NM L x ∧ Below w.heap.size w w' := by
  obtain ⟨a, c0, rfl⟩ := hv.slice
  obtain ⟨N, hN⟩ : ∃ N, L.length = N := ⟨_, rfl⟩
  rw [hN] at hv hl ⊢
  have HN := Lib.hid hN
  clear hN
  unfold maxLen at m hl
  have s1 : (⟨NM.toArray⟩ : ByteArray).size = NM.length := rfl
  have ENT : True := trivial
  clear ENT
  have C0 := Lib.hid (Cs.new w [.string ⟨NM.toArray⟩, .slice a N c0] 24)
  have B0 := Lib.hid ((Below.refl w.heap.size w).alloc (Nat.le_refl _) (Obj.cells #[.string ⟨NM.toArray⟩, .slice a N c0] 24))
  have V0 := Lib.hid (RowV.below hv B0.out)
  clear hv
  by_cases g1 : 200 < NM.length
  · go_enter Tryz.func5, Tryz.ntmps5
    go_wp2
    go_ret
    exact ⟨HzQ.yes NM L, B0.out⟩
  by_cases g2 : 60 < N
  · go_enter Tryz.func5, Tryz.ntmps5
    go_wp2
    go_ret
    exact ⟨HzQ.yes NM L, B0.out⟩
  go_enter Tryz.func5, Tryz.ntmps5
  go_wp2
  go_loopw [3] (fun iv wr => ∃ k : Nat, k ≤ N ∧ iv = .int .i64 k ∧ Hid (∀ e ∈ L.take k, e.ru.length ≤ 200 ∧ e.fm.length ≤ 200) ∧ Hid (Cs w.heap.size wr [.string ⟨NM.toArray⟩, .slice a N c0]) ∧ Hid (Below w.heap.size w wr) ∧ Hid (ErV wr (.slice a N c0) L)) (fun i _ => N - (intOf i).toNat)
  case atStart => exact ⟨0, Nat.zero_le _, rfl, Lib.hid (by simp), C0, B0, V0⟩
  case round =>
    obtain ⟨k, hk, rfl, hall, HC, HB, HV⟩ := hrel
    obtain ⟨wo, rfl⟩ : ∃ wo : World, wo = wr := ⟨_, rfl⟩
    have z1 := (HC.out.2 1 _ rfl).1
    clear C0 B0 V0
    by_cases hlt : k < N
    · have hkp : k < L.length := by rw [HN.out]; exact hlt
      obtain ⟨b, off, c2, e1, hb, hrow⟩ := RowV.form HV.out (by omega)
      rw [HN.out] at e1
      injection e1 with e1 e2 e3
      subst e1 e3
      have r0 := hrow k hkp
      obtain ⟨r, hr⟩ : ∃ r, L[k]'hkp = r := ⟨_, rfl⟩
      rw [hr] at r0
      have HNX : Hid (r.ru.length ≤ 200 ∧ r.fm.length ≤ 200 → ∀ e ∈ L.take (k + 1), e.ru.length ≤ 200 ∧ e.fm.length ≤ 200) := Lib.hid (fun q x hx => by
        rw [List.take_succ_eq_append_getElem hkp, List.mem_append] at hx
        rcases hx with hx | hx
        · exact hall.out x hx
        · rw [List.mem_singleton] at hx; rw [hx, hr]; exact q)
      obtain ⟨bn, bl⟩ := hbd.out r (hr ▸ List.getElem_mem hkp)
      clear hr hkp hall hrow e2
      obtain ⟨st, kd, sv, ru, fm, un, yr, mo, k9, v, d, n, c⟩ := r
      have R0 : Hid (wo.rangeAt b (off + k * 13) [.int .i64 st, .int .i64 kd, .int .i64 sv, .string ⟨ru.toArray⟩, .string ⟨fm.toArray⟩, .bool un, .int .i64 yr, .int .i64 mo, .int .i64 k9, .int .i64 v, .int .i64 d, .int .i64 n, .int .i64 c]) := Lib.hid r0
      clear r0
      by_cases g3 : ru.length ≤ 200 ∧ fm.length ≤ 200
      · have HX := Lib.hid (HNX.out g3)
        clear HNX bn bl
        obtain ⟨g3, g4⟩ := g3
        go_wp2_with (refine ldE R0.out rfl (by rfl) (by rfl) (by rfl) ?_; intro K2 hK2; go_simp)
        refine (hvn_no st kd sv yr mo k9 v d n c ru fm un _ g3 g4).mono ?_
        rintro e w1 ⟨rfl, hb1⟩
        have HC1 := Lib.hid (HC.out.below hb1)
        have HV1 := Lib.hid (RowV.below HV.out hb1)
        have HB1 := Lib.hid (bstep HB.out hb1)
        clear hb1 z1 HC HV HB R0
        go_wp2
        go_roundw
        case rel => exact ⟨k + 1, by omega, by go_num, HX, HC1, HB1, HV1⟩
        case measure => simp [intOf]; omega
      · clear HNX
        go_wp2_with (refine ldE R0.out rfl (by rfl) (by rfl) (by rfl) ?_; intro K2 hK2; go_simp)
        refine (hvn_yes st kd sv yr mo k9 v d n c ru fm un _ bn bl g3).mono ?_
        rintro e w1 ⟨rfl, hb1⟩
        have HB1 := Lib.hid (bstep HB.out hb1)
        clear hb1
        go_wp2
        go_ret
        exact ⟨HzQ.yes NM L, HB1.out⟩
    · have HX : LightE NM L := ⟨by omega, by rw [HN.out]; omega, by
        have := hall.out
        rw [List.take_of_length_le (by rw [HN.out]; omega)] at this
        exact this⟩
      go_wp2
      go_ret
      exact ⟨HzQ.any HX _, HB.out⟩
end Zon
end Go.Proofs.YthefgagmjamdkaaGreatDoor
