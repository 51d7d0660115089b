/-
  ZoneLeft: of 7 and 8 fields. (Written by gen/gen_zonl.py.)
-/
import Derived.Test.YtpcnpacllkiieaaGreatDoorZonU
namespace Go.Proofs.YtpcnpacllkiieaaGreatDoor
open Go.RowKit
namespace Zon
open Sol Clk Cel Rul
open Opn (TxtV)
set_option maxHeartbeats 12800000 in
set_option maxRecDepth 100000 in
theorem zl_7 (y0 n0 : Int) (w : World) (hp : Pow w) (hA : Civ.Ahead w) (hm : Wrd.MaxL w) (ek : (IntKind.u64.wrap n0).tmod 6 = 4) :
    Calls Tryz.prog 9 #[.int .i64 y0, .int .i64 n0] w fun e w' => e = .returned (.bool true) ∧ Below w.heap.size w w' := by
  have HP := Lib.hid hp
  have HA := Lib.hid hA
  have HM := Lib.hid hm
  clear hp hA hm
  obtain ⟨hn, eh, hh⟩ := nat_of_u y0 9999 (by decide)
  obtain ⟨a, b, c, d, hE, ha, hb, hc, hd⟩ : ∃ a b c d : Nat, 1 + hn = 1000 * a + 100 * b + 10 * c + d ∧ a < 10 ∧ b < 10 ∧ c < 10 ∧ d < 10 := ⟨(1 + hn) / 1000, (1 + hn) / 100 % 10, (1 + hn) / 10 % 10, (1 + hn) % 10, by omega, by omega, by omega, by omega, by omega⟩
  have DV := d4_val ha hb hc hd
  have HE := Lib.hid hE
  have hV : parseV (D4 a b c d) = 1 + (hn : Int) := by rw [DV.2]; omega
  have KR := Lib.hid (left_7 (Y := D4 a b c d) (y := 1 + (hn : Int)) DV.1 hV (by omega) (by omega))
  clear hE DV hV
  have SD := Lib.hid (d4_str a b c d)
  go_enter Tryz.func9, Tryz.ntmps9
  go_upto_region 3 with fail
  go_cut [6] (fun x wx => x = .string ⟨(D4 a b c d).toArray⟩ ∧ Below w.heap.size w wx)
  case first =>
    obtain ⟨m1, hm1⟩ : ∃ m : Nat, m = 10 * a + b := ⟨_, rfl⟩
    obtain ⟨m2, hm2⟩ : ∃ m : Nat, m = 100 * a + 10 * b + c := ⟨_, rfl⟩
    have p0 : 0 ≤ 1 + (hn : Int) := by omega
    have e1 : (1 + (hn : Int)) / 1000 = (a : Int) := by have := HE.out; omega
    have e2 : (1 + (hn : Int)) / 100 = (m1 : Int) := by have := HE.out; omega
    have e3 : (1 + (hn : Int)) / 10 = (m2 : Int) := by have := HE.out; omega
    have e4 : (1 + (hn : Int)) % 10 = (d : Int) := by have := HE.out; omega
    have f1 : (1 + (hn : Int)).tdiv 1000 = (a : Int) := by rw [Int.tdiv_eq_ediv_of_nonneg p0]; exact e1
    have f2 : (1 + (hn : Int)).tdiv 100 = (m1 : Int) := by rw [Int.tdiv_eq_ediv_of_nonneg p0]; exact e2
    have f3 : (1 + (hn : Int)).tdiv 10 = (m2 : Int) := by rw [Int.tdiv_eq_ediv_of_nonneg p0]; exact e3
    have f4 : (1 + (hn : Int)).tmod 10 = (d : Int) := by rw [Int.tmod_eq_emod_of_nonneg p0]; exact e4
    have e5 : (m1 : Int) % 10 = (b : Int) := by omega
    have e6 : (m2 : Int) % 10 = (c : Int) := by omega
    have f5 : (m1 : Int).tmod 10 = (b : Int) := by rw [Int.tmod_eq_emod_of_nonneg (by omega)]; exact e5
    have f6 : (m2 : Int).tmod 10 = (c : Int) := by rw [Int.tmod_eq_emod_of_nonneg (by omega)]; exact e6
    have g1 : IntKind.i64.wrap (a : Int) = (a : Int) := IntWalk.i64_in _ (by omega)
    have g2 : IntKind.i64.wrap (m1 : Int) = (m1 : Int) := IntWalk.i64_in _ (by omega)
    have g3 : IntKind.i64.wrap (m2 : Int) = (m2 : Int) := IntWalk.i64_in _ (by omega)
    have wa : IntKind.i64.wrap ((a : Int) + 1) = (a : Int) + 1 := IntWalk.i64_in _ (by omega)
    have ta : ((a : Int) + 1).toNat = a + 1 := by omega
    have pa : 0 ≤ (a : Int) + 1 := by omega
    have ka := two_at ha
    have wb : IntKind.i64.wrap ((b : Int) + 1) = (b : Int) + 1 := IntWalk.i64_in _ (by omega)
    have tb : ((b : Int) + 1).toNat = b + 1 := by omega
    have pb : 0 ≤ (b : Int) + 1 := by omega
    have kb := two_at hb
    have wc : IntKind.i64.wrap ((c : Int) + 1) = (c : Int) + 1 := IntWalk.i64_in _ (by omega)
    have tc : ((c : Int) + 1).toNat = c + 1 := by omega
    have pc : 0 ≤ (c : Int) + 1 := by omega
    have kc := two_at hc
    have wd : IntKind.i64.wrap ((d : Int) + 1) = (d : Int) + 1 := IntWalk.i64_in _ (by omega)
    have td : ((d : Int) + 1).toNat = d + 1 := by omega
    have pd : 0 ≤ (d : Int) + 1 := by omega
    have kd := two_at hd
    clear hm1 hm2
    go_quiet (fail)
    go_wp2
    go_meet
    exact ⟨congrArg Value.string SD.out, by repeat (first | with_reducible exact Below.refl _ _ | refine below_drewN ?_ _ | refine Below.drew ?_)⟩
  case rest =>
    obtain ⟨rfl, b0⟩ := hcut
    have B0 := Lib.hid b0
    clear b0
    obtain ⟨Y, hY⟩ : ∃ D, D4 a b c d = D := ⟨_, rfl⟩
    have lD : Y.length = 4 := by rw [← hY]; rfl
    simp only [hY]
    rw [hY] at KR
    have HL : Hid (∀ t ∈ ([[50, 58, 48, 48], [45], [69, 69, 84], Y, [77, 97, 114], [83, 117, 110, 62, 61, 56], [51, 115]] : List (List UInt8)), t.length ≤ 1000) := Lib.hid (fun t ht => by
      simp only [List.mem_cons, List.mem_nil_iff, or_false] at ht
      rcases ht with rfl | rfl | rfl | rfl | rfl | rfl | rfl <;> first | omega | (simp; done))
    clear hY lD ha hb hc hd
    go_wp2_with fail
    refine (era_to _ [[50, 58, 48, 48], [45], [69, 69, 84], Y, [77, 97, 114], [83, 117, 110, 62, 61, 56], [51, 115]] 0 ⟨7200, 1, 0, [], [69, 69, 84], true, 1 + (hn : Int), 3, 3, 0, 8, 10800, 2⟩ _ (HA.out.stays (by repeat (first | with_reducible exact B0.out | with_reducible refine Below.alloc ?_ (by first | with_reducible exact Nat.le_refl _ | with_reducible exact (B0.out).size | (have := (B0.out).size; simp; omega)) _))) (HM.out.stays (by repeat (first | with_reducible exact B0.out | with_reducible refine Below.alloc ?_ (by first | with_reducible exact Nat.le_refl _ | with_reducible exact (B0.out).size | (have := (B0.out).size; simp; omega)) _))) (txt_at [[50, 58, 48, 48], [45], [69, 69, 84], Y, [77, 97, 114], [83, 117, 110, 62, 61, 56], [51, 115], [120]] 7 8 _ _ _ (by simp) (by first | rfl | simp)) HL.out (by simp) KR).mono ?_
    rintro e w1 ⟨rfl, b1⟩
    have B1 := Lib.hid (bstep (show Below w.heap.size w _ from (by repeat (first | with_reducible exact B0.out | with_reducible refine Below.alloc ?_ (by first | with_reducible exact Nat.le_refl _ | with_reducible exact (B0.out).size | (have := (B0.out).size; simp; omega)) _))) b1)
    clear b1
    simp only [EV.val]
    go_wp2_with fail
    refine (wakes10_any _ (HP.out.stays (by repeat (first | with_reducible exact B1.out | with_reducible refine Below.alloc ?_ (by first | with_reducible exact Nat.le_refl _ | with_reducible exact (B1.out).size | (have := (B1.out).size; simp; omega)) _))) (HA.out.stays (by repeat (first | with_reducible exact B1.out | with_reducible refine Below.alloc ?_ (by first | with_reducible exact Nat.le_refl _ | with_reducible exact (B1.out).size | (have := (B1.out).size; simp; omega)) _))) (HM.out.stays (by repeat (first | with_reducible exact B1.out | with_reducible refine Below.alloc ?_ (by first | with_reducible exact Nat.le_refl _ | with_reducible exact (B1.out).size | (have := (B1.out).size; simp; omega)) _)))).mono ?_
    rintro e w5 ⟨rfl, b5⟩
    go_wp2
    go_ret
    exact ⟨rfl, bstep (show Below w.heap.size w _ from (by repeat (first | with_reducible exact B1.out | with_reducible refine Below.alloc ?_ (by first | with_reducible exact Nat.le_refl _ | with_reducible exact (B1.out).size | (have := (B1.out).size; simp; omega)) _))) b5⟩
set_option maxHeartbeats 12800000 in
set_option maxRecDepth 100000 in
theorem zl_8 (y0 n0 : Int) (w : World) (hp : Pow w) (hA : Civ.Ahead w) (hm : Wrd.MaxL w) (ek : (IntKind.u64.wrap n0).tmod 6 = 5) :
    Calls Tryz.prog 9 #[.int .i64 y0, .int .i64 n0] w fun e w' => e = .returned (.bool true) ∧ Below w.heap.size w w' := by
  have HP := Lib.hid hp
  have HA := Lib.hid hA
  have HM := Lib.hid hm
  clear hp hA hm
  obtain ⟨hn, eh, hh⟩ := nat_of_u y0 9999 (by decide)
  obtain ⟨a, b, c, d, hE, ha, hb, hc, hd⟩ : ∃ a b c d : Nat, 1 + hn = 1000 * a + 100 * b + 10 * c + d ∧ a < 10 ∧ b < 10 ∧ c < 10 ∧ d < 10 := ⟨(1 + hn) / 1000, (1 + hn) / 100 % 10, (1 + hn) / 10 % 10, (1 + hn) % 10, by omega, by omega, by omega, by omega, by omega⟩
  have DV := d4_val ha hb hc hd
  have HE := Lib.hid hE
  have hV : parseV (D4 a b c d) = 1 + (hn : Int) := by rw [DV.2]; omega
  have KR := Lib.hid (left_8 (D4 a b c d))
  clear hE DV hV
  have SD := Lib.hid (d4_str a b c d)
  go_enter Tryz.func9, Tryz.ntmps9
  go_upto_region 3 with fail
  go_cut [6] (fun x wx => x = .string ⟨(D4 a b c d).toArray⟩ ∧ Below w.heap.size w wx)
  case first =>
    obtain ⟨m1, hm1⟩ : ∃ m : Nat, m = 10 * a + b := ⟨_, rfl⟩
    obtain ⟨m2, hm2⟩ : ∃ m : Nat, m = 100 * a + 10 * b + c := ⟨_, rfl⟩
    have p0 : 0 ≤ 1 + (hn : Int) := by omega
    have e1 : (1 + (hn : Int)) / 1000 = (a : Int) := by have := HE.out; omega
    have e2 : (1 + (hn : Int)) / 100 = (m1 : Int) := by have := HE.out; omega
    have e3 : (1 + (hn : Int)) / 10 = (m2 : Int) := by have := HE.out; omega
    have e4 : (1 + (hn : Int)) % 10 = (d : Int) := by have := HE.out; omega
    have f1 : (1 + (hn : Int)).tdiv 1000 = (a : Int) := by rw [Int.tdiv_eq_ediv_of_nonneg p0]; exact e1
    have f2 : (1 + (hn : Int)).tdiv 100 = (m1 : Int) := by rw [Int.tdiv_eq_ediv_of_nonneg p0]; exact e2
    have f3 : (1 + (hn : Int)).tdiv 10 = (m2 : Int) := by rw [Int.tdiv_eq_ediv_of_nonneg p0]; exact e3
    have f4 : (1 + (hn : Int)).tmod 10 = (d : Int) := by rw [Int.tmod_eq_emod_of_nonneg p0]; exact e4
    have e5 : (m1 : Int) % 10 = (b : Int) := by omega
    have e6 : (m2 : Int) % 10 = (c : Int) := by omega
    have f5 : (m1 : Int).tmod 10 = (b : Int) := by rw [Int.tmod_eq_emod_of_nonneg (by omega)]; exact e5
    have f6 : (m2 : Int).tmod 10 = (c : Int) := by rw [Int.tmod_eq_emod_of_nonneg (by omega)]; exact e6
    have g1 : IntKind.i64.wrap (a : Int) = (a : Int) := IntWalk.i64_in _ (by omega)
    have g2 : IntKind.i64.wrap (m1 : Int) = (m1 : Int) := IntWalk.i64_in _ (by omega)
    have g3 : IntKind.i64.wrap (m2 : Int) = (m2 : Int) := IntWalk.i64_in _ (by omega)
    have wa : IntKind.i64.wrap ((a : Int) + 1) = (a : Int) + 1 := IntWalk.i64_in _ (by omega)
    have ta : ((a : Int) + 1).toNat = a + 1 := by omega
    have pa : 0 ≤ (a : Int) + 1 := by omega
    have ka := two_at ha
    have wb : IntKind.i64.wrap ((b : Int) + 1) = (b : Int) + 1 := IntWalk.i64_in _ (by omega)
    have tb : ((b : Int) + 1).toNat = b + 1 := by omega
    have pb : 0 ≤ (b : Int) + 1 := by omega
    have kb := two_at hb
    have wc : IntKind.i64.wrap ((c : Int) + 1) = (c : Int) + 1 := IntWalk.i64_in _ (by omega)
    have tc : ((c : Int) + 1).toNat = c + 1 := by omega
    have pc : 0 ≤ (c : Int) + 1 := by omega
    have kc := two_at hc
    have wd : IntKind.i64.wrap ((d : Int) + 1) = (d : Int) + 1 := IntWalk.i64_in _ (by omega)
    have td : ((d : Int) + 1).toNat = d + 1 := by omega
    have pd : 0 ≤ (d : Int) + 1 := by omega
    have kd := two_at hd
    clear hm1 hm2
    go_quiet (fail)
    go_wp2
    go_meet
    exact ⟨congrArg Value.string SD.out, by repeat (first | with_reducible exact Below.refl _ _ | refine below_drewN ?_ _ | refine Below.drew ?_)⟩
  case rest =>
    obtain ⟨rfl, b0⟩ := hcut
    have B0 := Lib.hid b0
    clear b0
    obtain ⟨Y, hY⟩ : ∃ D, D4 a b c d = D := ⟨_, rfl⟩
    have lD : Y.length = 4 := by rw [← hY]; rfl
    simp only [hY]
    rw [hY] at KR
    have HL : Hid (∀ t ∈ ([[50, 58, 48, 48], [45], [69, 69, 84], Y, [77, 97, 114], [83, 117, 110, 62, 61, 56], [51, 115], [120]] : List (List UInt8)), t.length ≤ 1000) := Lib.hid (fun t ht => by
      simp only [List.mem_cons, List.mem_nil_iff, or_false] at ht
      rcases ht with rfl | rfl | rfl | rfl | rfl | rfl | rfl | rfl <;> first | omega | (simp; done))
    clear hY lD ha hb hc hd
    go_wp2_with fail
    refine (era_to _ [[50, 58, 48, 48], [45], [69, 69, 84], Y, [77, 97, 114], [83, 117, 110, 62, 61, 56], [51, 115], [120]] 6 EV.zero _ (HA.out.stays (by repeat (first | with_reducible exact B0.out | with_reducible refine Below.alloc ?_ (by first | with_reducible exact Nat.le_refl _ | with_reducible exact (B0.out).size | (have := (B0.out).size; simp; omega)) _))) (HM.out.stays (by repeat (first | with_reducible exact B0.out | with_reducible refine Below.alloc ?_ (by first | with_reducible exact Nat.le_refl _ | with_reducible exact (B0.out).size | (have := (B0.out).size; simp; omega)) _))) (txt_at [[50, 58, 48, 48], [45], [69, 69, 84], Y, [77, 97, 114], [83, 117, 110, 62, 61, 56], [51, 115], [120]] 8 8 _ _ _ (by simp) (by first | rfl | simp)) HL.out (by simp) KR).mono ?_
    rintro e w1 ⟨rfl, b1⟩
    have B1 := Lib.hid (bstep (show Below w.heap.size w _ from (by repeat (first | with_reducible exact B0.out | with_reducible refine Below.alloc ?_ (by first | with_reducible exact Nat.le_refl _ | with_reducible exact (B0.out).size | (have := (B0.out).size; simp; omega)) _))) b1)
    clear b1
    simp only [EV.val, EV.zero]
    go_wp2_with fail
    refine (wakes10_any _ (HP.out.stays (by repeat (first | with_reducible exact B1.out | with_reducible refine Below.alloc ?_ (by first | with_reducible exact Nat.le_refl _ | with_reducible exact (B1.out).size | (have := (B1.out).size; simp; omega)) _))) (HA.out.stays (by repeat (first | with_reducible exact B1.out | with_reducible refine Below.alloc ?_ (by first | with_reducible exact Nat.le_refl _ | with_reducible exact (B1.out).size | (have := (B1.out).size; simp; omega)) _))) (HM.out.stays (by repeat (first | with_reducible exact B1.out | with_reducible refine Below.alloc ?_ (by first | with_reducible exact Nat.le_refl _ | with_reducible exact (B1.out).size | (have := (B1.out).size; simp; omega)) _)))).mono ?_
    rintro e w5 ⟨rfl, b5⟩
    go_wp2
    go_ret
    exact ⟨rfl, bstep (show Below w.heap.size w _ from (by repeat (first | with_reducible exact B1.out | with_reducible refine Below.alloc ?_ (by first | with_reducible exact Nat.le_refl _ | with_reducible exact (B1.out).size | (have := (B1.out).size; simp; omega)) _))) b5⟩
end Zon
end Go.Proofs.YtpcnpacllkiieaaGreatDoor
