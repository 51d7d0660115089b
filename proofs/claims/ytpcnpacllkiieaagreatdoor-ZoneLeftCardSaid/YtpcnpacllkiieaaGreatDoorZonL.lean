/-
  ZoneKinds: a saving's field is none, a time, or a rule's name; a name of a digit first is none. (Written by gen/gen_zonl.py.)
-/
import Derived.Test.YtpcnpacllkiieaaGreatDoorZonW
import Derived.Test.YtpcnpacllkiieaaGreatDoorClForms
namespace Go.Proofs.YtpcnpacllkiieaaGreatDoor
open Go.RowKit
namespace Zon
open Sol Clk Cel Rul
open Opn (TxtV)
theorem txt_new (L : List (List UInt8)) (n cp : Nat) (t : TypeId) (w : World) (hn : n ≤ L.length) : TxtV (w.alloc (Obj.cells (L.map Opn.sv).toArray t)) (.slice (some ⟨w.heap.size, 0, none⟩) n cp) (L.take n) := by
  refine ⟨_, _, _, rfl, by simp; omega, fun j hj => ⟨w.heap.size, 0, rfl, by simp, ?_⟩⟩
  have h1 : j < L.length := by simp at hj; omega
  rw [Nat.zero_add, World.cell?_alloc_at _ _ _ _ rfl, List.getElem?_toArray, List.getElem?_map, List.getElem?_eq_getElem h1]
  simp [Opn.sv]
theorem txt_at (L : List (List UInt8)) (n cp : Nat) (t : TypeId) (g : Nat) (w : World) (hn : n ≤ L.length) (hg : g = w.heap.size) : TxtV (w.alloc (Obj.cells (L.map Opn.sv).toArray t)) (.slice (some ⟨g, 0, none⟩) n cp) (L.take n) := by
  subst hg
  exact txt_new L n cp t w hn
theorem kd_all : ∀ k < 24, erP [[49], D2 (k / 10) (k % 10), [88]] = (0, ⟨3600, 2, 3600 * (k : Int), [], [88], false, 0, 0, 0, 0, 0, 0, 0⟩) ∧ erP [[49], 69 :: D2 (k / 10) (k % 10), [88]] = (0, ⟨3600, 3, 0, 69 :: D2 (k / 10) (k % 10), [88], false, 0, 0, 0, 0, 0, 0, 0⟩) ∧ erP [[49], D2 (k / 10) (k % 10) ++ [69], [88]] = (11, EV.zero) := by decide +kernel
theorem kd_no : erP [[49], [45], [88]] = (0, ⟨3600, 1, 0, [], [88], false, 0, 0, 0, 0, 0, 0, 0⟩) := by decide +kernel
theorem kd_at {k i j : Nat} (h : k < 24) (e : k = 10 * i + j) (hj : j < 10) : erP [[49], D2 i j, [88]] = (0, ⟨3600, 2, 3600 * (k : Int), [], [88], false, 0, 0, 0, 0, 0, 0, 0⟩) ∧ erP [[49], 69 :: D2 i j, [88]] = (0, ⟨3600, 3, 0, 69 :: D2 i j, [88], false, 0, 0, 0, 0, 0, 0, 0⟩) ∧ erP [[49], D2 i j ++ [69], [88]] = (11, EV.zero) := by
  have := kd_all k h
  rw [show k / 10 = i by omega, show k % 10 = j by omega] at this
  exact this
set_option maxHeartbeats 12800000 in
set_option maxRecDepth 100000 in
theorem zkinds_any (h0 : Int) (w : World) (hp : Pow w) (hA : Civ.Ahead w) (hm : Wrd.MaxL w) :
    Calls Tryz.prog 12 #[.int .i64 h0] w fun e w' => e = .returned (.bool true) ∧ Below w.heap.size w w' := by
  have HP := Lib.hid hp
  have HA := Lib.hid hA
  have HM := Lib.hid hm
  clear hp hA hm
  obtain ⟨hn, eh, hh⟩ := nat_of_u h0 24 (by decide)
  obtain ⟨a, b, hE, ha, hb⟩ : ∃ i j : Nat, hn = 10 * i + j ∧ i < 10 ∧ j < 10 := ⟨hn / 10, hn % 10, by omega, by omega, by omega⟩
  have HE := Lib.hid hE
  have KD := kd_at (show hn < 24 by omega) hE hb
  have K1 := Lib.hid KD.1
  have K2 := Lib.hid KD.2.1
  have K3 := Lib.hid KD.2.2
  have K0 := Lib.hid kd_no
  clear hE KD
  go_enter Tryz.func12, Tryz.ntmps12
  go_upto_region 3 with fail
  go_cut [4] (fun x wx => x = .string ⟨(D2 a b).toArray⟩ ∧ Below w.heap.size w wx)
  case first =>
    have e1 : (hn : Int) / 10 = (a : Int) := by have := HE.out; omega
    have e2 : (hn : Int) % 10 = (b : Int) := by have := HE.out; omega
    have w1 : IntKind.i64.wrap ((a : Int) + 1) = (a : Int) + 1 := IntWalk.i64_in _ (by omega)
    have w2 : IntKind.i64.wrap ((b : Int) + 1) = (b : Int) + 1 := IntWalk.i64_in _ (by omega)
    have t1 : ((a : Int) + 1).toNat = a + 1 := by omega
    have t2 : ((b : Int) + 1).toNat = b + 1 := by omega
    have k1 := two_at ha
    have k2 := two_at hb
    have p1 : 0 ≤ (a : Int) + 1 := by omega
    have p2 : 0 ≤ (b : Int) + 1 := by omega
    go_quiet (fail)
    go_wp2
    go_meet
    exact ⟨congrArg Value.string (d2_str _ _), by repeat (first | with_reducible exact Below.refl _ _ | refine below_drewN ?_ _ | refine Below.drew ?_)⟩
  case rest =>
    obtain ⟨rfl, b0⟩ := hcut
    have B0 := Lib.hid b0
    clear b0
    obtain ⟨D, hD⟩ : ∃ D, D2 a b = D := ⟨_, rfl⟩
    have lD : D.length = 2 := by rw [← hD]; rfl
    rw [hD] at K1 K2 K3
    simp only [hD]
    have HL : Hid (∀ X : List UInt8, X.length ≤ 3 → ∀ t ∈ [[49], X, [88]], t.length ≤ 1000) := Lib.hid (fun X hX t ht => by
      simp only [List.mem_cons, List.mem_nil_iff, or_false] at ht
      rcases ht with rfl | rfl | rfl <;> first | omega | (simp; done))
    have sD : (⟨D.toArray⟩ : ByteArray).size = 2 := lD
    have LD := Lib.hid lD
    have cE : (⟨#[69]⟩ ++ ⟨D.toArray⟩ : ByteArray) = ⟨(69 :: D).toArray⟩ := ByteArray.ext (by apply Array.toList_inj.1; simp)
    have cF : (⟨D.toArray⟩ ++ ⟨#[69]⟩ : ByteArray) = ⟨(D ++ [69]).toArray⟩ := ByteArray.ext (by apply Array.toList_inj.1; simp)
    clear hD lD ha hb
    go_wp2_with fail
    refine (era_to _ [[49], [45], [88]] 0 ⟨3600, 1, 0, [], [88], false, 0, 0, 0, 0, 0, 0, 0⟩ _ (HA.out.stays (by repeat (first | with_reducible exact B0.out | with_reducible refine Below.alloc ?_ (by first | with_reducible exact Nat.le_refl _ | with_reducible exact (B0.out).size | (have := (B0.out).size; simp; omega)) _))) (HM.out.stays (by repeat (first | with_reducible exact B0.out | with_reducible refine Below.alloc ?_ (by first | with_reducible exact Nat.le_refl _ | with_reducible exact (B0.out).size | (have := (B0.out).size; simp; omega)) _))) (txt_at [[49], [45], [88]] 3 3 _ _ _ (by decide) (by first | rfl | simp)) (by decide) (by decide) K0).mono ?_
    rintro e w1 ⟨rfl, b1⟩
    have B1 := Lib.hid (bstep (show Below w.heap.size w _ from (by repeat (first | with_reducible exact B0.out | with_reducible refine Below.alloc ?_ (by first | with_reducible exact Nat.le_refl _ | with_reducible exact (B0.out).size | (have := (B0.out).size; simp; omega)) _))) b1)
    clear b1
    simp only [EV.val]
    have C1 := Lib.hid (Cs.new w1 [.int .i64 3600, .int .i64 1, .int .i64 0, .string ⟨([] : List UInt8).toArray⟩, .string ⟨([88] : List UInt8).toArray⟩, .bool false, .int .i64 0, .int .i64 0, .int .i64 0, .int .i64 0, .int .i64 0, .int .i64 0, .int .i64 0] 54)
    go_wp2_with fail
    refine (era_to _ [[49], D, [88]] 0 ⟨3600, 2, 3600 * (hn : Int), [], [88], false, 0, 0, 0, 0, 0, 0, 0⟩ _ (HA.out.stays (by repeat (first | with_reducible exact B1.out | with_reducible refine Below.alloc ?_ (by first | with_reducible exact Nat.le_refl _ | with_reducible exact (B1.out).size | (have := (B1.out).size; simp; omega)) _))) (HM.out.stays (by repeat (first | with_reducible exact B1.out | with_reducible refine Below.alloc ?_ (by first | with_reducible exact Nat.le_refl _ | with_reducible exact (B1.out).size | (have := (B1.out).size; simp; omega)) _))) (txt_at [[49], D, [88]] 3 3 _ _ _ (by simp) (by first | rfl | simp)) (HL.out _ (by rw [LD.out]; decide)) (by simp) K1).mono ?_
    rintro e w2 ⟨rfl, b2⟩
    have B2 := Lib.hid (bstep (show Below w.heap.size w _ from (by repeat (first | with_reducible exact B1.out | with_reducible refine Below.alloc ?_ (by first | with_reducible exact Nat.le_refl _ | with_reducible exact (B1.out).size | (have := (B1.out).size; simp; omega)) _))) b2)
    have C1 := Lib.hid (Cs.below (C1.out.alloc _) b2)
    clear b2
    simp only [EV.val]
    have C2 := Lib.hid (Cs.new w2 [.int .i64 3600, .int .i64 2, .int .i64 (3600 * (hn : Int)), .string ⟨([] : List UInt8).toArray⟩, .string ⟨([88] : List UInt8).toArray⟩, .bool false, .int .i64 0, .int .i64 0, .int .i64 0, .int .i64 0, .int .i64 0, .int .i64 0, .int .i64 0] 54)
    go_wp2_with fail
    refine (era_to _ [[49], 69 :: D, [88]] 0 ⟨3600, 3, 0, 69 :: D, [88], false, 0, 0, 0, 0, 0, 0, 0⟩ _ (HA.out.stays (by repeat (first | with_reducible exact B2.out | with_reducible refine Below.alloc ?_ (by first | with_reducible exact Nat.le_refl _ | with_reducible exact (B2.out).size | (have := (B2.out).size; simp; omega)) _))) (HM.out.stays (by repeat (first | with_reducible exact B2.out | with_reducible refine Below.alloc ?_ (by first | with_reducible exact Nat.le_refl _ | with_reducible exact (B2.out).size | (have := (B2.out).size; simp; omega)) _))) (txt_at [[49], 69 :: D, [88]] 3 3 _ _ _ (by simp) (by first | rfl | simp)) (HL.out _ (by rw [List.length_cons, LD.out]; decide)) (by simp) K2).mono ?_
    rintro e w3 ⟨rfl, b3⟩
    have B3 := Lib.hid (bstep (show Below w.heap.size w _ from (by repeat (first | with_reducible exact B2.out | with_reducible refine Below.alloc ?_ (by first | with_reducible exact Nat.le_refl _ | with_reducible exact (B2.out).size | (have := (B2.out).size; simp; omega)) _))) b3)
    have C1 := Lib.hid (Cs.below ((C1.out.alloc _).alloc _) b3)
    have C2 := Lib.hid (Cs.below (C2.out.alloc _) b3)
    clear b3
    simp only [EV.val]
    have C3 := Lib.hid (Cs.new w3 [.int .i64 3600, .int .i64 3, .int .i64 0, .string ⟨(69 :: D : List UInt8).toArray⟩, .string ⟨([88] : List UInt8).toArray⟩, .bool false, .int .i64 0, .int .i64 0, .int .i64 0, .int .i64 0, .int .i64 0, .int .i64 0, .int .i64 0] 54)
    go_wp2_with fail
    refine (era_to _ [[49], D ++ [69], [88]] 11 EV.zero _ (HA.out.stays (by repeat (first | with_reducible exact B3.out | with_reducible refine Below.alloc ?_ (by first | with_reducible exact Nat.le_refl _ | with_reducible exact (B3.out).size | (have := (B3.out).size; simp; omega)) _))) (HM.out.stays (by repeat (first | with_reducible exact B3.out | with_reducible refine Below.alloc ?_ (by first | with_reducible exact Nat.le_refl _ | with_reducible exact (B3.out).size | (have := (B3.out).size; simp; omega)) _))) (txt_at [[49], D ++ [69], [88]] 3 3 _ _ _ (by simp) (by first | rfl | simp)) (HL.out _ (by rw [List.length_append, LD.out]; decide)) (by simp) K3).mono ?_
    rintro e w4 ⟨rfl, b4⟩
    have B4 := Lib.hid (bstep (show Below w.heap.size w _ from (by repeat (first | with_reducible exact B3.out | with_reducible refine Below.alloc ?_ (by first | with_reducible exact Nat.le_refl _ | with_reducible exact (B3.out).size | (have := (B3.out).size; simp; omega)) _))) b4)
    have C1 := Lib.hid (Cs.below ((C1.out.alloc _).alloc _) b4)
    have C2 := Lib.hid (Cs.below ((C2.out.alloc _).alloc _) b4)
    have C3 := Lib.hid (Cs.below (C3.out.alloc _) b4)
    clear b4
    simp only [EV.val, EV.zero]
    have q1 := ((C1.out.alloc (Obj.cells #[.int .i64 0, .int .i64 0, .int .i64 0, .string ⟨([] : List UInt8).toArray⟩, .string ⟨([] : List UInt8).toArray⟩, .bool false, .int .i64 0, .int .i64 0, .int .i64 0, .int .i64 0, .int .i64 0, .int .i64 0, .int .i64 0] 54)).2 1 _ rfl).1
    have r1 := ((C2.out.alloc (Obj.cells #[.int .i64 0, .int .i64 0, .int .i64 0, .string ⟨([] : List UInt8).toArray⟩, .string ⟨([] : List UInt8).toArray⟩, .bool false, .int .i64 0, .int .i64 0, .int .i64 0, .int .i64 0, .int .i64 0, .int .i64 0, .int .i64 0] 54)).2 1 _ rfl).1
    have r2 := ((C2.out.alloc (Obj.cells #[.int .i64 0, .int .i64 0, .int .i64 0, .string ⟨([] : List UInt8).toArray⟩, .string ⟨([] : List UInt8).toArray⟩, .bool false, .int .i64 0, .int .i64 0, .int .i64 0, .int .i64 0, .int .i64 0, .int .i64 0, .int .i64 0] 54)).2 2 _ rfl).1
    have r3 := ((C2.out.alloc (Obj.cells #[.int .i64 0, .int .i64 0, .int .i64 0, .string ⟨([] : List UInt8).toArray⟩, .string ⟨([] : List UInt8).toArray⟩, .bool false, .int .i64 0, .int .i64 0, .int .i64 0, .int .i64 0, .int .i64 0, .int .i64 0, .int .i64 0] 54)).2 3 _ rfl).1
    have s1 := ((C3.out.alloc (Obj.cells #[.int .i64 0, .int .i64 0, .int .i64 0, .string ⟨([] : List UInt8).toArray⟩, .string ⟨([] : List UInt8).toArray⟩, .bool false, .int .i64 0, .int .i64 0, .int .i64 0, .int .i64 0, .int .i64 0, .int .i64 0, .int .i64 0] 54)).2 1 _ rfl).1
    have s2 := ((C3.out.alloc (Obj.cells #[.int .i64 0, .int .i64 0, .int .i64 0, .string ⟨([] : List UInt8).toArray⟩, .string ⟨([] : List UInt8).toArray⟩, .bool false, .int .i64 0, .int .i64 0, .int .i64 0, .int .i64 0, .int .i64 0, .int .i64 0, .int .i64 0] 54)).2 2 _ rfl).1
    have s3 := ((C3.out.alloc (Obj.cells #[.int .i64 0, .int .i64 0, .int .i64 0, .string ⟨([] : List UInt8).toArray⟩, .string ⟨([] : List UInt8).toArray⟩, .bool false, .int .i64 0, .int .i64 0, .int .i64 0, .int .i64 0, .int .i64 0, .int .i64 0, .int .i64 0] 54)).2 3 _ rfl).1
    go_wp2_with fail
    refine (wakes10_any _ (HP.out.stays (by repeat (first | with_reducible exact B4.out | with_reducible refine Below.alloc ?_ (by first | with_reducible exact Nat.le_refl _ | with_reducible exact (B4.out).size | (have := (B4.out).size; simp; omega)) _))) (HA.out.stays (by repeat (first | with_reducible exact B4.out | with_reducible refine Below.alloc ?_ (by first | with_reducible exact Nat.le_refl _ | with_reducible exact (B4.out).size | (have := (B4.out).size; simp; omega)) _))) (HM.out.stays (by repeat (first | with_reducible exact B4.out | with_reducible refine Below.alloc ?_ (by first | with_reducible exact Nat.le_refl _ | with_reducible exact (B4.out).size | (have := (B4.out).size; simp; omega)) _)))).mono ?_
    rintro e w5 ⟨rfl, b5⟩
    go_wp2
    go_ret
    exact ⟨rfl, bstep (show Below w.heap.size w _ from (by repeat (first | with_reducible exact B4.out | with_reducible refine Below.alloc ?_ (by first | with_reducible exact Nat.le_refl _ | with_reducible exact (B4.out).size | (have := (B4.out).size; simp; omega)) _))) b5⟩
end Zon
end Go.Proofs.YtpcnpacllkiieaaGreatDoor
