/-
  Contracts of package atform: letter, isKind, within, Check, Utc, Parse, Text.
-/
import Derived.Test.YtpcnpacllkiieaaGreatDoorAtMath
import Derived.Test.YtpcnpacllkiieaaGreatDoorClk4
namespace Go.Proofs.YtpcnpacllkiieaaGreatDoor
open Go.RowKit
namespace Atf
open Sol Clk
theorem kind_any (k : Int) (w : World) :
    Calls Tryz.prog 105 #[.int .i64 k] w fun e w' => e = .returned (.bool (isK k)) ∧ w = w' := by
  have hk : k = 1 ∨ k = 2 ∨ k = 3 ∨ ¬ (k = 1 ∨ k = 2 ∨ k = 3) := by omega
  rcases hk with rfl | rfl | rfl | hk
  · go_enter Tryz.func105, Tryz.ntmps105
    go_wp2
    go_ret
    exact ⟨rfl, rfl⟩
  · go_enter Tryz.func105, Tryz.ntmps105
    go_wp2
    go_ret
    exact ⟨rfl, rfl⟩
  · go_enter Tryz.func105, Tryz.ntmps105
    go_wp2
    go_ret
    exact ⟨rfl, rfl⟩
  · have c1 : (k == 1) = false := beq_eq_false_iff_ne.2 (by omega)
    have c2 : (k == 2) = false := beq_eq_false_iff_ne.2 (by omega)
    have c3 : (k == 3) = false := beq_eq_false_iff_ne.2 (by omega)
    have H : Hid (isK k = false) := Lib.hid (decide_eq_false (by omega))
    clear hk
    go_enter Tryz.func105, Tryz.ntmps105
    go_wp2
    go_ret
    exact ⟨ret_b H.out.symm, rfl⟩
theorem kind_to (k : Int) (b : Bool) (w : World) (h : Hid (isK k = b)) :
    Calls Tryz.prog 105 #[.int .i64 k] w fun e w' => e = .returned (.bool b) ∧ w = w' :=
  (kind_any k w).mono fun _ _ ⟨he, hw⟩ => ⟨by rw [he, h.out], hw⟩
set_option maxHeartbeats 1600000 in
theorem letter_any (c : UInt8) (w : World) :
    Calls Tryz.prog 127 #[.int .u8 (c.toNat : Int)] w fun e w' => e = .returned (.tuple #[.int .i64 (ltV c), .bool (ltB c)]) ∧ w = w' := by
  by_cases h : ltB c = true
  · have hc : c = 119 ∨ c = 87 ∨ c = 115 ∨ c = 83 ∨ c = 117 ∨ c = 85 ∨ c = 103 ∨ c = 71 ∨ c = 122 ∨ c = 90 := of_decide_eq_true h
    clear h
    rcases hc with rfl | rfl | rfl | rfl | rfl | rfl | rfl | rfl | rfl | rfl
    all_goals
      go_enter Tryz.func127, Tryz.ntmps127
      go_wp2
      go_ret2
      exact ⟨rfl, rfl⟩
  · have hn : ¬ (c = 119 ∨ c = 87 ∨ c = 115 ∨ c = 83 ∨ c = 117 ∨ c = 85 ∨ c = 103 ∨ c = 71 ∨ c = 122 ∨ c = 90) := fun e => h (decide_eq_true e)
    have HB : Hid (ltB c = false) := Lib.hid (by simpa using h)
    have HV : Hid (ltV c = 1) := Lib.hid (by
      rw [ltV]
      by_cases e1 : c = 119 ∨ c = 87
      · rw [if_pos e1]
      · rw [if_neg e1, if_neg (fun e => hn (by rcases e with e | e <;> simp [e])), if_neg (fun e => hn (by rcases e with e | e | e | e | e | e <;> simp [e]))])
    have key : ∀ k : UInt8, c ≠ k → ((c.toNat : Int) == (k.toNat : Int)) = false := fun k hk => beq_eq_false_iff_ne.2 (fun e => hk (UInt8.toNat_inj.1 (by omega)))
    have d1 : ((c.toNat : Int) == 119) = false := key 119 (fun e => hn (by simp [e]))
    have d2 : ((c.toNat : Int) == 87) = false := key 87 (fun e => hn (by simp [e]))
    have d3 : ((c.toNat : Int) == 115) = false := key 115 (fun e => hn (by simp [e]))
    have d4 : ((c.toNat : Int) == 83) = false := key 83 (fun e => hn (by simp [e]))
    have d5 : ((c.toNat : Int) == 117) = false := key 117 (fun e => hn (by simp [e]))
    have d6 : ((c.toNat : Int) == 85) = false := key 85 (fun e => hn (by simp [e]))
    have d7 : ((c.toNat : Int) == 103) = false := key 103 (fun e => hn (by simp [e]))
    have d8 : ((c.toNat : Int) == 71) = false := key 71 (fun e => hn (by simp [e]))
    have d9 : ((c.toNat : Int) == 122) = false := key 122 (fun e => hn (by simp [e]))
    have d10 : ((c.toNat : Int) == 90) = false := key 90 (fun e => hn (by simp [e]))
    clear key hn h
    go_enter Tryz.func127, Tryz.ntmps127
    go_wp2
    go_ret2
    exact ⟨ret_ib HV.out.symm HB.out.symm, rfl⟩
theorem letter_to (c : UInt8) (v : Int) (b : Bool) (w : World) (h : Hid (ltV c = v ∧ ltB c = b)) :
    Calls Tryz.prog 127 #[.int .u8 (c.toNat : Int)] w fun e w' => e = .returned (.tuple #[.int .i64 v, .bool b]) ∧ w = w' :=
  (letter_any c w).mono fun _ _ ⟨he, hw⟩ => ⟨by rw [he, h.out.1, h.out.2], hw⟩

set_option maxHeartbeats 800000 in
theorem acheck_any (n k : Int) (w : World) :
    Calls Tryz.prog 67 #[.agg #[.int .i64 n, .int .i64 k]] w fun e w' => e = .returned (.int .i64 (atE n k)) ∧ w.alloc (Obj.cells #[.int .i64 n, .int .i64 k] 25) = w' := by
  by_cases h1 : n < -345600
  · have H : Hid (atE n k = 9) := Lib.hid (by rw [atE, atOk, inS, decide_eq_false (by omega)]; rfl)
    go_enter Tryz.func67, Tryz.ntmps67
    go_wp2
    go_ret
    exact ⟨ret_i H.out.symm, rfl⟩
  · by_cases h2 : 345600 < n
    · have H : Hid (atE n k = 9) := Lib.hid (by rw [atE, atOk, inS, decide_eq_false (by omega)]; rfl)
      go_enter Tryz.func67, Tryz.ntmps67
      go_wp2
      go_ret
      exact ⟨ret_i H.out.symm, rfl⟩
    · cases hb : isK k with
      | false =>
        have H : Hid (atE n k = 9) := Lib.hid (by rw [atE, atOk, hb]; simp)
        have HB := Lib.hid hb
        clear hb
        go_enter Tryz.func67, Tryz.ntmps67
        go_wp2_with fail
        refine (kind_to _ _ _ HB).mono ?_
        rintro e w1 ⟨rfl, rfl⟩
        go_wp2
        go_ret
        exact ⟨ret_i H.out.symm, rfl⟩
      | true =>
        have H : Hid (atE n k = 0) := Lib.hid (by rw [atE, atOk, hb, inS, decide_eq_true ⟨by omega, by omega⟩]; rfl)
        have HB := Lib.hid hb
        clear hb
        go_enter Tryz.func67, Tryz.ntmps67
        go_wp2_with fail
        refine (kind_to _ _ _ HB).mono ?_
        rintro e w1 ⟨rfl, rfl⟩
        go_wp2
        go_ret
        exact ⟨ret_i H.out.symm, rfl⟩
theorem acheck_to (n k c : Int) (w : World) (h : Hid (atE n k = c)) :
    Calls Tryz.prog 67 #[.agg #[.int .i64 n, .int .i64 k]] w fun e w' => e = .returned (.int .i64 c) ∧ w.alloc (Obj.cells #[.int .i64 n, .int .i64 k] 25) = w' :=
  (acheck_any n k w).mono fun _ _ ⟨he, hw⟩ => ⟨by rw [he, h.out], hw⟩

set_option maxHeartbeats 1600000 in
theorem atext_any (n k : Int) (w : World) (hp : Pow w) :
    Calls Tryz.prog 44 #[.agg #[.int .i64 n, .int .i64 k]] w fun e w' => e = .returned (.tuple #[.string ⟨(atT n k).toArray⟩, .int .i64 (atE n k)]) ∧ Below w.heap.size w w' := by
  have HP := Lib.hid hp
  clear hp
  cases ho : atOk n k with
  | false =>
    have HE : Hid (atE n k = 9) := Lib.hid (by rw [atE, ho]; rfl)
    have HT : Hid (atT n k = []) := Lib.hid (by rw [atT, ho]; rfl)
    clear ho
    go_enter Tryz.func44, Tryz.ntmps44
    go_wp2_with fail
    refine (acheck_to _ _ _ _ HE).mono ?_
    rintro e w1 ⟨rfl, rfl⟩
    go_wp2
    go_ret2
    exact ⟨ret_si (by rw [HT.out]) HE.out.symm, by repeat (first | exact Below.refl _ _ | refine below_drewN ?_ _ | refine Below.alloc ?_ (by simp; try omega) _)⟩
  | true =>
    have HE : Hid (atE n k = 0) := Lib.hid (by rw [atE, if_pos ho])
    have HT : Hid (atT n k = ctL n ++ suf k) := Lib.hid (by rw [atT, if_pos ho])
    have hh := ho
    rw [atOk, Bool.and_eq_true] at hh
    have hn : -345600 ≤ n ∧ n ≤ 345600 := of_decide_eq_true hh.1
    have hk : 1 ≤ k ∧ k ≤ 3 := of_decide_eq_true hh.2
    have hlen := ct_len hn.1 hn.2
    obtain ⟨c1, c2⟩ := ct_in hn
    obtain ⟨C, hC⟩ : ∃ C, ctL n = C := ⟨_, rfl⟩
    rw [hC] at HT c2 hlen
    have CT := Lib.hid (And.intro c2 c1)
    have hk3 : k = 1 ∨ k = 2 ∨ k = 3 := by omega
    clear ho hh hn hk c1 c2 hC
    rcases hk3 with rfl | rfl | rfl
    · go_enter Tryz.func44, Tryz.ntmps44
      go_wp2_with fail
      refine (acheck_to _ _ _ _ HE).mono ?_
      rintro e w1 ⟨rfl, rfl⟩
      go_wp2_with fail
      refine (ctext_to _ _ _ _ (HP.out.stays (by repeat (first | exact Below.refl _ _ | refine below_drewN ?_ _ | refine Below.alloc ?_ (by simp; try omega) _))) CT).mono ?_
      rintro e w1 ⟨rfl, hb⟩
      have z1 : w1.cell? ⟨w.heap.size, 1, none⟩ = some (.int .i64 1) := (hb.cell (p := ⟨w.heap.size, 1, none⟩) (by simp; omega)).trans (by go_simp)
      go_wp2
      go_ret2
      exact ⟨ret_si (bytes_eq (by rw [HT.out]; simp [suf])) HE.out.symm, Below.trans (by repeat (first | exact Below.refl _ _ | refine below_drewN ?_ _ | refine Below.alloc ?_ (by simp; try omega) _)) (hb.mono (by simp; try omega))⟩
    · go_enter Tryz.func44, Tryz.ntmps44
      go_wp2_with fail
      refine (acheck_to _ _ _ _ HE).mono ?_
      rintro e w1 ⟨rfl, rfl⟩
      go_wp2_with fail
      refine (ctext_to _ _ _ _ (HP.out.stays (by repeat (first | exact Below.refl _ _ | refine below_drewN ?_ _ | refine Below.alloc ?_ (by simp; try omega) _))) CT).mono ?_
      rintro e w1 ⟨rfl, hb⟩
      have z1 : w1.cell? ⟨w.heap.size, 1, none⟩ = some (.int .i64 2) := (hb.cell (p := ⟨w.heap.size, 1, none⟩) (by simp; omega)).trans (by go_simp)
      go_wp2
      go_ret2
      exact ⟨ret_si (bytes_eq (by rw [HT.out]; simp [suf])) HE.out.symm, Below.trans (by repeat (first | exact Below.refl _ _ | refine below_drewN ?_ _ | refine Below.alloc ?_ (by simp; try omega) _)) (hb.mono (by simp; try omega))⟩
    · go_enter Tryz.func44, Tryz.ntmps44
      go_wp2_with fail
      refine (acheck_to _ _ _ _ HE).mono ?_
      rintro e w1 ⟨rfl, rfl⟩
      go_wp2_with fail
      refine (ctext_to _ _ _ _ (HP.out.stays (by repeat (first | exact Below.refl _ _ | refine below_drewN ?_ _ | refine Below.alloc ?_ (by simp; try omega) _))) CT).mono ?_
      rintro e w1 ⟨rfl, hb⟩
      have z1 : w1.cell? ⟨w.heap.size, 1, none⟩ = some (.int .i64 3) := (hb.cell (p := ⟨w.heap.size, 1, none⟩) (by simp; omega)).trans (by go_simp)
      go_wp2
      go_ret2
      exact ⟨ret_si (bytes_eq (by rw [HT.out]; simp [suf])) HE.out.symm, Below.trans (by repeat (first | exact Below.refl _ _ | refine below_drewN ?_ _ | refine Below.alloc ?_ (by simp; try omega) _)) (hb.mono (by simp; try omega))⟩
theorem atext_to (n k c : Int) (T : List UInt8) (w : World) (hp : Pow w) (h : Hid (atT n k = T ∧ atE n k = c)) :
    Calls Tryz.prog 44 #[.agg #[.int .i64 n, .int .i64 k]] w fun e w' => e = .returned (.tuple #[.string ⟨T.toArray⟩, .int .i64 c]) ∧ Below w.heap.size w w' :=
  (atext_any n k w hp).mono fun _ _ ⟨he, hw⟩ => ⟨by rw [he, h.out.1, h.out.2], hw⟩
end Atf
end Go.Proofs.YtpcnpacllkiieaaGreatDoor
